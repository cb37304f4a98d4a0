/-
  A printer: its builder's methods; plain.
-/
import Derived.Test.YtfknckbclddnmaaSynFs
import Derived.Lib.Builder
import Derived.Lib.AppendStr
import Derived.Lib.UnsafeStr
import Derived.Laws.Externs
namespace Go.Proofs.Ytfknckbclddnmaa
open Go.RowKit Lx

/-- Block g is a printer that has written the bytes l. -/
def Bld (B g : Nat) (l : List UInt8) (w : World) : Prop := Lib.IsBuilder 65 5 B g (Lib.byteCells l) w ∧ l.length ≤ 20000
/-- What is no row of bytes and not the printer stays. -/
structure Kp (g : Nat) (w w' : World) : Prop where
  size : w.heap.size ≤ w'.heap.size
  arr : ∀ k T cs, T ≠ 5 → k ≠ g → Arr w k T cs → Arr w' k T cs
section
variable {g : Nat} {w w' w2 : World}
theorem Kp.refl (g : Nat) (w : World) : Kp g w w := ⟨Nat.le_refl _, fun _ _ _ _ _ h => h⟩
theorem Kp.trans (h : Kp g w w') (k : Kp g w' w2) : Kp g w w2 := ⟨Nat.le_trans h.size k.size, fun j T cs hT hj hA => k.arr j T cs hT hj (h.arr j T cs hT hj hA)⟩
theorem Kp.below (h : Below w.heap.size w w') : Kp g w w' := ⟨h.size, fun _ _ _ _ _ hA => hA.kept h⟩
theorem Kp.set (i : Nat) (u : Value) : Kp g w (w.setCell ⟨g, i, none⟩ u) := ⟨by simp [World.setCell], fun _ _ _ _ hj hA => hA.far hj u⟩
theorem Kp.row {B n : Nat} {v : Value} {us : List Value} (h : w.ownsRow B 5 1 v n us) (hg : w.grownBy w' v.ownBlock) : Kp g w w' := ⟨hg.size, fun _ _ _ hT _ hA => hA.row h hT hg⟩
end
theorem sizeBld : (Try.prog.info? 63).map (·.size) = some 2 := by kernel_rfl
theorem liesBld : liesAt Try.prog Try.prog.depth 65 (2 / Try.prog.cellsOf 65) 0 63 1 = true := by kernel_rfl
theorem cellsByte1 : Try.prog.cellsOf 5 = 1 := by kernel_rfl

set_option maxHeartbeats 1000000 in
set_option maxRecDepth 100000 in
theorem bldUsed_c (b : Nat) (w : World) (h0 : w.cell? ⟨b, 0, none⟩ = some (.pointer (some ⟨b, 0, none⟩))) :
    Calls Try.prog 75 #[.pointer (some ⟨b, 0, none⟩)] w fun e w' => e = .returned (.tuple #[]) ∧ w' = w := by
  obtain ⟨j, hj, _⟩ := Option.map_eq_some_iff.1 sizeBld
  have hne := Lib.run_neq_ptr_same w ⟨b, 0, none⟩ Try.underlying60 hj
  go_enter Try.func75, Try.ntmps75
  go_wp2
  go_end0
  exact ⟨rfl, rfl⟩
set_option maxHeartbeats 1000000 in
set_option maxRecDepth 100000 in
theorem bldFresh_c (b : Nat) (w : World) (h0 : w.cell? ⟨b, 0, none⟩ = some (.pointer none)) (hsh : w.shape? b = some (65, 2)) (hfz : w.frozen? ⟨b, 0, none⟩ = false) :
    Calls Try.prog 75 #[.pointer (some ⟨b, 0, none⟩)] w fun e w' => e = .returned (.tuple #[]) ∧ w' = w.setCell ⟨b, 0, none⟩ (.pointer (some ⟨b, 0, none⟩)) := by
  obtain ⟨j, hj, hjs⟩ := Option.map_eq_some_iff.1 sizeBld
  have h1 := Lib.run_to_unsafe (P := Try.prog) w ⟨b, 0, none⟩ Try.underlying60 Try.underlying99 hj (by rw [hjs]; decide) hsh (Nat.zero_lt_succ 1)
  have h2 := Lib.run_from_unsafe (P := Try.prog) w ⟨b, 0, none⟩ Try.underlying99 Try.underlying60 hj hsh liesBld
  go_enter Try.func75, Try.ntmps75
  go_wp2
  rw [run_callFunc_extern Try.func82 (by kernel_rfl) (by kernel_rfl) (by kernel_rfl) (e := Extern.AbiNoEscape.same) (by kernel_rfl)]
  rw [Lib.run_noEscape]
  simp only [Result.andThen]
  rw [Oper.upon_value]
  go_wp2
  go_end0
  exact ⟨rfl, rfl⟩
theorem bldCheck_c (B b : Nat) (bs : List Value) (w : World) (h : Lib.IsBuilder 65 5 B b bs w) :
    Calls Try.prog 75 #[.pointer (some ⟨b, 0, none⟩)] w fun e w' => e = .returned (.tuple #[]) ∧ (Lib.BuilderAt 65 5 B b (.pointer (some ⟨b, 0, none⟩)) bs w' ∧ Below B w w' ∧ Kp b w w') := by
  rcases h with h | h
  · refine (bldFresh_c b w h.cell0 h.shape h.frozen0).mono ?_
    rintro e w' ⟨rfl, rfl⟩
    exact ⟨rfl, h.used _, (Below.refl B w).setCell (p := ⟨b, 0, none⟩) h.1 _, Kp.set 0 _⟩
  · refine (bldUsed_c b w h.cell0).mono ?_
    rintro e w' ⟨rfl, rfl⟩
    exact ⟨rfl, h, Below.refl B _, Kp.refl _ _⟩
set_option maxHeartbeats 1000000 in
set_option maxRecDepth 100000 in
theorem bldLen_c (B b : Nat) (bs : List Value) (w : World) (h : Lib.IsBuilder 65 5 B b bs w) :
    Calls Try.prog 59 #[.pointer (some ⟨b, 0, none⟩)] w fun e w' => e = .returned (.int .i64 bs.length) ∧ w = w' := by
  obtain ⟨p, hB, v, hbk, hown, hne⟩ : ∃ p, Lib.BuilderAt 65 5 B b p bs w := by
    rcases h with h | h
    · exact ⟨_, h⟩
    · exact ⟨_, h⟩
  obtain ⟨ao, cap, rfl⟩ : ∃ ao cap, v = .slice ao bs.length cap := by
    rcases hown.2 with ⟨hv, h0⟩ | ⟨g, cap, cur, hv, _⟩
    · exact ⟨none, 0, by rw [hv, h0]⟩
    · exact ⟨_, _, hv⟩
  have c1 : w.cell? ⟨b, 1, none⟩ = some (.slice ao bs.length cap) := by rw [Lib.cell_of_heap hbk]; rfl
  go_enter Try.func59, Try.ntmps59
  go_wp2
  go_ret
  exact ⟨rfl, rfl⟩
set_option maxHeartbeats 2000000 in
set_option maxRecDepth 100000 in
theorem bldWrite_c (B b : Nat) (bs : List Value) (s : ByteArray) (w : World) (h : Lib.IsBuilder 65 5 B b bs w) (hlen : bs.length + s.size ≤ 140737488355328) (hBw : B ≤ w.heap.size) :
    Calls Try.prog 60 #[.pointer (some ⟨b, 0, none⟩), .string s] w fun e w' => e = .returned (.tuple #[.int .i64 s.size, .nilIface]) ∧ (Lib.BuilderAt 65 5 B b (.pointer (some ⟨b, 0, none⟩)) (bs ++ Lib.strCells s) w' ∧ Below B w w' ∧ Kp b w w') := by
  obtain ⟨i0, hi, hz0, hz1, hz2⟩ := info_parts info5
  have HC := Lib.hid (bldCheck_c B b bs w h)
  clear h
  go_enter Try.func60, Try.ntmps60
  go_wp2_with fail
  refine HC.out.mono ?_
  rintro e w1 ⟨rfl, h1, hb1, hk1⟩
  obtain ⟨hB, v, hbk, hown, hne⟩ := h1
  have c0 : w1.cell? ⟨b, 0, none⟩ = some (.pointer (some ⟨b, 0, none⟩)) := by rw [Lib.cell_of_heap hbk]; rfl
  have c1 : w1.cell? ⟨b, 1, none⟩ = some v := by rw [Lib.cell_of_heap hbk]; rfl
  go_wp2_with (at_builtin; refine Lib.wpList_append_own_string _ rfl _ _ 61 9 rfl B 5 i0 Try.underlying61 Try.underlying9 hi hz0 hz1 hz2 _ _ _ rfl hown s rfl ?c3 ?c4 ?c5 ?_)
  case c3 => unfold maxLen; omega
  case c4 => omega
  case c5 => have := hb1.size; omega
  intro v' w2 hown' hgrow _
  have hlt : b < w1.heap.size := by
    rcases Nat.lt_or_ge b w1.heap.size with h' | h'
    · exact h'
    · simp [Array.getElem?_eq_none h'] at hbk
  have hb2 : w2.heap[b]? = some (.cells #[.pointer (some ⟨b, 0, none⟩), v] 65 (0, 0)) := by
    rw [hgrow.block b hlt (fun e => hne e.symm)]
    exact hbk
  have d0 : w2.cell? ⟨b, 0, none⟩ = some (.pointer (some ⟨b, 0, none⟩)) := by rw [Lib.cell_of_heap hb2]; rfl
  have d1 : w2.cell? ⟨b, 1, none⟩ = some v := by rw [Lib.cell_of_heap hb2]; rfl
  have f1 : w2.frozen? ⟨b, 1, none⟩ = false := Lib.frozen_of_heap hb2 1
  obtain ⟨ao, n', cap, rfl⟩ : ∃ ao n' cap, v' = .slice ao n' cap := by
    rcases hown'.2 with ⟨hv, _⟩ | ⟨g, cap, cur, hv, _⟩
    · exact ⟨_, _, _, hv⟩
    · exact ⟨_, _, _, hv⟩
  go_wp2
  go_ret2
  refine ⟨rfl, ?_, ?_, (hk1.trans (Kp.row hown hgrow)).trans (Kp.set 1 _)⟩
  · exact Lib.BuilderAt.put (T := 65) (e := 5) hB hb2 (bs' := bs ++ Lib.strCells s) (by simpa [Lib.strCells_length] using hown') (by decide)
  · exact (hb1.grown hgrow (by have := hb1.size; omega) (fun k hk => (hown.lt k hk).1)).setCell (p := ⟨b, 1, none⟩) hB _
set_option maxHeartbeats 1000000 in
set_option maxRecDepth 100000 in
theorem bldString_c (B b : Nat) (l : List UInt8) (w : World) (h : Lib.IsBuilder 65 5 B b (Lib.byteCells l) w) (h0 : l ≠ []) :
    Calls Try.prog 24 #[.pointer (some ⟨b, 0, none⟩)] w fun e w' => e = .returned (.string ⟨l.toArray⟩) ∧ Below B w w' := by
  obtain ⟨p, hB, v, hbk, hown, hne⟩ : ∃ p, Lib.BuilderAt 65 5 B b p (Lib.byteCells l) w := by
    rcases h with h | h
    · exact ⟨_, h⟩
    · exact ⟨_, h⟩
  have hl0 : l.length ≠ 0 := by simpa using h0
  rw [Lib.byteCells_length] at hown
  obtain ⟨g, cap, cur, rfl, hbg, hg, hnc, hcm, hcs, htake⟩ : ∃ g cap cur, v = .slice (some ⟨g, 0, none⟩) l.length cap ∧ B ≤ g ∧ w.heap[g]? = some (.cells cur 5 (0, 0)) ∧ l.length ≤ cap ∧ cap ≤ maxLen ∧ cur.size = cap * 1 ∧ cur.toList.take (l.length * 1) = Lib.byteCells l := by
    rcases hown.2 with ⟨_, hz⟩ | ⟨g, cap, cur, hv, r⟩
    · exact absurd hz hl0
    · exact ⟨g, cap, cur, hv, r⟩
  have c1 : w.drew.cell? ⟨b, 1, none⟩ = some (.slice (some ⟨g, 0, none⟩) l.length cap) := by
    have : w.drew.heap[b]? = some (.cells #[p, .slice (some ⟨g, 0, none⟩) l.length cap] 65 (0, 0)) := hbk
    rw [Lib.cell_of_heap this]; rfl
  have hSD : (Builtin.unsafeSliceData_ #[61] 83 #[.slice (some ⟨g, 0, none⟩) l.length cap]).run Try.prog w.drew = .ok (.pointer (some ⟨g, 0, none⟩)) w.drew :=
    Lib.run_unsafeSliceData_row _ _ _ _ _ _ (by omega)
  have hUS : (Builtin.unsafeString_ #[83, 3] 9 #[.pointer (some ⟨g, 0, none⟩), .int .i64 l.length]).run Try.prog w.drew = .ok (.string ⟨l.toArray⟩) (w.drew.freeze ⟨g, 0, none⟩ l.length) := by
    refine Lib.run_unsafeString_row w.drew 83 3 9 5 Try.underlying83 cellsByte1 g cur.size (by have hg' : w.drew.heap[g]? = some (.cells cur 5 (0, 0)) := hg; simp [World.shape?, hg']) l h0 (by omega) (by unfold maxLen at hcm; omega) ?_
    intro j x hx
    have := hown.cells (g := g) rfl j (.int .u8 x.toNat) (by simp [Lib.byteCells, hx])
    exact this
  go_enter Try.func24, Try.ntmps24
  go_wp2
  go_region
  all_goals (go_wp2; go_ret; exact ⟨rfl, Lib.below_freeze (Below.drew (Below.refl B w)) (p := ⟨g, 0, none⟩) hbg _⟩)

namespace Lx
/-- Does x fit behind l? -/
def fitB (l x : List UInt8) (ok : Bool) : Bool := ok && decide (l.length + x.length ≤ 20000)
theorem fit_app (l x y : List UInt8) (a b : Bool) : fitB l (x ++ y) (a && b) = (fitB l x a && fitB (l ++ x) y b) := by
  unfold fitB
  rw [Bool.eq_iff_iff]
  simp only [Bool.and_eq_true, decide_eq_true_eq, List.length_append]
  constructor
  · rintro ⟨⟨h1, h2⟩, h3⟩
    exact ⟨⟨h1, by omega⟩, h2, by omega⟩
  · rintro ⟨⟨h1, h2⟩, h3, h4⟩
    exact ⟨⟨h1, h3⟩, by omega⟩
theorem fit_no {l x : List UInt8} {a : Bool} (h : fitB l x a = false) (y : List UInt8) (b : Bool) : fitB l (x ++ y) (a && b) = false := by
  rw [fit_app, h]; rfl
end Lx
/-- What a method of the printer hands back that writes x, if ok. -/
def PrOut (B g : Nat) (l x : List UInt8) (ok : Bool) (w w' : World) (e : Ending) : Prop := ∃ b, b = fitB l x ok ∧ e = .returned (.bool b) ∧ (b = true → Bld B g (l ++ x) w') ∧ Below B w w' ∧ Kp g w w'
theorem Bld.lt {B g : Nat} {l : List UInt8} {w : World} (h : Bld B g l w) : g < w.heap.size := by
  rcases h.1 with h | h <;> exact h.lt
theorem Bld.low {B g : Nat} {l : List UInt8} {w w' : World} (h : Bld B g l w) (hb : Below w.heap.size w w') : Bld B g l w' := by
  refine ⟨?_, h.2⟩
  have step : ∀ p, Lib.BuilderAt 65 5 B g p (Lib.byteCells l) w → Lib.BuilderAt 65 5 B g p (Lib.byteCells l) w' := by
    intro p ⟨hB, v, hbk, hown, hne⟩
    exact ⟨hB, v, (hb.block g (Array.getElem?_eq_some_iff.1 hbk).1).trans hbk, ownsRow_keep hown hb, hne⟩
  rcases h.1 with h | h
  · exact Or.inl (step _ h)
  · exact Or.inr (step _ h)

set_option maxHeartbeats 2000000 in
set_option maxRecDepth 100000 in
theorem prPlain_c (B g : Nat) (l : List UInt8) (s : ByteArray) (w : World) (h : Bld B g l w) (hB : B ≤ w.heap.size) (hs : s.size ≤ 1099511627776) :
    Calls Try.prog 39 #[.pointer (some ⟨g, 0, none⟩), .string s] w fun e w' => PrOut B g l (bys s) true w w' e := by
  have HL := bldLen_c B g _ w h.1
  have hl := h.2
  rw [Lib.byteCells_length] at HL
  have HL := Lib.hid HL
  have hw : IntKind.i64.wrap (20000 - (l.length : Int)) = 20000 - (l.length : Int) := by rw [IntWalk.i64_in _ (by omega)]
  by_cases hf : l.length + s.size ≤ 20000
  · have HW := Lib.hid (bldWrite_c B g _ s w h.1 (by rw [Lib.byteCells_length]; omega) hB)
    have c1 : ¬ ((s.size : Int) > 20000 - (l.length : Int)) := by omega
    have hfit : Hid (true = fitB l (bys s) true) := by
      show _ = _
      unfold fitB
      rw [bys_len, decide_eq_true hf]; rfl
    have hlen : Hid ((l ++ bys s).length ≤ 20000) := by show _ ≤ _; rw [List.length_append, bys_len]; exact hf
    clear h hf
    go_enter Try.func39, Try.ntmps39
    go_wp2_with fail
    refine HL.out.mono ?_
    rintro e w1 ⟨rfl, rfl⟩
    go_wp2_with fail
    refine HW.out.mono ?_
    rintro e w1 ⟨rfl, hA, hb, hkp⟩
    have hA := Lib.hid hA
    have hb := Lib.hid hb
    clear HW HL
    go_wp2_with fail
    go_ret
    refine ⟨true, hfit.out, rfl, fun _ => ⟨Or.inr ?_, hlen.out⟩, hb.out, hkp⟩
    have e : Lib.byteCells (l ++ bys s) = Lib.byteCells l ++ Lib.strCells s := by
      rw [Lib.strCells_eq]
      simp [Lib.byteCells, bys]
    rw [e]
    exact hA.out
  · have c1 : (s.size : Int) > 20000 - (l.length : Int) := by omega
    have hfit : Hid (false = fitB l (bys s) true) := by
      show _ = _
      unfold fitB
      rw [bys_len, decide_eq_false hf]; rfl
    clear h hf
    go_enter Try.func39, Try.ntmps39
    go_wp2_with fail
    refine HL.out.mono ?_
    rintro e w1 ⟨rfl, rfl⟩
    go_wp2_with fail
    go_ret
    exact ⟨false, hfit.out, rfl, fun e => (by cases e), Below.refl _ _, Kp.refl _ _⟩
end Go.Proofs.Ytfknckbclddnmaa
