/-
  The schedule of the words: digest.schedule.
-/
import Derived.Test.YtgomconcfjllcaaDoorDigWord
import Derived.StillTailTactics
namespace Go.Proofs.YtgomconcfjllcaaDoor
open Go.RowKit Dig

namespace Dig
theorem sch_len (b : List Int) (t : Nat) : (sch b t).length = t := by
  induction t with
  | zero => rfl
  | succ t ih => rw [sch, List.length_append, ih]; rfl
theorem wd_lt (b : List Int) (o : Nat) (h : ∀ i, (b.getD i 0).toNat ≤ 255) : wd b o < 4294967296 := by
  have h0 := h o; have h1 := h (o + 1); have h2 := h (o + 2); have h3 := h (o + 3)
  unfold wd
  omega
theorem sch_lt (b : List Int) (h : ∀ i, (b.getD i 0).toNat ≤ 255) (t : Nat) : ∀ i, (sch b t).getD i 0 < 4294967296 := by
  induction t with
  | zero => intro i; simp [sch]
  | succ t ih =>
    intro i
    rw [sch, List.getD_eq_getElem?_getD]
    rcases Nat.lt_trichotomy i t with hi | hi | hi
    · rw [List.getElem?_append_left (by rw [sch_len]; exact hi), ← List.getD_eq_getElem?_getD]
      exact ih i
    · subst hi
      rw [List.getElem?_append_right (by rw [sch_len]; omega), sch_len, Nat.sub_self]
      simp only [List.getElem?_cons_zero, Option.getD_some]
      split
      · exact wd_lt b _ h
      · exact Nat.mod_lt _ (by omega)
    · rw [List.getElem?_eq_none (by simp [sch_len]; omega)]
      simp
theorem wd_or (x0 x1 x2 x3 : Nat) (h0 : x0 ≤ 255) (h1 : x1 ≤ 255) (h2 : x2 ≤ 255) (h3 : x3 ≤ 255) :
    bits .or .u32 (bits .or .u32 (bits .or .u32 (IntKind.u32.wrap (IntKind.u32.wrap (x0 : Int) * 16777216)) (IntKind.u32.wrap (IntKind.u32.wrap (x1 : Int) * 65536))) (IntKind.u32.wrap (IntKind.u32.wrap (x2 : Int) * 256))) (IntKind.u32.wrap (x3 : Int))
      = ((x0 * 16777216 + x1 * 65536 + x2 * 256 + x3 : Nat) : Int) := by
  have e0 : IntKind.u32.wrap (IntKind.u32.wrap (x0 : Int) * 16777216) = ((x0 * 16777216 : Nat) : Int) := by rw [IntKind.wrap_u32', IntKind.wrap_u32']; omega
  have e1 : IntKind.u32.wrap (IntKind.u32.wrap (x1 : Int) * 65536) = ((x1 * 65536 : Nat) : Int) := by rw [IntKind.wrap_u32', IntKind.wrap_u32']; omega
  have e2 : IntKind.u32.wrap (IntKind.u32.wrap (x2 : Int) * 256) = ((x2 * 256 : Nat) : Int) := by rw [IntKind.wrap_u32', IntKind.wrap_u32']; omega
  have e3 : IntKind.u32.wrap (x3 : Int) = ((x3 : Nat) : Int) := by rw [IntKind.wrap_u32']; omega
  rw [e0, e1, e2, e3, u32_or_nat _ _ (by omega) (by omega), nat_join 24 _ _ (by omega) (by omega), u32_or_nat _ _ (by omega) (by omega), nat_join 16 _ _ (by omega) (by omega), u32_or_nat _ _ (by omega) (by omega), nat_join 8 _ _ (by omega) (by omega)]
theorem nxt_sum (a b c d : Nat) : IntKind.u32.wrap (IntKind.u32.wrap (IntKind.u32.wrap ((a : Int) + (b : Int)) + (c : Int)) + (d : Int)) = (((a + b + c + d) % 4294967296 : Nat) : Int) := by
  rw [IntKind.wrap_u32', IntKind.wrap_u32', IntKind.wrap_u32']
  omega
end Dig
theorem still_of {P : Program} {f : FuncId} {args : Array Value} {w : World} {v : Value} (h : Calls P f args w fun e w' => e = .returned v ∧ w = w') : Calls P f args w fun e w'' => e = .returned v ∧ w'' = w :=
  h.mono fun _ _ ⟨he, hm⟩ => ⟨he, hm.symm⟩

def u32s (ws : List Nat) : List Value := ws.map fun x : Nat => Value.int .u32 (x : Int)
/-- The words so far, zeros behind them. -/
def wcells (ws : List Nat) : List Value := u32s ws ++ List.replicate (64 - ws.length) (.int .u32 0)
theorem u32s_len (ws : List Nat) : (u32s ws).length = ws.length := by simp [u32s]
theorem wcells_len {ws : List Nat} (h : ws.length ≤ 64) : (wcells ws).length = 64 := by simp [wcells, u32s]; omega
theorem wcells_all {ws : List Nat} (h : ws.length = 64) : wcells ws = u32s ws := by simp [wcells, h]
theorem wcells_at {ws : List Nat} {i : Nat} (h : i < ws.length) : (wcells ws)[i]? = some (.int .u32 ((ws.getD i 0 : Nat) : Int)) := by
  rw [wcells, List.getElem?_append_left (by rw [u32s_len]; exact h)]
  simp [u32s, List.getD, h]
theorem wcells_new {ws : List Nat} {t : Nat} (h : ws.length = t) (ht : t < 64) : (wcells ws)[t]? = some (.int .u32 0) := by
  subst h
  rw [wcells, List.getElem?_append_right (by rw [u32s_len]; exact Nat.le_refl _), u32s_len, Nat.sub_self, List.getElem?_replicate, if_pos (by omega)]
theorem wcells_one (ws : List Nat) : ∀ v ∈ wcells ws, v.oneCell' = true := by
  intro v hv
  rcases List.mem_append.1 hv with h | h
  · obtain ⟨_, _, rfl⟩ := List.mem_map.1 h
    rfl
  · rw [List.eq_of_mem_replicate h]; rfl
theorem wcells_set {ws : List Nat} {t x : Nat} (h : ws.length = t) (ht : t < 64) : (wcells ws).set t (.int .u32 (x : Int)) = wcells (ws ++ [x]) := by
  subst h
  have e : 64 - ws.length = (64 - (ws ++ [x]).length) + 1 := by simp; omega
  unfold wcells
  rw [List.set_append_right _ _ (by rw [u32s_len]; exact Nat.le_refl _), u32s_len, Nat.sub_self, e, List.replicate_succ, List.set_cons_zero]
  simp [u32s]
theorem byte_of_lst {w : World} {ao : Option Addr} {n c : Nat} {xs : List Int} (h : Lst .u8 w ao n c xs) (i : Nat) : (xs.getD i 0).toNat ≤ 255 := by
  have hl := h.len
  by_cases hi : i < n
  · obtain ⟨x, hx, hb, _⟩ := h.at8 i hi
    rw [hx.out]; exact hb
  · rw [List.getD_eq_getElem?_getD, List.getElem?_eq_none (by omega)]
    simp
theorem below_drew {B : Nat} {a w : World} (h : Below B a w) : Below B a w.drew := ⟨h.os, h.tape, h.output, h.size, h.block⟩
theorem Lst.drew {k : IntKind} {w : World} {ao : Option Addr} {n c : Nat} {xs : List Int} (h : Lst k w ao n c xs) : Lst k w.drew ao n c xs := ⟨h.len, h.cap, h.room, h.isSome, h.cell, h.wf⟩
/-- A list that lies below a store. -/
theorem Lst.set' {k : IntKind} {w : World} {ao : Option Addr} {n c : Nat} {xs : List Int} (h : Lst k w ao n c xs) {B : Nat} (hlow : ∀ i, i < n → (pt ao i).block < B) {p : Addr} (hp : B ≤ p.block) (u : Value) : Lst k (w.setCell p u) ao n c xs :=
  h.stored hlow hp u

set_option maxHeartbeats 1600000 in
set_option maxRecDepth 100000 in
theorem schedule_c (ao : Option Addr) (n c : Nat) (xs : List Int) (w : World) (h : Lst .u8 w ao n c xs) (hn : 64 ≤ n) :
    Calls Tryd.prog 39 #[.slice ao n c] w fun e w' => e = .returned (.agg (wcells (sch xs 64)).toArray) ∧ Below w.heap.size w w' := by
  have hlow := Lib.hid (h.block)
  obtain ⟨S, hS⟩ : ∃ S, Hid (S = sch xs 64) := ⟨_, rfl⟩
  rw [← hS.out]
  go_enter Tryd.func39, Tryd.ntmps39
  go_wp2
  go_loopw [6] (fun i wr => ∃ t : Nat, t ≤ 16 ∧ i = .int .i64 t ∧ Arr wr (w.heap.size + 1) 67 (wcells (sch xs t)) ∧ Arr wr w.heap.size 67 (wcells []) ∧ Lst .u8 wr ao n c xs ∧ Below w.heap.size w wr)
    (fun i _ => 16 - (intOf i).toNat)
  case atStart =>
    have b1 : Below w.heap.size w (w.alloc (.cells (List.replicate 64 (Value.int .u32 0)).toArray 67)) := (Below.refl _ _).alloc (Nat.le_refl _) _
    have b2 := b1.alloc b1.size (.cells (List.replicate 64 (Value.int .u32 0)).toArray 67)
    have a2 := Arr.new (w.alloc (.cells (List.replicate 64 (Value.int .u32 0)).toArray 67)) 67 (List.replicate 64 (Value.int .u32 0))
    have a1 := (Arr.new w 67 (List.replicate 64 (Value.int .u32 0))).alloc (.cells (List.replicate 64 (Value.int .u32 0)).toArray 67)
    refine ⟨0, by omega, rfl, ?_, ?_, h.below ?_, ?_⟩
    · rw [show (w.alloc (.cells (List.replicate 64 (Value.int .u32 0)).toArray 67)).heap.size = w.heap.size + 1 by simp] at a2
      exact a2
    · exact a1
    · exact b2
    · exact b2
  case round =>
    obtain ⟨t, ht, rfl, ha, hr, hl, hb⟩ := hrel
    by_cases hlt : t < 16
    · have hcap := hl.cap
      have hroom := hl.room
      have i0 := ix8 hl (4 * t) (4 * (t : Int)) (by omega) (by omega)
      have i1 := ix8 hl (4 * t + 1) (4 * (t : Int) + 1) (by omega) (by omega)
      have i2 := ix8 hl (4 * t + 2) (4 * (t : Int) + 2) (by omega) (by omega)
      have i3 := ix8 hl (4 * t + 3) (4 * (t : Int) + 3) (by omega) (by omega)
      obtain ⟨x0, hx0, b0, c0⟩ := hl.at8 (4 * t) (by omega)
      obtain ⟨x1, hx1, b1, c1⟩ := hl.at8 (4 * t + 1) (by omega)
      obtain ⟨x2, hx2, b2, c2⟩ := hl.at8 (4 * t + 2) (by omega)
      obtain ⟨x3, hx3, b3, c3⟩ := hl.at8 (4 * t + 3) (by omega)
      have w0 := i64w (4 * (t : Int)) (by omega) (by omega)
      have w1 := i64w (4 * (t : Int) + 1) (by omega) (by omega)
      have w2 := i64w (4 * (t : Int) + 2) (by omega) (by omega)
      have w3 := i64w (4 * (t : Int) + 3) (by omega) (by omega)
      have q64 : (t : Int) < 64 := by omega
      have hor := wd_or x0 x1 x2 x3 b0 b1 b2 b3
      obtain ⟨X, hX⟩ : ∃ X : Nat, Hid (X = x0 * 16777216 + x1 * 65536 + x2 * 256 + x3) := ⟨_, rfl⟩
      rw [← hX.out] at hor
      have hwd : Hid (X = wd xs (4 * t)) := by
        show _ = _
        rw [hX.out, wd, hx0.out, hx1.out, hx2.out, hx3.out]
      have hf := ha.frozen t
      have hc : wr.cell? ⟨w.heap.size + 1, t, none⟩ = some (.int .u32 0) := by
        rw [ha.cell t]; exact wcells_new (sch_len xs t) (by omega)
      have hA : Hid (Arr (wr.setCell ⟨w.heap.size + 1, t, none⟩ (.int .u32 (X : Int))) (w.heap.size + 1) 67 (wcells (sch xs (t + 1)))) := by
        have := ha.set t (.int .u32 (X : Int))
        rw [wcells_set (sch_len xs t) (by omega)] at this
        rw [sch, if_pos hlt, ← hwd.out]
        exact this
      have hL := Lib.hid (hl.set' (fun i hi => hlow.out i hi) (p := ⟨w.heap.size + 1, t, none⟩) (by simp) (.int .u32 (X : Int)))
      have hB := Lib.hid (hb.setCell (p := ⟨w.heap.size + 1, t, none⟩) (by simp) (.int .u32 (X : Int)))
      have hR := Lib.hid (hr.far (p := ⟨w.heap.size + 1, t, none⟩) (by simp) (.int .u32 (X : Int)))
      clear ha hr hl hb
      go_wp2
      go_still_tail 35, (by kernel_rfl)
      go_wp2
      go_roundw
      case rel => exact ⟨t + 1, by omega, by go_num, hA.out.drew, hR.out.drew, hL.out.drew, below_drew hB.out⟩
      case measure => simp [intOf]; omega
    · obtain rfl : t = 16 := by omega
      clear hl
      rw [show ((16 : Nat) : Int) = 16 from rfl]
      go_wp2
      go_loopw [5] (fun i wr => ∃ t : Nat, 16 ≤ t ∧ t ≤ 64 ∧ i = .int .i64 t ∧ Arr wr (w.heap.size + 1) 67 (wcells (sch xs t)) ∧ Arr wr w.heap.size 67 (wcells []) ∧ Below w.heap.size w wr)
        (fun i _ => 64 - (intOf i).toNat)
      case atStart => exact ⟨16, by omega, by omega, rfl, ha, hr, hb⟩
      case round =>
        clear ha hr hb
        obtain ⟨t, ht1, ht, rfl, ha, hr, hb⟩ := hrel
        by_cases hlt : t < 64
        · have hlt32 := sch_lt xs (byte_of_lst h) t
          obtain ⟨x2, hx2⟩ : ∃ x, Hid ((sch xs t).getD (t - 2) 0 = x) := ⟨_, rfl⟩
          obtain ⟨x7, hx7⟩ : ∃ x, Hid ((sch xs t).getD (t - 7) 0 = x) := ⟨_, rfl⟩
          obtain ⟨x15, hx15⟩ : ∃ x, Hid ((sch xs t).getD (t - 15) 0 = x) := ⟨_, rfl⟩
          obtain ⟨x16, hx16⟩ : ∃ x, Hid ((sch xs t).getD (t - 16) 0 = x) := ⟨_, rfl⟩
          have c2 := (ha.cell (t - 2)).trans (wcells_at (by rw [sch_len]; omega))
          rw [hx2.out] at c2
          rw [← show ((t : Int) - 2).toNat = t - 2 by omega] at c2
          have c7 := (ha.cell (t - 7)).trans (wcells_at (by rw [sch_len]; omega))
          rw [hx7.out] at c7
          rw [← show ((t : Int) - 7).toNat = t - 7 by omega] at c7
          have c15 := (ha.cell (t - 15)).trans (wcells_at (by rw [sch_len]; omega))
          rw [hx15.out] at c15
          rw [← show ((t : Int) - 15).toNat = t - 15 by omega] at c15
          have c16 := (ha.cell (t - 16)).trans (wcells_at (by rw [sch_len]; omega))
          rw [hx16.out] at c16
          rw [← show ((t : Int) - 16).toNat = t - 16 by omega] at c16
          have l2 : x2 ≤ 4294967295 := by have := hlt32 (t - 2); rw [hx2.out] at this; omega
          have l7 : x7 ≤ 4294967295 := by have := hlt32 (t - 7); rw [hx7.out] at this; omega
          have l15 : x15 ≤ 4294967295 := by have := hlt32 (t - 15); rw [hx15.out] at this; omega
          have l16 : x16 ≤ 4294967295 := by have := hlt32 (t - 16); rw [hx16.out] at this; omega
          have m2 := i64w ((t : Int) - 2) (by omega) (by omega)
          have m7 := i64w ((t : Int) - 7) (by omega) (by omega)
          have m15 := i64w ((t : Int) - 15) (by omega) (by omega)
          have m16 := i64w ((t : Int) - 16) (by omega) (by omega)
          have p2 : (2 : Int) ≤ t := by omega
          have p7 : (7 : Int) ≤ t := by omega
          have p15 : (15 : Int) ≤ t := by omega
          have p16 : (16 : Int) ≤ t := by omega
          have q64 : (t : Int) < 64 := by omega
          have q2 : (t : Int) - 2 < 64 := by omega
          have q7 : (t : Int) - 7 < 64 := by omega
          have q15 : (t : Int) - 15 < 64 := by omega
          have q16 : (t : Int) - 16 < 64 := by omega
          have hsum := nxt_sum (ss1 x2) x7 (ss0 x15) x16
          obtain ⟨X, hX⟩ : ∃ X : Nat, Hid (X = (ss1 x2 + x7 + ss0 x15 + x16) % 4294967296) := ⟨_, rfl⟩
          rw [← hX.out] at hsum
          have hnx : Hid (X = nxt (sch xs t) t) := by
            show _ = _
            rw [hX.out, nxt, hx2.out, hx7.out, hx15.out, hx16.out]
          have hf := ha.frozen t
          have hc : wr.cell? ⟨w.heap.size + 1, t, none⟩ = some (.int .u32 0) := by
            rw [ha.cell t]; exact wcells_new (sch_len xs t) (by omega)
          have hA : Hid (Arr (wr.setCell ⟨w.heap.size + 1, t, none⟩ (.int .u32 (X : Int))) (w.heap.size + 1) 67 (wcells (sch xs (t + 1)))) := by
            have := ha.set t (.int .u32 (X : Int))
            rw [wcells_set (sch_len xs t) (by omega)] at this
            rw [sch, if_neg (by omega), ← hnx.out]
            exact this
          have hR := Lib.hid (hr.far (p := ⟨w.heap.size + 1, t, none⟩) (by simp) (.int .u32 (X : Int)))
          have hB := Lib.hid (hb.setCell (p := ⟨w.heap.size + 1, t, none⟩) (by simp) (.int .u32 (X : Int)))
          clear hlt32 ha hr hb
          go_wp2
          go_still_tail 23, (by kernel_rfl)
          still_call (still_of (ss1_c x2 _ l2))
          repeat still_step
          still_call (still_of (ss0_c x15 _ l15))
          repeat still_step
          refine wpStill_nil ?_
          go_wp2
          go_roundw
          case rel => exact ⟨t + 1, by omega, by omega, by go_num, hA.out.drew, hR.out.drew, below_drew hB.out⟩
          case measure => simp [intOf]; omega
        · obtain rfl : t = 64 := by omega
          have hlen := sch_len xs 64
          rw [← hS.out] at ha hlen
          have HL := Lib.hid hlen
          have hsz := ha.lt
          clear hlen
          go_wp2_with (first
            | ((with_reducible refine wpList_load_arr (d := some 72) arr54 ha ?e1 ?e2 ?_); (case e1 => rfl); (case e2 => exact wcells_len (Nat.le_of_eq HL.out)))
            | ((with_reducible refine wpList_store_arr (x := .tmp 2) (y := .tmp 72) (cs := wcells S) arr54 hr ?e1 ?e2 ?e3 ?e4 ?e5 ?_); (case e1 => rfl); (case e2 => rfl); (case e3 => exact wcells_len (Nat.zero_le _)); (case e4 => exact wcells_len (Nat.le_of_eq HL.out)); (case e5 => exact wcells_one S); intro w2 hA2 hO2))
          refine bodyPost_ret (results_arr arr54 rfl _ rfl hA2 (wcells_len (Nat.le_of_eq HL.out))) rfl ⟨rfl, hO2.below hb (by omega) (Nat.le_refl _)⟩
end Go.Proofs.YtgomconcfjllcaaDoor
