/-
  Steps that the laws share: min, cuts, copies into a row of one's own, bytes in several slices beside a disk.
-/
import Derived.Test.YtbnomkcliejcaaaDskLaw2
namespace Go.Proofs.Ytbnomkcliejcaaa
open Go.RowKit Ds
attribute [local go_sem] Oper.semAt_some
set_option linter.unusedSimpArgs false

section
variable {w : World} {ops : Array Oper} {rest : List Oper} {a : Act} {Q : Exit → Act → World → Prop} {d : Option Tmp} {x y : Operand} {ty t : TypeId} {pos : String} {after : Array Edge}
theorem run_min (ts : Array TypeId) (ty : TypeId) (n m : Nat) (W : World) : (Builtin.min_ ts ty #[.int .i64 (n : Int), .int .i64 (m : Int)]).run Try.prog W = .ok (.int .i64 ((min n m : Nat) : Int)) W := by
  rw [run_min_int2]
  congr 2
  split <;> omega
theorem wpList_minBy {X Y V : Value} (hx : a.eval x = X) (hy : a.eval y = Y) (hrun : ∀ ty, (Builtin.min_ #[t, t] ty #[X, Y]).run Try.prog w = .ok V w) (h : wpList Try.prog ops Q rest (a.put d V) w) :
    wpList Try.prog ops Q (⟨d, .call { callee := .builtin .min, args := #[x, y], argTypes := #[t, t] }, ty, pos, after, none⟩ :: rest) a w := by
  refine wpList_plain rfl fun K hK => ?_
  unfold Oper.wp execOp
  simp only [resolve, invoke, builtin, Sem.run_bind, Sem.run_pure, Result.andThen_ok, List.map_toArray, List.map_cons, List.map_nil, hx, hy, hrun]
  exact hK _ _ h
theorem wpList_sliceBy {X Y V : Value} (hx : a.eval x = X) (hy : a.eval y = Y) (hrun : (Instr.sliceAt t X none (some Y) none).run Try.prog w = .ok V w) (h : wpList Try.prog ops Q rest (a.put d V) w) :
    wpList Try.prog ops Q (⟨d, .slice t x none (some y) none, ty, pos, after, none⟩ :: rest) a w := by
  refine wpList_plain rfl fun K hK => ?_
  unfold Oper.wp
  simp [execOp, hx, hy, hrun, Result.andThen]
  exact hK _ _ h
end
theorem run_cut {T E : TypeId} (ht : Try.prog.underlying T = some (.slice E)) (he : (Try.prog.info? E).map (·.size) = some 1) (ao : Option Addr) (n c k : Nat) (hk : k ≤ c) (h0 : ao = none → c = 0) (W : World) : (Instr.sliceAt T (.slice ao n c) none (some (.int .i64 (k : Int))) none).run Try.prog W = .ok (.slice ao k c) W := by
  obtain ⟨inf, hinf, hs⟩ := Option.map_eq_some_iff.1 he
  have h1 : (0 : Int) ≤ (k : Int) ∧ (k : Int) ≤ (c : Int) := by omega
  have e : (if c = 0 then ao else ao.map (·.add 0)) = ao := by
    split
    · rfl
    · cases ao with
      | none => exact absurd (h0 rfl) ‹_›
      | some p =>
        obtain ⟨b, o, f⟩ := p
        simp [Addr.add]
  simp [Instr.sliceAt, run_underlying ht, Instr.slice, Instr.sliceBounds, Instr.sliceBound, asIntOf, sizeOf, typeInfo, hinf, hs, hk, Result.andThen, e]
theorem cut8 (ao : Option Addr) (n c k : Nat) (hk : k ≤ c) (h0 : ao = none → c = 0) (W : World) : (Instr.sliceAt 27 (.slice ao n c) none (some (.int .i64 (k : Int))) none).run Try.prog W = .ok (.slice ao k c) W :=
  run_cut Try.underlying27 size5 ao n c k hk h0 W
theorem cutT (ao : Option Addr) (n c k : Nat) (hk : k ≤ c) (h0 : ao = none → c = 0) (W : World) : (Instr.sliceAt 28 (.slice ao n c) none (some (.int .i64 (k : Int))) none).run Try.prog W = .ok (.slice ao k c) W :=
  run_cut Try.underlying28 sizeT ao n c k hk h0 W
theorem LstT.take {w : World} {ao : Option Addr} {n c : Nat} {xs : List Bool} (h : LstT w ao n c xs) {m : Nat} (hm : m ≤ n) : LstT w ao m c (xs.take m) := by
  have hl := h.len
  have hc := h.cap
  refine ⟨by simp; omega, by omega, h.room, fun h0 => h.isSome (by omega), fun i hi => ?_⟩
  rw [h.cell i (by omega)]
  simp [List.getD, hi]
/-- copy of bytes into a row of 64 that the call has made. -/
theorem Own.copy64 {B g : Nat} {w : World} {zs : List Int} (h : Own 5 .u8 B w (some ⟨g, 0, none⟩) 64 64 zs) {bo : Option Addr} {k e0 : Nat} {b : List Int} (hL : Lst .u8 w bo k e0 b) (hk : k ≤ 64) :
    ∃ w', (∀ ty, (Builtin.copy_ #[27, 27] ty #[.slice (some ⟨g, 0, none⟩) 64 64, .slice bo k e0]).run Try.prog w = .ok (.int .i64 (k : Int)) w') ∧ Own 5 .u8 B w' (some ⟨g, 0, none⟩) 64 64 (b ++ zs.drop k) ∧ w.grownBy w' (some g) ∧ w'.heap.size = w.heap.size := by
  have hbl := hL.len
  cases bo with
  | none =>
    have h0 : k = 0 := by
      rcases Nat.eq_zero_or_pos k with h1 | h1
      · exact h1
      · obtain ⟨_, he⟩ := hL.isSome h1; cases he
    subst h0
    obtain rfl : b = [] := List.eq_nil_of_length_eq_zero hbl
    exact ⟨w, fun ty => run_copy_none w _ _ ty 5 _ _ _ _ _ _ Try.underlying27 size5 (by simp), by simpa using h, ⟨rfl, rfl, rfl, Nat.le_refl _, fun _ _ _ => rfl⟩, rfl⟩
  | some ad =>
    have hzl := h.len
    obtain ⟨hw1, hw2⟩ := h
    rcases hw1.2 with ⟨hv, _⟩ | ⟨g', cap, cur, hv, hg, hh, hn, hc, hz, ht⟩
    · cases hv
    · injection hv with e1 _ e3
      injection e1 with e1
      injection e1 with e1
      subst e1; subst e3
      have hcur : cur.toList = zs.map (Value.int .u8) := by rw [← ht, List.take_of_length_le (by simp; omega)]
      have hrun := fun ty => run_copy_row (P := Try.prog) w 27 27 ty 5 g 0 64 64 ad k e0 cur 5 (b.map (Value.int .u8)) Try.underlying27 size5 hh (by simp only [List.length_map, hbl]; exact (Nat.min_eq_left hk).symm) (fun j v hj => hL.cells j v hj) (by simp [hbl]; omega) (sec_one b)
      refine ⟨w.setRow g ((b ++ zs.drop k).map (Value.int .u8)).toArray, fun ty => ?_, ⟨⟨by simp [hbl, hzl]; omega, Or.inr ⟨g, 64, ((b ++ zs.drop k).map (Value.int .u8)).toArray, rfl, hg, setRow_heap w g cur _ _ _ hh, Nat.le_refl _, hc, by simp [hbl, hzl]; omega, ?_⟩⟩, ?_⟩, ⟨rfl, rfl, rfl, by simp, fun j _ hj => setRow_other w g j _ (fun e => hj (by rw [e]))⟩, by simp⟩
      · have := hrun ty
        rw [hcur] at this
        simpa [hbl, goInt] using this
      · rw [List.toList_toArray, List.take_of_length_le (by simp [hbl, hzl]; omega)]
      · intro x hx
        rcases List.mem_append.1 hx with hx | hx
        · exact hL.wf x hx
        · exact hw2 x (List.mem_of_mem_drop hx)
theorem copy_pad {b : List Int} {k : Nat} (hb : b.length = k) : b ++ zeroS.drop k = pad b := by
  unfold pad zeroS
  rw [List.drop_replicate, hb]
section
variable {w0 w W w' : World} {g a m c n : Nat} {d : Dk}
/-- Write of bytes that lie anywhere but in the disk, in a world that is w but for new blocks. -/
theorem writeL_c (h : DskN w0 w g a m c d) (hW : Below w.heap.size w W) (hk : d.Ok n) (x : Int) {bo : Option Addr} {m' e0 : Nat} {b : List Int} (hL : Lst .u8 W bo m' e0 b) (hfar : ∀ j, j < m' → (pt bo j).block ≠ a) :
    Calls Try.prog 10 #[.pointer (some ⟨g, 0, none⟩), .int .i64 x, .slice bo m' e0] W fun e w' =>
      e = .returned (.int .i64 (d.write x b).1) ∧ DskN w0 w' g a m c (d.write x b).2 ∧ Off g a m w w' := by
  have h' := h.below hW
  exact (write_c h'.dsk hk x hL hfar).mono fun _ _ ⟨r1, r2, r3⟩ => ⟨r1, h'.off r2 r3, (Off.of_below hW).trans r3⟩
theorem readN_c (h : DskN w0 w g a m c d) (hk : d.Ok n) (hd : d.dead = false) (i : Nat) (hi : i < n) : Calls Try.prog 12 #[.pointer (some ⟨g, 0, none⟩), .int .i64 (i : Int)] w fun e w' =>
    ∃ ro b, e = .returned (.tuple #[.slice ro 64 b, .int .i64 0]) ∧ Own 5 .u8 w.heap.size w' ro 64 b (d.cur.getD i []) ∧ DskN w0 w' g a m c d ∧ Below w.heap.size w w' :=
  (read_c h.dsk hk hd i hi).mono fun _ _ ⟨ro, b, r1, r2, r3⟩ => ⟨ro, b, r1, r2, h.below r3, r3⟩
/-- A change of blocks that are not the disk's. -/
theorem DskN.grown {row : Option Nat} (h : DskN w0 w g a m c d) (hg : w.grownBy w' row) (h1 : some g ≠ row) (h2 : some a ≠ row) (h3 : some m ≠ row) (h4 : ∀ q, row = some q → w0.heap.size ≤ q) : DskN w0 w' g a m c d :=
  ⟨h.dsk.grown hg h1 h2 h3, h.g0, h.a0, h.m0, h.bel.grown hg h.bel.size (fun k hk => h4 k hk)⟩
theorem DskN.lt (h : DskN w0 w g a m c d) : g < w.heap.size ∧ a < w.heap.size ∧ m < w.heap.size := ⟨h.dsk.box.lt, h.dsk.secs.lt, h.dsk.map.lt⟩
theorem DskN.other {g' a' m' : Nat} (h : DskN w0 w g a m c d) (k : Off g' a' m' w w') (hg : g ≠ g' ∧ g ≠ a' ∧ g ≠ m') (ha : a ≠ g' ∧ a ≠ a' ∧ a ≠ m') (hm : m ≠ g' ∧ m ≠ a' ∧ m ≠ m') (h1 : w0.heap.size ≤ g') (h2 : w0.heap.size ≤ a') (h3 : w0.heap.size ≤ m') : DskN w0 w' g a m c d :=
  ⟨h.dsk.off k hg ha hm, h.g0, h.a0, h.m0, k.below h.bel h.bel.size h1 h2 h3⟩
end
end Go.Proofs.Ytbnomkcliejcaaa
