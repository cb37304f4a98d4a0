/-
  Write.
-/
import Derived.Test.YtbnomkcliejcaaaDskRead
import Derived.Test.YtbnomkcliejcaaaSrfReg
namespace Go.Proofs.Ytbnomkcliejcaaa
open Go.RowKit Ds

section
variable {w : World} {ops : Array Oper} {rest : List Oper} {a : Act} {Q : Exit → Act → World → Prop} {K : Act → World → Prop} {d : Option Tmp} {x y z : Operand} {ty t : TypeId} {pos : String} {after : Array Edge} {gd : Option (Nat × Bool)}
theorem wpList_storeBy {w' : World} {X Y : Value} (hx : a.eval x = X) (hy : a.eval y = Y) (hrun : (Instr.storeAt t X Y).run Try.prog w = .ok () w') (h : wpList Try.prog ops Q rest (a.put d undef) w') :
    wpList Try.prog ops Q (⟨d, .store t x y, ty, pos, after, none⟩ :: rest) a w := by
  refine wpList_plain rfl fun K hK => ?_
  unfold Oper.wp
  simp [execOp, hx, hy, hrun, Result.andThen]
  exact hK _ _ h
theorem wp_updBy {w' : World} {X Y Z : Value} (hx : a.eval x = X) (hy : a.eval y = Y) (hz : a.eval z = Z) (hrun : (Instr.mapUpdate t X Y Z).run Try.prog w = .ok () w') (h : K (a.put d undef) w') :
    Oper.wp Try.prog ⟨d, .mapUpdate t x y z, ty, pos, after, gd⟩ a w K Q := by
  unfold Oper.wp
  simp [execOp, hx, hy, hz, hrun, Result.andThen]
  exact h
theorem wpList_loadBy {X v : Value} (hx : a.eval x = X) (hrun : (Instr.loadAt t X).run Try.prog w = .ok v w) (h : wpList Try.prog ops Q rest (a.put d v) w) :
    wpList Try.prog ops Q (⟨d, .load t x, ty, pos, after, none⟩ :: rest) a w := by
  refine wpList_plain rfl fun K hK => ?_
  unfold Oper.wp
  simp [execOp, hx, hrun, Result.andThen]
  exact hK _ _ h
theorem run_buildS (W : World) : (Instr.build 56 #[]).run Try.prog W = .ok (secV zeroS) W := by
  obtain ⟨inf, hinf, hs⟩ := Option.map_eq_some_iff.1 size5
  simp [Instr.build, run_underlying Try.underlying56, sizeOf, typeInfo, hinf, Result.andThen, Instr.fill, secV, Value.cells]
  rfl
theorem wpList_buildS (h : wpList Try.prog ops Q rest (a.put d (secV zeroS)) w) : wpList Try.prog ops Q (⟨d, .build 56 #[], ty, pos, after, none⟩ :: rest) a w := by
  refine wpList_plain rfl fun K hK => ?_
  unfold Oper.wp
  simp [execOp, run_buildS, Result.andThen]
  exact hK _ _ h
theorem wpList_allocS (h : wpList Try.prog ops Q rest (a.put d (.pointer (some ⟨w.heap.size, 0, none⟩))) (w.alloc (.cells (zeroS.map (Value.int .u8)).toArray 56))) :
    wpList Try.prog ops Q (⟨d, .alloc 56, ty, pos, after, none⟩ :: rest) a w := by
  refine wpList_plain rfl fun K hK => ?_
  have hrun : (Instr.alloc 56 true (.tuple #[])).run Try.prog w = .ok (.pointer (some ⟨w.heap.size, 0, none⟩)) (w.alloc (.cells (zeroS.map (Value.int .u8)).toArray 56)) := by
    simp [Instr.alloc, newVar, newRow, Result.andThen, Value.cells]
    rfl
  unfold Oper.wp
  simp [execOp, hrun, Result.andThen]
  exact hK _ _ h
theorem exec_loadBy {ev : Operand → Value} {X v : Value} (hx : ev x = X) (hrun : (Instr.loadAt t X).run Try.prog w = .ok v w) : (execOp ev ⟨d, .load t x, ty, pos, after, gd⟩).run Try.prog w = .ok (.value v) w := by
  simp [execOp, hx, hrun, Result.andThen]
end
theorem flat_set2 {S : List Sec} (h : Sized S) {i : Nat} (hi : i < S.length) {b : List Int} (hb : b.length ≤ 64) :
    S.flatten.take (64 * i) ++ (b ++ S.flatten.drop (64 * i + b.length)) = (S.set i (b ++ (S.getD i []).drop b.length)).flatten := by
  have hg := h.get hi
  rw [← flat_set h hi, List.append_assoc]
  congr 2
  rw [← List.drop_drop, ← List.drop_drop, flat_at h hi, List.drop_append, List.drop_append]
  rw [show b.length - (S.getD i []).length = 0 by omega, show 64 - (S.getD i []).length = 0 by omega, List.drop_of_length_le (i := 64) (by omega)]
  rfl
/-- A row of sectors after a piece of it was written anew. -/
theorem secs_splice {S T : List Sec} {cur : List Value} {k : Nat} {cs : List Value} (hk : k + cs.length ≤ 64 * S.length) (hl : 64 * S.length ≤ cur.length) (hT : T.length = S.length) (ht : cur.take (64 * S.length) = S.flatten.map (Value.int .u8))
    (e : (S.flatten.map (Value.int .u8)).take k ++ (cs ++ (S.flatten.map (Value.int .u8)).drop (k + cs.length)) = T.flatten.map (Value.int .u8)) :
    (cur.take k ++ (cs ++ cur.drop (k + cs.length))).take (64 * T.length) = T.flatten.map (Value.int .u8) := by
  rw [← e, ← ht, hT]
  have e1 : (cur.take (64 * S.length)).take k = cur.take k := by rw [List.take_take, Nat.min_eq_left (by omega)]
  have e2 : (cur.take (64 * S.length)).drop (k + cs.length) = (cur.drop (k + cs.length)).take (64 * S.length - (k + cs.length)) := by rw [List.drop_take]
  rw [e1, e2, List.take_append, List.take_append, List.length_take, Nat.min_eq_left (show k ≤ cur.length by omega), List.take_of_length_le (l := cs) (by omega), List.take_of_length_le (l := cur.take k) (by simp; omega)]
  congr 3
  omega
/-- copy of bytes into sector i. -/
theorem Secs.copy {w : World} {a c : Nat} {S : List Sec} (h : Secs w a c S) (hs : Sized S) {i : Nat} (hi : i < S.length) {bo : Option Addr} {m e : Nat} {b : List Int} (hL : Lst .u8 w bo m e b) (hm : m ≤ 64) :
    ∃ w', (∀ ty, (Builtin.copy_ #[27, 27] ty #[.slice (some ⟨a, 64 * i, none⟩) 64 64, .slice bo m e]).run Try.prog w = .ok (.int .i64 (m : Int)) w') ∧ Secs w' a c (S.set i (b ++ (S.getD i []).drop b.length)) ∧ w.grownBy w' (some a) ∧ w'.heap.size = w.heap.size := by
  have hbl := hL.len
  cases bo with
  | none =>
    have h0 : m = 0 := by
      rcases Nat.eq_zero_or_pos m with h1 | h1
      · exact h1
      · obtain ⟨_, he⟩ := hL.isSome h1; cases he
    subst h0
    obtain rfl : b = [] := List.eq_nil_of_length_eq_zero hbl
    refine ⟨w, fun ty => run_copy_none w _ _ ty 5 _ _ _ _ _ _ Try.underlying27 size5 (by simp), ?_, ⟨rfl, rfl, rfl, Nat.le_refl _, fun _ _ _ => rfl⟩, rfl⟩
    have : S.set i ([] ++ (S.getD i []).drop ([] : List Int).length) = S := by
      simp [List.getD, hi]
    rw [this]
    exact h
  | some ad =>
    obtain ⟨h1, h2, cur, hA, hz, ht⟩ := h
    have hmul : 64 * S.length ≤ c * 64 := by omega
    have hrun := fun ty => run_copy_row (P := Try.prog) w 27 27 ty 5 a (64 * i) 64 64 ad m e cur.toArray 56 (b.map (Value.int .u8)) Try.underlying27 size5 hA (by simp only [List.length_map, hbl]; exact (Nat.min_eq_left hm).symm) (fun j v hj => hL.cells j v hj) (by simp [hbl]; omega) (sec_one b)
    refine ⟨w.setRow a (cur.take (64 * i) ++ (b.map (Value.int .u8) ++ cur.drop (64 * i + (b.map (Value.int .u8)).length))).toArray, fun ty => ?_, ⟨by simpa using h1, h2, cur.take (64 * i) ++ (b.map (Value.int .u8) ++ cur.drop (64 * i + (b.map (Value.int .u8)).length)), ?_, ?_, ?_⟩, ⟨rfl, rfl, rfl, by simp, fun k _ hk => setRow_other w a k _ (fun e => hk (by rw [e]))⟩, by simp⟩
    · have := hrun ty
      simpa [hbl, goInt] using this
    · exact setRow_heap w a cur.toArray _ _ _ hA
    · simp [hbl]; omega
    · refine secs_splice (S := S) (by simp [hbl]; omega) (by omega) (by simp) ht ?_
      have := congrArg (List.map (Value.int .u8)) (flat_set2 hs hi (b := b) (by omega))
      simpa using this
theorem put_dirty {d : Dk} {i : Nat} {b : List Int} {o : Sec} (ho : d.old.getD i none = some o) (hi : i < d.old.length) : { d with cur := d.cur.set i (pad b) } = d.put i b := by
  have e : d.old.set i (some o) = d.old := by
    have : d.old[i] = some o := by simpa [List.getD, hi] using ho
    rw [← this, List.set_getElem_self]
  unfold Dk.put
  rw [ho, Option.getD_some, e]
theorem put_clean {d : Dk} {i : Nat} {b : List Int} (ho : d.old.getD i none = none) : { d with cur := d.cur.set i (pad b), old := d.old.set i (some (d.cur.getD i [])) } = d.put i b := by
  unfold Dk.put
  rw [ho, Option.getD_none]
/-- The last steps of Write: the sector is wiped, the bytes are copied. -/
theorem write_tail {w : World} {g a m c i : Nat} {d : Dk} {bo : Option Addr} {m' e : Nat} {b : List Int} (h : Dsk w g a m c d) (hs : Sized d.cur) (hi : i < d.cur.length) (hL : Lst .u8 w bo m' e b) (hm : m' ≤ 64) (hfar : ∀ j, j < m' → (pt bo j).block ≠ a) :
    ∃ W2 W3, (Instr.storeAt 56 (.pointer (some ⟨a, 64 * i, none⟩)) (secV zeroS)).run Try.prog w = .ok () W2 ∧ W2.cell? ⟨g, 0, none⟩ = some (.slice (some ⟨a, 0, none⟩) d.cur.length c) ∧
      (∀ ty, (Builtin.copy_ #[27, 27] ty #[.slice (some ⟨a, 64 * i, none⟩) 64 64, .slice bo m' e]).run Try.prog W2 = .ok (.int .i64 (m' : Int)) W3) ∧
      Dsk W3 g a m c { d with cur := d.cur.set i (pad b) } ∧ Off g a m w W3 ∧ W3.heap.size = w.heap.size := by
  have hbl := hL.len
  obtain ⟨W2, r2, S2, g2, z2⟩ := h.secs.store hs hi (x := zeroS) rfl
  have L2 : Lst .u8 W2 bo m' e b := ⟨hL.len, hL.cap, hL.room, hL.isSome, fun j hj => (World.cell?_of_block (g2.block _ (hL.block j hj) (by simpa using hfar j hj))).trans (hL.cell j hj), hL.wf⟩
  obtain ⟨W3, r3, S3, g3, z3⟩ := S2.copy (hs.set i rfl) (by simpa using hi) L2 hm
  have e1 : (d.cur.set i zeroS).set i (b ++ ((d.cur.set i zeroS).getD i []).drop b.length) = d.cur.set i (pad b) := by
    have : (d.cur.set i zeroS).getD i [] = zeroS := by simp [List.getD, hi]
    rw [this, List.set_set]
    unfold pad zeroS
    rw [List.drop_replicate]
  rw [e1] at S3
  have b2 : Arr W2 g 60 [.slice (some ⟨a, 0, none⟩) d.cur.length c, .map (some m), .bool d.fused, .int .i64 d.fuse, .bool d.dead] := h.box.grownBy g2 h.ga.symm
  refine ⟨W2, W3, r2, b2.cell 0, r3, ⟨?_, S3, (h.map.grown g2 (by simpa using h.am)).grown g3 (by simpa using h.am)⟩, (Off.of_grown g2 (Or.inr (Or.inl rfl))).trans (Off.of_grown g3 (Or.inr (Or.inl rfl))), z3.trans z2⟩
  simpa using b2.grownBy g3 h.ga.symm
end Go.Proofs.Ytbnomkcliejcaaa
