/-
  The reference's Write.
-/
import Derived.Test.YtbnomkcliejcaaaDskZeros
import Derived.Test.YtbnomkcliejcaaaSrfReg
import Derived.Deep.Onto
namespace Go.Proofs.Ytbnomkcliejcaaa
open Go.RowKit Ds
attribute [local go_sem] Oper.semAt_some
set_option linter.unusedSimpArgs false

section
variable {w : World} {a : Act} {Q : Exit → Act → World → Prop} {K : Act → World → Prop} {d : Option Tmp} {p q x y : Operand} {ty t : TypeId} {pos : String} {after : Array Edge} {gd : Option (Nat × Bool)}
/-- append of bytes in a region that draws its order. -/
theorem wp_appL8 {B : Nat} {ao : Option Addr} {n c : Nat} {xs : List Int} {bo : Option Addr} {m e : Nat} {ys : List Int} (hO : Own 5 .u8 B w ao n c xs) (hL : Lst .u8 w bo m e ys) (h0 : bo = none → e = 0) (hB : B ≤ w.heap.size) (hn : n ≤ 1099511627776) (hm : m ≤ 1099511627776)
    (hp : a.eval p = .slice ao n c) (hq : a.eval q = .slice bo m e)
    (h : ∀ ao' c' w', Own 5 .u8 B w' ao' (n + m) c' (xs ++ ys) → Below B w w' → K (a.put d (.slice ao' (n + m) c')) w') :
    Oper.wp Try.prog ⟨d, .call { callee := .builtin .append, args := #[p, q], argTypes := #[27, 27] }, ty, pos, after, gd⟩ a w K Q := by
  obtain ⟨i0, hi, hz0, hz1, hz2⟩ := info_parts info5
  cases bo with
  | none =>
    have hm0 : m = 0 := by
      rcases Nat.eq_zero_or_pos m with h1 | h1
      · exact h1
      · obtain ⟨a, ha⟩ := hL.isSome h1; cases ha
    have hc0 := h0 rfl
    subst hm0; subst hc0
    have hx0 : ys = [] := List.eq_nil_of_length_eq_zero hL.len
    subst hx0
    have hrun := run_append_owned_none (P := Try.prog) (w := w) B 27 ty 5 i0 1 Try.underlying27 hi _ n _ hO.1
    exact Lib.wp_append_run w p q _ _ rfl _ _ hp hq _ _ hrun (h ao c w (by simpa using hO) (Below.refl _ _))
  | some ad =>
    refine wp_append_own w p q 27 rfl B 5 i0 (.int .u8 0) 1 1 Try.underlying27 hi hz0 hz1 hz2 rfl (by decide) _ n _ hp hO.1 ad m e (ys.map (Value.int .u8)) hq (by simp [hL.len]) hL.cells (ints_one _ _) (by unfold maxLen; omega) (by omega) hB ?_
    intro v' w' ho' hg _
    obtain ⟨av, cv, hv⟩ := own_shape ho'
    subst hv
    refine h av cv w' ⟨by rw [List.map_append]; exact ho', fun x hx => ?_⟩ ((Below.refl _ _).grown hg hB (fun k hk => (World.ownsRow.lt hO.1 k hk).1))
    rcases List.mem_append.1 hx with hx | hx
    · exact hO.2 x hx
    · exact hL.wf x hx
theorem wp_storeBy {w' : World} {X Y : Value} (hx : a.eval x = X) (hy : a.eval y = Y) (hrun : (Instr.storeAt t X Y).run Try.prog w = .ok () w') (h : K (a.put d undef) w') : Oper.wp Try.prog ⟨d, .store t x y, ty, pos, after, gd⟩ a w K Q := by
  unfold Oper.wp
  simp [execOp, hx, hy, hrun, Result.andThen]
  exact h
end
/-- A row of the call's own that holds b and zero bytes. -/
theorem by_of_row {W : World} {B : Nat} {v : Value} {b : List Int} {m : Nat} (hb : b.length = m) (hm : m ≤ 64) (hy : ∀ x ∈ b, (Lit.int .u8 x).wf = true) (h : W.ownsRow B 5 1 v (m + (64 - m)) (b.map (Value.int .u8) ++ List.replicate (64 - m) (.int .u8 0))) : By W v (pad b) := by
  rw [show m + (64 - m) = 64 by omega] at h
  have e : b.map (Value.int .u8) ++ List.replicate (64 - m) (Value.int .u8 0) = (pad b).map (Value.int .u8) := by unfold pad; rw [List.map_append, List.map_replicate, hb]
  rw [e] at h
  have hO : ∀ x ∈ pad b, (Lit.int .u8 x).wf = true := fun x hx => by
    rcases List.mem_append.1 hx with hx | hx
    · exact hy x hx
    · rw [List.eq_of_mem_replicate hx]; decide
  rcases h.2 with ⟨_, h0⟩ | ⟨g, cap, cur, rfl, _, hh, _⟩
  · omega
  · exact ⟨⟨g, 0, none⟩, cap, rfl, Own.lst (B := B) ⟨h, hO⟩, cur, (0, 0), hh⟩
section
variable {w w' : World} {q s l t n sc lc tc : Nat} {r : Rf}
theorem RefD.drew (h : RefD w q s l t n sc lc tc r) : RefD w.drew q s l t n sc lc tc r := h.below (Below.refl _ w).drew
theorem row_no8 {g : Nat} {u : TypeId} {cs : List Value} (h : Arr w g u cs) (hu : u ≠ 5) : ∀ g', some g = some g' → ∀ ds fr, w.heap[g']? ≠ some (.cells ds 5 fr) := fun g' e ds fr x => by
  injection e with e
  subst e
  rw [show w.heap[g]? = _ from h] at x
  injection x with x
  injection x with _ x _
  exact hu x
/-- The row of what was written last is given a new value. -/
theorem RefD.putLast (h : RefD w q s l t n sc lc tc r) {i : Nat} (hi : i < n) {v : Value} {xs : List Int} (hv : By w v xs) :
    ∃ V, (Instr.storeAt 27 (.pointer (some ⟨l, i, none⟩)) v).run Try.prog w = .ok () V ∧ RefD V q s l t n sc lc tc { r with last := r.last.set i xs } ∧ ROff q s l t w V := by
  obtain ⟨t1, t2, t3, t4, t5⟩ := h.types
  have hg := grown_setG w l i v
  obtain ⟨u, hu, _⟩ := h.last.get hi
  obtain ⟨_, _, _, us, rest, hA, _⟩ := h.last
  obtain ⟨p, c, rfl, _⟩ := hv
  have hfz := hA.frozen i
  refine ⟨w.setCell ⟨l, i, none⟩ (.slice (some p) 64 c), ?_, ⟨h.box.grownBy hg t2.symm, h.safe.kept hg (by simpa using h.ne) (row_no8 hA (by decide)), BRow.set h.last hi ⟨p, c, rfl, ‹_›⟩, h.dirt.kept hg (by simpa using t5), h.ne⟩, ROff.of_grown hg (Or.inr (Or.inr (Or.inl rfl)))⟩
  go_simp
theorem RefD.putDirt (h : RefD w q s l t n sc lc tc r) {i : Nat} (hi : i < n) (b : Bool) : w.cell? ⟨t, i, none⟩ = some (.bool (r.dirt.getD i false)) ∧ w.frozen? ⟨t, i, none⟩ = false ∧
    RefD (w.setCell ⟨t, i, none⟩ (.bool b)) q s l t n sc lc tc { r with dirt := r.dirt.set i b } ∧ ROff q s l t w (w.setCell ⟨t, i, none⟩ (.bool b)) := by
  obtain ⟨t1, t2, t3, t4, t5⟩ := h.types
  have hg := grown_setG w t i (.bool b)
  have hT := h.dirt
  obtain ⟨_, _, _, rest, hA⟩ := h.dirt
  exact ⟨hT.get hi, hA.frozen i, ⟨h.box.grownBy hg t3.symm, h.safe.kept hg (by simpa using t4.symm) (row_no8 hA (by decide)), h.last.kept hg (by simpa using t5.symm) (row_no8 hA (by decide)), hT.set hi b, h.ne⟩, ROff.of_grown hg (Or.inr (Or.inr (Or.inr rfl)))⟩
end
def Rf.put (r : Rf) (i : Nat) (b : List Int) : Rf := { r with last := r.last.set i (pad b), dirt := r.dirt.set i true }
theorem Lst.roff {q s l t : Nat} {w w' : World} {bo : Option Addr} {m e : Nat} {b : List Int} (h : Lst .u8 w bo m e b) (k : ROff q s l t w w') (hf : ∀ j, j < m → (pt bo j).block ≠ q ∧ (pt bo j).block ≠ s ∧ (pt bo j).block ≠ l ∧ (pt bo j).block ≠ t) : Lst .u8 w' bo m e b :=
  ⟨h.len, h.cap, h.room, h.isSome, fun j hj => (World.cell?_of_block (k.block _ (h.block j hj) (hf j hj).1 (hf j hj).2.1 (hf j hj).2.2.1 (hf j hj).2.2.2)).trans (h.cell j hj), h.wf⟩
/-- The Write of a disk that goes on. -/
def RwOut (w : World) (q s l t n sc lc tc : Nat) (r : Rf) (i : Nat) (b : List Int) (e : Ending) (w' : World) : Prop := e = .returned (.int .i64 0) ∧ RefD w' q s l t n sc lc tc (r.burn.2.put i b) ∧ ROff q s l t w w'
set_option maxHeartbeats 6400000 in
set_option maxRecDepth 100000 in
theorem rwrite_c {w : World} {q s l t n sc lc tc : Nat} {r : Rf} (h : RefD w q s l t n sc lc tc r) (hl0 : -1000000 ≤ r.left) (hl1 : r.left ≤ 9223372036854775807) (hg : r.gone = false) (hb : r.burn.1 = true) (i : Nat) (hx : i < n) {bo : Option Addr} {m' e0 : Nat} {b : List Int} (hL : Lst .u8 w bo m' e0 b) (hm : m' ≤ 64) (h0 : bo = none → e0 = 0)
    (hf : ∀ j, j < m' → (pt bo j).block ≠ q ∧ (pt bo j).block ≠ s ∧ (pt bo j).block ≠ l ∧ (pt bo j).block ≠ t) :
    Calls Try.prog 11 #[.pointer (some ⟨q, 0, none⟩), .int .i64 (i : Int), .slice bo m' e0] w fun e w' => RwOut w q s l t n sc lc tc r i b e w' := by
  obtain ⟨_, k1o, _, _, _, k5⟩ := h.cells
  rw [hg] at k5
  have hbu := rburn_c h hl0 hl1
  rw [hb] at hbu
  have hE : Hid (∀ W', RefD W' q s l t n sc lc tc (r.burn.2.put i b) → ROff q s l t w W' → RwOut w q s l t n sc lc tc r i b (.returned (.int .i64 0)) W') := fun W' r1 r2 => ⟨rfl, r1, r2⟩
  have hb2 : Calls Try.prog 29 #[.pointer (some ⟨q, 0, none⟩)] w fun e W => e = .returned (.bool true) ∧ W.drew.cell? ⟨q, 1, none⟩ = some (.slice (some ⟨l, 0, none⟩) n lc) ∧ Hid (RefD W q s l t n sc lc tc r.burn.2) ∧ Hid (ROff q s l t w W) ∧ Hid (Lst .u8 W bo m' e0 b) := by
    refine hbu.mono ?_
    rintro e W ⟨rfl, hD, hO, _⟩
    exact ⟨rfl, hD.cells.2.1, hD, hO, hL.roff hO hf⟩
  have hx' : ¬ (i : Int) ≥ (n : Int) := by omega
  have hmm : ¬ (m' : Int) > 64 := by omega
  have hsub : IntKind.i64.wrap (64 - (m' : Int)) = ((64 - m' : Nat) : Int) := by rw [IntKind.wrap_i64]; omega
  have hm64 := Lib.hid hm
  have hwf := Lib.hid hL.wf
  have h0 := Lib.hid h0
  have hixL := ixRow l n lc i hx
  have hixT := ixBool t n tc i hx
  clear h hbu hb hg hL hf hl0 hl1
  go_enter Try.func11, Try.ntmps11
  go_wp2_with (go_at_call 29; (with_reducible refine hb2.mono ?_); rintro e W ⟨rfl, k1, RW, OW, LW⟩; clear hb2)
  refine wp_region_L [(12, fun w' => w'.cell? ⟨q, 1, none⟩ = some (.slice (some ⟨l, 0, none⟩) n lc))] (by kernel_rfl) (fun c hc _ => by simp only [List.mem_cons, List.not_mem_nil, or_false] at hc; subst hc; exact k1) (fun hS => ?_)
  refine regL_pure (i := 0) rfl (by rfl) (by kernel_rfl) (by kernel_rfl) (by kernel_rfl) (fun _ _ _ h => h) (by rfl) hS (v := ?vr1) ?hyr1 ?rtr1
  case hyr1 => (intro w'; go_simp <;> try rfl)
  intro hS
  try simp only [Act.put, List.setIfInBounds_toArray, List.set_cons_zero, List.set_cons_succ]
  refine regL_pure (i := 1) rfl (by rfl) (by kernel_rfl) (by kernel_rfl) (by kernel_rfl) (fun _ _ _ h => h) (by rfl) hS (v := ?vr2) ?hyr2 ?rtr2
  case hyr2 => (intro w'; go_simp <;> try rfl)
  intro hS
  try simp only [Act.put, List.setIfInBounds_toArray, List.set_cons_zero, List.set_cons_succ]
  refine regL_pure (i := 2) rfl (by rfl) (by kernel_rfl) (by kernel_rfl) (by kernel_rfl) (fun _ _ _ h => h) (by rfl) hS (v := ?vr3) ?hyr3 ?rtr3
  case hyr3 => (intro w'; go_simp <;> try rfl)
  intro hS
  try simp only [Act.put, List.setIfInBounds_toArray, List.set_cons_zero, List.set_cons_succ]
  refine regL_take (i := 3) (12, fun w' => w'.cell? ⟨q, 1, none⟩ = some (.slice (some ⟨l, 0, none⟩) n lc)) rfl (by simp) (by rfl) (by kernel_rfl) (by rfl) (by kernel_rfl) (by kernel_rfl) (by kernel_rfl) (fun _ _ _ h => h) (by rfl) hS (v := ?vr4) ?hyr4 ?rtr4
  case hyr4 => (intro w' hc; dsimp only at hc; go_simp <;> try rfl)
  intro hS
  try simp only [Act.put, List.setIfInBounds_toArray, List.set_cons_zero, List.set_cons_succ]
  refine regL_pure (i := 4) rfl (by rfl) (by kernel_rfl) (by kernel_rfl) (by kernel_rfl) (fun _ _ _ h => h) (by rfl) hS (v := ?vr5) ?hyr5 ?rtr5
  case hyr5 => (intro w'; go_simp <;> try rfl)
  intro hS
  try simp only [Act.put, List.setIfInBounds_toArray, List.set_cons_zero, List.set_cons_succ]
  refine regL_pure (i := 5) rfl (by rfl) (by kernel_rfl) (by kernel_rfl) (by kernel_rfl) (fun _ _ _ h => h) (by rfl) hS (v := ?vr6) ?hyr6 ?rtr6
  case hyr6 => (intro w'; go_simp <;> try rfl)
  intro hS
  try simp only [Act.put, List.setIfInBounds_toArray, List.set_cons_zero, List.set_cons_succ]
  refine regL_pure (i := 7) rfl (by rfl) (by kernel_rfl) (by kernel_rfl) (by kernel_rfl) (fun _ _ _ h => h) (by rfl) hS (v := ?vr7) ?hyr7 ?rtr7
  case hyr7 => (intro w'; go_simp <;> try rfl)
  intro hS
  try simp only [Act.put, List.setIfInBounds_toArray, List.set_cons_zero, List.set_cons_succ]
  refine regL_pure (i := 8) rfl (by rfl) (by kernel_rfl) (by kernel_rfl) (by kernel_rfl) (fun _ _ _ h => h) (by rfl) hS (v := ?vr8) ?hyr8 ?rtr8
  case hyr8 => (intro w'; go_simp <;> try rfl)
  intro hS
  try simp only [Act.put, List.setIfInBounds_toArray, List.set_cons_zero, List.set_cons_succ]
  refine regL_pure (i := 9) rfl (by rfl) (by kernel_rfl) (by kernel_rfl) (by kernel_rfl) (fun _ _ _ h => h) (by rfl) hS (v := .int .i64 ((64 - m' : Nat) : Int)) ?hyr9 ?rtr9
  case hyr9 => (intro w'; go_simp <;> try rfl)
  intro hS
  try simp only [Act.put, List.setIfInBounds_toArray, List.set_cons_zero, List.set_cons_succ]
  refine regL_ready (rs := [6]) (by kernel_rfl) (by simp) ?_
  refine regL_cons rfl (by rfl) (fun K hK => ?_) regL_nil
  refine wp_appL8 (own_nil 5 .u8 W.drew.heap.size W.drew) (LW.out.drewN 1) h0.out (Nat.le_refl _) (by omega) (by omega) rfl rfl (fun ao1 c1 W1 O1 B1 => ?_)
  rw [Nat.zero_add, List.nil_append] at O1
  rw [Nat.zero_add]
  have k1' : W1.cell? ⟨q, 1, none⟩ = some (.slice (some ⟨l, 0, none⟩) n lc) := (World.cell?_of_block (B1.block _ (World.block_lt_of_cell? W.drew _ k1))).trans k1
  refine hK.out _ _ (fun c hc _ => by simp only [List.mem_cons, List.not_mem_nil, or_false] at hc; subst hc; exact k1') ?_
  clear hK K
  intro hS
  try simp only [Act.put, List.setIfInBounds_toArray, List.set_cons_zero, List.set_cons_succ]
  refine regL_ready (rs := [10]) (by kernel_rfl) (by simp) ?_
  refine regL_cons rfl (by rfl) (fun K hK => ?_) regL_nil
  obtain ⟨v', W2, hrun, O2, G2⟩ := run_append_own_zeros W1 W.drew.heap.size 27 _ m' _ O1.1 (64 - m') (by omega) (by omega) B1.size
  refine Lib.wp_append_run W1 _ _ _ _ rfl _ _ rfl rfl _ _ hrun ?_
  have hBy := by_of_row LW.out.len hm64.out hwf.out O2
  have B2 : Below W.drew.heap.size W.drew W2 := B1.grown G2 B1.size (fun g hg => (World.ownsRow.lt O1.1 g hg).1)
  have k1'' : W2.cell? ⟨q, 1, none⟩ = some (.slice (some ⟨l, 0, none⟩) n lc) := (World.cell?_of_block (B2.block _ (World.block_lt_of_cell? W.drew _ k1))).trans k1
  refine hK.out _ _ (fun c hc _ => by simp only [List.mem_cons, List.not_mem_nil, or_false] at hc; subst hc; exact k1'') ?_
  clear hK K
  intro hS
  try simp only [Act.put, List.setIfInBounds_toArray, List.set_cons_zero, List.set_cons_succ]
  refine regL_pure (i := 11) rfl (by rfl) (by kernel_rfl) (by kernel_rfl) (by kernel_rfl) (fun _ _ _ h => h) (by rfl) hS (v := ?vr10) ?hyr10 ?rtr10
  case hyr10 => (intro w'; go_simp <;> try rfl)
  intro hS
  try simp only [Act.put, List.setIfInBounds_toArray, List.set_cons_zero, List.set_cons_succ]
  refine regL_ready (rs := [12]) (by kernel_rfl) (by simp) ?_
  refine regL_cons rfl (by rfl) (fun K hK => ?_) regL_nil
  have R2 := RW.out.drew.below B2
  obtain ⟨V, rV, R3, f3⟩ := R2.putLast hx hBy
  refine wp_storeBy rfl rfl rV ?_
  refine hK.out _ _ (fun c hc hl => by simp only [List.mem_cons, List.not_mem_nil, or_false] at hc; subst hc; exact Bool.noConfusion (show true = false from hl)) ?_
  clear hK K
  intro hS
  try simp only [Act.put, List.setIfInBounds_toArray, List.set_cons_zero, List.set_cons_succ]
  refine regL_done (by kernel_rfl) ?_ _
  have O3 : ROff q s l t W V := (ROff.of_below (show Below W.heap.size W W2 from ⟨B2.os, B2.tape, B2.output, B2.size, B2.block⟩)).trans f3
  obtain ⟨kb, fb, R4, O4⟩ := R3.putDirt hx true
  have hr := Lib.hid (hE.out _ R4 (OW.out.trans (O3.trans O4)))
  have kk := R3.cells.2.2.1
  clear R3 O3 R4 O4 R2 hBy O2 G2 O1 B1 B2 k1' k1'' hrun rV f3
  go_wp2_with fail
  go_ret
  exact hr.out
end Go.Proofs.Ytbnomkcliejcaaa
