/-
  The reference's Open: an image as rows of pixels.
-/
import Derived.Test.YtcgfoagfoncjiaaImgRShift
import Derived.Test.YtcgfoagfoncjiaaImgFillP
import Derived.Maps.AppendAt
namespace Go.Proofs.Ytcgfoagfoncjiaa
open Go.RowKit Im

section
variable {w : World} {ops : Array Oper} {rest : List Oper} {a : Act} {Q : Exit → Act → World → Prop} {d : Option Tmp} {p q : Operand} {ty : TypeId} {pos : String} {after : Array Edge}
/-- One row, in a slice that has just been made, is appended to rows that the call owns. -/
theorem wpList_appP {B : Nat} {ao : Option Addr} {n c : Nat} {us : List Value} {x : Value} (hO : w.ownsRow B 48 1 (.slice ao n c) n us) (hB : B ≤ w.heap.size) (hn : n ≤ 1048576) (h1 : x.oneCell' = true)
    (hp : a.eval p = .slice ao n c) (hq : a.eval q = .slice (some ⟨w.heap.size, 0, none⟩) 1 1)
    (h : ∀ ao' c' w', w'.ownsRow B 48 1 (.slice ao' (n + 1) c') (n + 1) (us ++ [x]) → w.grownBy w' (Value.slice ao n c).ownBlock → ((Value.slice ao' (n + 1) c').ownBlock = (Value.slice ao n c).ownBlock ∨ (Value.slice ao' (n + 1) c').ownBlock = some (w.heap.size + 1)) → Below B w w' → wpList Try.prog ops Q rest (a.put d (.slice ao' (n + 1) c')) w') :
    wpList Try.prog ops Q (⟨d, .call { callee := .builtin .append, args := #[p, q], argTypes := #[45, 45] }, ty, pos, after, none⟩ :: rest) a (w.alloc (.cells #[x] 48)) := by
  obtain ⟨i0, hi, hz0, hz1, hz2⟩ := info_parts infoRow
  have b1 : Below w.heap.size w (w.alloc (.cells #[x] 48)) := (Below.refl _ _).alloc (Nat.le_refl _) _
  have g1 : w.grownBy (w.alloc (.cells #[x] 48)) (Value.slice ao n c).ownBlock := ⟨b1.os, b1.tape, b1.output, b1.size, fun k hk _ => b1.block k hk⟩
  have hO1 : (w.alloc (.cells #[x] 48)).ownsRow B 48 1 (.slice ao n c) n us := World.ownsRow.kept (row := none) hO ⟨b1.os, b1.tape, b1.output, b1.size, fun j hj _ => b1.block j hj⟩ (by cases (Value.slice ao n c).ownBlock <;> simp)
  refine wpList_append_own_at _ rfl p q 45 rfl B 48 i0 (.slice none 0 0) 1 24 Try.underlying45 hi hz0 hz1 hz2 rfl (by decide) _ n _ hp hO1 ⟨w.heap.size, 0, none⟩ 1 1 [x] hq rfl (cell_one_new _ _ _) (by simpa using h1) (by unfold maxLen; omega) (by omega) (by simp; omega) ?_
  intro v' w' ho' hg _ hob
  obtain ⟨av, cv, hv⟩ : ∃ ao c, v' = .slice ao (n + 1) c := by
    rcases ho'.2 with ⟨hv, h0⟩ | ⟨g, cap, _, hv, _⟩
    · omega
    · exact ⟨_, cap, hv⟩
  subst hv
  refine h av cv w' ho' (grown_trans g1 hg) ?_ ((b1.mono hB).trans ((Below.refl _ _).grown hg (by simp; omega) (fun k hk => (World.ownsRow.lt hO k hk).1)))
  rcases hob with e | e
  · exact Or.inl e
  · exact Or.inr (by rw [e]; simp)
end
/-- The first r rows are read. -/
structure OpI (w : World) (ao : Option Addr) (oc v r : Nat) (G : Nat → Nat) (f : Nat → Nat → Bool) (W : World) : Prop where
  out : W.ownsRow w.heap.size 48 1 (.slice ao r oc) r (rowsV G v r)
  row : ∀ k, k < r → w.heap.size ≤ G k ∧ (Value.slice ao r oc).ownBlock ≠ some (G k) ∧ Arr W (G k) 4 (rowB v (f k))
  inj : ∀ k s, k < r → s < r → G k = G s → k = s
  b : Below w.heap.size w W
theorem OpI.grown {w W W' : World} {ao : Option Addr} {oc v r g : Nat} {G : Nat → Nat} {f : Nat → Nat → Bool} (h : OpI w ao oc v r G f W) (hg : W.grownBy W' (some g)) (h1 : (Value.slice ao r oc).ownBlock ≠ some g) (h2 : ∀ k, k < r → G k ≠ g) (h3 : w.heap.size ≤ g) : OpI w ao oc v r G f W' :=
  ⟨h.out.kept hg (Or.inr h1), fun k hk => ⟨(h.row k hk).1, (h.row k hk).2.1, (h.row k hk).2.2.grownBy hg (h2 k hk)⟩, h.inj, below_grown h.b hg h.b.size h3⟩
theorem OpI.kept {w W W' : World} {ao : Option Addr} {oc v r : Nat} {G : Nat → Nat} {f : Nat → Nat → Bool} (h : OpI w ao oc v r G f W) (hb : Below W.heap.size W W') : OpI w ao oc v r G f W' :=
  ⟨h.out.kept (row := none) ⟨hb.os, hb.tape, hb.output, hb.size, fun j hj _ => hb.block j hj⟩ (by cases (Value.slice ao r oc).ownBlock <;> simp), fun k hk => ⟨(h.row k hk).1, (h.row k hk).2.1, (h.row k hk).2.2.kept hb⟩, h.inj, h.b.trans (hb.mono h.b.size)⟩
theorem OpI.drew {w W : World} {ao : Option Addr} {oc v r : Nat} {G : Nat → Nat} {f : Nat → Nat → Bool} (h : OpI w ao oc v r G f W) : OpI w ao oc v r G f W.drew := ⟨h.out, h.row, h.inj, h.b.drew⟩
/-- The row under way. -/
structure OpR (w : World) (ao : Option Addr) (oc v r : Nat) (G : Nat → Nat) (F : Nat → Nat → Bool) (g cc : Nat) (W : World) : Prop where
  o : OpI w ao oc v r G F W
  low : w.heap.size ≤ g
  own : (Value.slice ao r oc).ownBlock ≠ some g
  ne : ∀ k, k < r → G k ≠ g
  a : Arr W g 4 (rowB v (fT F r cc r))
theorem OpR.kept {w W W' : World} {ao : Option Addr} {oc v r g cc : Nat} {G : Nat → Nat} {F : Nat → Nat → Bool} (h : OpR w ao oc v r G F g cc W) (hb : Below W.heap.size W W') : OpR w ao oc v r G F g cc W' :=
  ⟨h.o.kept hb, h.low, h.own, h.ne, h.a.kept hb⟩
theorem OpR.drew {w W : World} {ao : Option Addr} {oc v r g cc : Nat} {G : Nat → Nat} {F : Nat → Nat → Bool} (h : OpR w ao oc v r G F g cc W) : OpR w ao oc v r G F g cc W.drew := ⟨h.o.drew, h.low, h.own, h.ne, h.a⟩
theorem OpR.step {w W : World} {ao : Option Addr} {oc v r g cc : Nat} {G : Nat → Nat} {F : Nat → Nat → Bool} (h : OpR w ao oc v r G F g cc W) (hc : cc < v) : ∃ o, W.cell? ⟨g, cc, none⟩ = some (.bool o) ∧ W.frozen? ⟨g, cc, none⟩ = false ∧ W.grownBy (W.setCell ⟨g, cc, none⟩ (.bool (F r cc))) (some g) ∧ OpR w ao oc v r G F g (cc + 1) (W.setCell ⟨g, cc, none⟩ (.bool (F r cc))) := by
  have hG : W.grownBy (W.setCell ⟨g, cc, none⟩ (.bool (F r cc))) (some g) := grown_set W ⟨g, cc, none⟩ _
  refine ⟨fT F r cc r cc, ?_, h.a.frozen cc, hG, h.o.grown hG h.own h.ne h.low, h.low, h.own, h.ne, ?_⟩
  · rw [h.a.cell cc, rowB_get v _ cc hc]
  · rw [← fT_step, ← rowB_set]
    exact h.a.set cc _
theorem opr_start {w W U : World} {ao : Option Addr} {oc v r : Nat} {G : Nat → Nat} {F : Nat → Nat → Bool} (h : OpI w ao oc v r G F W) (hU : W.alloc (.cells (madeCells #[.bool false] v) 4) = U) : OpR w ao oc v r G F W.heap.size 0 U := by
  have AR : Arr U W.heap.size 4 (rowB v (fun _ => false)) := by rw [← hU]; exact made_row W v
  have BU : Below W.heap.size W U := by rw [← hU]; exact (Below.refl _ _).alloc (Nat.le_refl _) _
  have e : rowB v (fT F r 0 r) = rowB v (fun _ => false) := by
    unfold rowB
    apply List.map_congr_left
    intro k _
    unfold fT
    rw [if_neg (by omega)]
  refine ⟨h.kept BU, h.b.size, fun e => ?_, fun k hk e => ?_, by rw [e]; exact AR⟩
  · have := World.ownsRow.lt h.out _ e
    omega
  · have := (h.row k hk).2.2.lt
    omega
theorem opr_end {w W W' : World} {ao ao' : Option Addr} {oc oc' v r g : Nat} {G : Nat → Nat} {F : Nat → Nat → Bool} (h : OpR w ao oc v r G F g v W)
    (O : W'.ownsRow w.heap.size 48 1 (.slice ao' (r + 1) oc') (r + 1) (rowsV G v r ++ [.slice (some ⟨g, 0, none⟩) v v])) (hg : W.grownBy W' (Value.slice ao r oc).ownBlock) (hob : (Value.slice ao' (r + 1) oc').ownBlock = (Value.slice ao r oc).ownBlock ∨ (Value.slice ao' (r + 1) oc').ownBlock = some (W.heap.size + 1)) (hb : Below w.heap.size W W') :
    OpI w ao' oc' v (r + 1) (updG G r g) F W' := by
  have hlt := h.a.lt
  have hne : ∀ x, (Value.slice ao r oc).ownBlock ≠ some x → x < W.heap.size → (Value.slice ao' (r + 1) oc').ownBlock ≠ some x := fun x h1 h2 e => by
    rcases hob with e1 | e1
    · exact h1 (e1.symm.trans e)
    · rw [e1] at e; injection e with e; omega
  have hkeep : ∀ x cs, (Value.slice ao r oc).ownBlock ≠ some x → Arr W x 4 cs → Arr W' x 4 cs := fun x cs h1 h2 => (hg.block x h2.lt (fun e => h1 e.symm)).trans h2
  refine ⟨by rw [rowsV_snoc]; exact O, fun k hk => ?_, fun k s hk hs e => ?_, h.o.b.trans hb⟩
  · by_cases e : k = r
    · subst e
      rw [updG_at]
      refine ⟨h.low, hne _ h.own hlt, hkeep _ _ h.own ?_⟩
      have e2 : rowB v (fT F k v k) = rowB v (F k) := by
        unfold rowB
        apply List.map_congr_left
        intro j hj
        unfold fT
        rw [if_pos (Or.inr ⟨rfl, List.mem_range.1 hj⟩)]
      rw [← e2]
      exact h.a
    · rw [updG_lt (by omega)]
      obtain ⟨g1, g2, g3⟩ := h.o.row k (by omega)
      exact ⟨g1, hne _ g2 g3.lt, hkeep _ _ g2 g3⟩
  · by_cases e1 : k = r
    · by_cases e2 : s = r
      · omega
      · subst e1
        rw [updG_at, updG_lt (by omega)] at e
        exact absurd e.symm (h.ne s (by omega))
    · by_cases e2 : s = r
      · subst e2
        rw [updG_at, updG_lt (by omega)] at e
        exact absurd e (h.ne k (by omega))
      · rw [updG_lt (by omega), updG_lt (by omega)] at e
        exact h.o.inj k s (by omega) (by omega) e
theorem op_start (w : World) (v : Nat) (F : Nat → Nat → Bool) : OpI w none 0 v 0 (fun _ => 0) F w :=
  ⟨World.ownsRow_nil _ _ _ _, fun k h => absurd h (by omega), fun k s h => absurd h (by omega), Below.refl _ _⟩
theorem op_end {w W : World} {ao : Option Addr} {oc v r : Nat} {G : Nat → Nat} {F : Nat → Nat → Bool} (h : OpI w ao oc v r G F W) (hr : 1 ≤ r) : ∃ go, ao = some ⟨go, 0, none⟩ ∧ Pix w.heap.size W go r oc v G F := by
  obtain ⟨go, rfl⟩ : ∃ go, ao = some ⟨go, 0, none⟩ := by
    rcases h.out.2 with ⟨hv, h0⟩ | ⟨g, cap, _, hv, _⟩
    · injection hv; omega
    · injection hv with e; exact ⟨g, e⟩
  exact ⟨go, rfl, h.out, fun k hk => ⟨(h.row k hk).1, fun e => (h.row k hk).2.1 (by rw [e]; rfl), (h.row k hk).2.2⟩, h.inj⟩
end Go.Proofs.Ytcgfoagfoncjiaa
