/-
  An Odd that came in, as the walk asks for it.
-/
import Derived.Test.YtmojcnlddfijjaaDoorRatView
namespace Go.Proofs.YtmojcnlddfijjaaDoor
open Go.RowKit Go.ChangeShapes Go.WideShapes

set_option maxRecDepth 100000 in
theorem view_odd {H : Type} {enc : TypeId × Value → H} {W : World} {r : Reach} {b0 : Nat} {v : Value} {d : DataW H} {ps : List MemPlace}
    (hv : Value.okWide Tryd.prog W r b0 63 v) (h : DataW.Trod enc Tryd.prog W 0 (fun _ => true) true 63 v d ps) :
    ∃ a b n c m e xs ys x s, v = .agg #[.slice a n c, .slice b m e, .int .i64 x, .string s] ∧ Lst .u32 W a n c xs ∧ Lst .u32 W b m e ys ∧ s.size ≤ maxLen := by
  obtain ⟨v0, v1, v2, v3, y0, y1, y2, y3, n, rfl, _, _, h0, h1, h2, h3⟩ := Joins.open_agg4 Tryd.underlying63 (by kernel_rfl) (by kernel_rfl) hv h
  obtain ⟨a, l, c, xs, rfl, L⟩ := view_cells h0
  obtain ⟨b, m, e, ys, rfl, M⟩ := view_cells h1
  obtain ⟨x, hx, _⟩ := DataW.trod_int Tryd.underlying3 h2
  obtain ⟨s, hs, _, hm⟩ := DataW.trod_string Tryd.underlying9 h3
  simp at hx hs
  subst hx hs
  exact ⟨a, b, l, c, m, e, xs, ys, x, s, rfl, L, M, hm⟩
end Go.Proofs.YtmojcnlddfijjaaDoor
