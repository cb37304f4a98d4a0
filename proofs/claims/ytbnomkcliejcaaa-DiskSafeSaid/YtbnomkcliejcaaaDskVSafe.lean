/-
  What DiskSafe is given, as it came in.
-/
import Derived.Test.YtbnomkcliejcaaaDskView
import Derived.Test.YtbnomkcliejcaaaDskLaw4
namespace Go.Proofs.Ytbnomkcliejcaaa
open Go.RowKit Go.ChangeShapes Go.WideShapes Ds

set_option maxRecDepth 100000 in
theorem view_safe {H : Type} {enc : TypeId × Value → H} {W : World} {r : Reach} {b0 : Nat} {v : Value} {d : DataW H} {ps : List MemPlace}
    (hv : Value.okWide Try.prog W r b0 44 v) (h : DataW.Trod enc Try.prog W 0 (fun _ => true) true 44 v d ps) :
    ∃ (ao : Option Addr) (an ac : Nat) (xs : List Int) (bo : Option Addr) (bn bc : Nat) (ys : List Int) (L : Int) (ko : Option Addr) (kn kc : Nat) (ks : List Bool), v = .agg #[.slice ao an ac, .slice bo bn bc, .int .i64 L, .slice ko kn kc] ∧
      -9223372036854775808 ≤ L ∧ L ≤ 9223372036854775807 ∧ SafeV W ao an ac xs bo bn bc ys ko kn kc ks := by
  obtain ⟨v0, v1, v2, v3, y0, y1, y2, y3, n, rfl, _, _, h0, h1, h2, h3⟩ := Joins.open_agg4 Try.underlying44 (by kernel_rfl) (by kernel_rfl) hv h
  obtain ⟨ao, an, ac, xs, rfl, LA, NA⟩ := view_cells8 h0
  obtain ⟨bo, bn, bc, ys, rfl, LB, NB⟩ := view_cells8 h1
  obtain ⟨L, hL, _, wL⟩ := DataW.trod_int Try.underlying3 h2
  obtain ⟨ko, kn, kc, ks, rfl, LK, NK⟩ := view_cellsT h3
  simp at hL
  subst hL
  have hb : -9223372036854775808 ≤ L ∧ L ≤ 9223372036854775807 := by simpa [Lit.wf, IntKind.min, IntKind.max, IntKind.signed, IntKind.bits] using wL
  exact ⟨ao, an, ac, xs, bo, bn, bc, ys, L, ko, kn, kc, ks, rfl, hb.1, hb.2, LA, NA, LB, NB, LK, NK⟩
end Go.Proofs.Ytbnomkcliejcaaa
