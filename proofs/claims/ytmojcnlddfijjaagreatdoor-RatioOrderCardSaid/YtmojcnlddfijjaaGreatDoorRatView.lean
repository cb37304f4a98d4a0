/-
  A Ratio that came in, as the walks ask for it.
-/
import Derived.ProofKit
import Derived.OpenShut
import Derived.Lib.SmallJoins
import Derived.Test.YtmojcnlddfijjaaGreatDoorNatView
namespace Go.Proofs.YtmojcnlddfijjaaGreatDoor
open Go.RowKit Go.ChangeShapes Go.WideShapes

theorem view_cells {H : Type} {enc : TypeId × Value → H} {W : World} {v : Value} {fuel : Nat} {x : DataW H × List MemPlace}
    (hf : DataW.trod enc Tryz.prog W 0 (fun _ => true) true fuel 23 [v] = some x) : ∃ a l c xs, v = .slice a l c ∧ Lst .u32 W a l c xs := by
  rcases open_ints Tryz.underlying23 Tryz.underlying66 cells60 hf with ⟨hcs, _⟩ | ⟨ad, len, cap, zs, hcs, _, hl, hm, hz, _, hcell, hw⟩
  · simp at hcs
    exact ⟨none, 0, 0, [], hcs, Lst.nil _ _⟩
  · simp at hcs
    simp at hz
    refine ⟨some ad, len, cap, zs.take len, hcs, ⟨by simp; omega, hl, by simpa [maxLen] using hm, fun _ => ⟨_, rfl⟩, fun i hi => ?_, fun x hx => hw x (List.mem_of_mem_take hx)⟩⟩
    have := hcell i (by omega)
    simp only [pt, Option.getD_some]
    rw [this]
    simp [List.getD, hi]

set_option maxRecDepth 100000 in
theorem view_ratio {H : Type} {enc : TypeId × Value → H} {W : World} {r : Reach} {b0 : Nat} {v : Value} {d : DataW H} {ps : List MemPlace}
    (hv : Value.okWide Tryz.prog W r b0 25 v) (h : DataW.Trod enc Tryz.prog W 0 (fun _ => true) true 25 v d ps) :
    ∃ s a b n c m e xs ys, v = .agg #[.bool s, .slice a n c, .slice b m e] ∧ Lst .u32 W a n c xs ∧ Lst .u32 W b m e ys := by
  obtain ⟨v0, v1, v2, y0, y1, y2, n, rfl, _, _, h0, h1, h2⟩ := Joins.open_agg3 Tryz.underlying25 (by kernel_rfl) (by kernel_rfl) hv h
  obtain ⟨s, hs, _⟩ := DataW.trod_bool Tryz.underlying4 h0
  obtain ⟨a, l, c, xs, rfl, L⟩ := view_cells h1
  obtain ⟨b, m, e, ys, rfl, M⟩ := view_cells h2
  simp at hs
  subst hs
  exact ⟨s, a, b, l, c, m, e, xs, ys, rfl, L, M⟩
end Go.Proofs.YtmojcnlddfijjaaGreatDoor
