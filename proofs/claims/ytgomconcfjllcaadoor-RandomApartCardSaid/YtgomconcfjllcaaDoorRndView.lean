/-
  A slice of bools that came in, as the walk asks for it.
-/
import Derived.ProofKit
import Derived.OpenShut
import Derived.Deep.Grids
import Derived.Test.YtgomconcfjllcaaDoorDigView
import Derived.Test.YtgomconcfjllcaaDoorRndApartLaw
namespace Go.Proofs.YtgomconcfjllcaaDoor
open Go.RowKit Go.ChangeShapes Go.WideShapes

theorem cellsB : Tryd.prog.cellsOf 4 = 1 := by kernel_rfl
theorem view_bools {H : Type} {enc : TypeId × Value → H} {W : World} {a : Option Addr} {l c : Nat} {d : DataW H} {ps : List MemPlace}
    (h : DataW.Trod enc Tryd.prog W 0 (fun _ => true) true 40 (.slice a l c) d ps) : ∃ xs, LstT W a l c xs := by
  obtain ⟨fuel, hf⟩ := h
  rcases Go.Deep.open_bools Tryd.underlying40 Tryd.underlying4 cellsB hf with ⟨hcs, _⟩ | ⟨ad, len, cap, Z, hcs, _, hl, hm, _, hcell⟩
  · simp [Value.cells] at hcs
    obtain ⟨rfl, rfl, rfl⟩ := hcs
    exact ⟨[], rfl, Nat.le_refl _, by omega, fun h => absurd h (by omega), fun i hi => absurd hi (by omega)⟩
  · simp [Value.cells] at hcs
    obtain ⟨rfl, rfl, rfl⟩ := hcs
    refine ⟨(List.range l).map Z, by simp, hl, by simpa [maxLen] using hm, fun _ => ⟨_, rfl⟩, fun i hi => ?_⟩
    simp only [pt, Option.getD_some]
    rw [hcell i (by omega)]
    simp [List.getD, hi]
end Go.Proofs.YtgomconcfjllcaaDoor
