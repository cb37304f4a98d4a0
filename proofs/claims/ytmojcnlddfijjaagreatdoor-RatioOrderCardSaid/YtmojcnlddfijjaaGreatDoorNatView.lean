/-
  A Nat that came in, as the walks ask for it.
-/
import Derived.ProofKit
import Derived.OpenShut
import Derived.Test.YtmojcnlddfijjaaGreatDoorNatBase
namespace Go.Proofs.YtmojcnlddfijjaaGreatDoor
open Go.RowKit Go.ChangeShapes Go.WideShapes

theorem cells60 : Tryz.prog.cellsOf 66 = 1 := by kernel_rfl

theorem view_nat {H : Type} {enc : TypeId × Value → H} {W : World} {a : Option Addr} {l c : Nat} {d : DataW H} {ps : List MemPlace}
    (h : DataW.Trod enc Tryz.prog W 0 (fun _ => true) true 23 (.slice a l c) d ps) : ∃ xs, Lst .u32 W a l c xs := by
  obtain ⟨fuel, hf⟩ := h
  rcases open_ints Tryz.underlying23 Tryz.underlying66 cells60 hf with ⟨hcs, _⟩ | ⟨ad, len, cap, zs, hcs, _, hl, hm, hz, _, hcell, hw⟩
  · simp [Value.cells] at hcs
    obtain ⟨rfl, rfl, rfl⟩ := hcs
    exact ⟨[], Lst.nil _ _⟩
  · simp [Value.cells] at hcs
    obtain ⟨rfl, rfl, rfl⟩ := hcs
    simp at hz
    refine ⟨zs.take l, ⟨by simp; omega, hl, by simpa [maxLen] using hm, fun _ => ⟨_, rfl⟩, fun i hi => ?_, fun x hx => hw x (List.mem_of_mem_take hx)⟩⟩
    have := hcell i (by omega)
    simp only [pt, Option.getD_some]
    rw [this]
    simp [List.getD, hi]
end Go.Proofs.YtmojcnlddfijjaaGreatDoor
