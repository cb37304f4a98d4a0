/-
  A slice of bytes that came in, as the walks ask for it.
-/
import Derived.ProofKit
import Derived.OpenShut
import Derived.Test.YtgomconcfjllcaaDoorDigBase
namespace Go.Proofs.YtgomconcfjllcaaDoor
open Go.RowKit Go.ChangeShapes Go.WideShapes

theorem map_cast (l : List Nat) (i : Nat) : (l.map fun x : Nat => (x : Int)).getD i 0 = ((l.getD i 0 : Nat) : Int) := by
  rw [List.getD_eq_getElem?_getD, List.getElem?_map, List.getD_eq_getElem?_getD]
  cases l[i]? <;> rfl
theorem cells5v : Tryd.prog.cellsOf 5 = 1 := by kernel_rfl
theorem view_bytes {H : Type} {enc : TypeId × Value → H} {W : World} {a : Option Addr} {l c : Nat} {d : DataW H} {ps : List MemPlace}
    (h : DataW.Trod enc Tryd.prog W 0 (fun _ => true) true 48 (.slice a l c) d ps) : ∃ xs, Lst .u8 W a l c xs ∧ (a = none → c = 0) := by
  obtain ⟨fuel, hf⟩ := h
  rcases open_ints Tryd.underlying48 Tryd.underlying5 cells5v hf with ⟨hcs, _⟩ | ⟨ad, len, cap, zs, hcs, _, hl, hm, hz, _, hcell, hw⟩
  · simp [Value.cells] at hcs
    obtain ⟨rfl, rfl, rfl⟩ := hcs
    exact ⟨[], Lst.nil _ _, fun _ => rfl⟩
  · simp [Value.cells] at hcs
    obtain ⟨rfl, rfl, rfl⟩ := hcs
    simp at hz
    refine ⟨zs.take l, ⟨by simp; omega, hl, by simpa [maxLen] using hm, fun _ => ⟨_, rfl⟩, fun i hi => ?_, fun x hx => hw x (List.mem_of_mem_take hx)⟩, fun e => by cases e⟩
    have := hcell i (by omega)
    simp only [pt, Option.getD_some]
    rw [this]
    simp [List.getD, hi]
end Go.Proofs.YtgomconcfjllcaaDoor
