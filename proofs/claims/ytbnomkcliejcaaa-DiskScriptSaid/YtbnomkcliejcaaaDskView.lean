/-
  Bytes, bools, what DiskSafe is given, the calls of a script, as they came in.
-/
import Derived.ProofKit
import Derived.OpenShut
import Derived.Lib.SmallJoins
import Derived.Deep.Grids
import Derived.Test.YtbnomkcliejcaaaDskCrash
namespace Go.Proofs.Ytbnomkcliejcaaa
open Go.RowKit Go.ChangeShapes Go.WideShapes Ds

theorem cells5v : Try.prog.cellsOf 5 = 1 := by kernel_rfl
theorem cellsTv : Try.prog.cellsOf 4 = 1 := by kernel_rfl
section
variable {H : Type} {enc : TypeId × Value → H} {W : World} {v : Value} {fuel : Nat} {x : DataW H × List MemPlace}
theorem view_cells8 (hf : DataW.trod enc Try.prog W 0 (fun _ => true) true fuel 27 [v] = some x) : ∃ a l c xs, v = .slice a l c ∧ Lst .u8 W a l c xs ∧ (a = none → c = 0) := by
  rcases open_ints Try.underlying27 Try.underlying5 cells5v hf with ⟨hcs, _⟩ | ⟨ad, len, cap, zs, hcs, _, hl, hm, hz, _, hcell, hw⟩
  · simp at hcs
    exact ⟨none, 0, 0, [], hcs, Lst.nil _ _, fun _ => rfl⟩
  · simp at hcs
    simp at hz
    refine ⟨some ad, len, cap, zs.take len, hcs, ⟨by simp; omega, hl, by simpa [maxLen] using hm, fun _ => ⟨_, rfl⟩, fun i hi => ?_, fun x hx => hw x (List.mem_of_mem_take hx)⟩, fun e => by cases e⟩
    have := hcell i (by omega)
    simp only [pt, Option.getD_some]
    rw [this]
    simp [List.getD, hi]
theorem view_cellsT (hf : DataW.trod enc Try.prog W 0 (fun _ => true) true fuel 28 [v] = some x) : ∃ a l c xs, v = .slice a l c ∧ LstT W a l c xs ∧ (a = none → c = 0) := by
  rcases Go.Deep.open_bools Try.underlying28 Try.underlying4 cellsTv hf with ⟨hcs, _⟩ | ⟨ad, len, cap, Z, hcs, _, hl, hm, _, hcell⟩
  · simp at hcs
    exact ⟨none, 0, 0, [], hcs, ⟨rfl, Nat.le_refl _, by omega, fun h => absurd h (by omega), fun i hi => absurd hi (by omega)⟩, fun _ => rfl⟩
  · simp at hcs
    refine ⟨some ad, len, cap, (List.range len).map Z, hcs, ⟨by simp, hl, by simpa [maxLen] using hm, fun _ => ⟨_, rfl⟩, fun i hi => ?_⟩, fun e => by cases e⟩
    simp only [pt, Option.getD_some]
    rw [hcell i (by omega)]
    simp [List.getD, hi]
end
section
variable {H : Type} {enc : TypeId × Value → H} {W : World} {r : Reach} {b0 : Nat} {v : Value} {d : DataW H} {ps : List MemPlace}
theorem view_bytes (hv : Value.okWide Try.prog W r b0 27 v) (h : DataW.Trod enc Try.prog W 0 (fun _ => true) true 27 v d ps) : ∃ a l c xs, v = .slice a l c ∧ Lst .u8 W a l c xs ∧ (a = none → c = 0) := by
  obtain ⟨fuel, hf⟩ := h
  obtain ⟨a, l, c, rfl⟩ := okWide_slice Try.underlying27 hv
  simp only [Value.cells] at hf
  exact view_cells8 hf
theorem view_bools (hv : Value.okWide Try.prog W r b0 28 v) (h : DataW.Trod enc Try.prog W 0 (fun _ => true) true 28 v d ps) : ∃ a l c xs, v = .slice a l c ∧ LstT W a l c xs ∧ (a = none → c = 0) := by
  obtain ⟨fuel, hf⟩ := h
  obtain ⟨a, l, c, rfl⟩ := okWide_slice Try.underlying28 hv
  simp only [Value.cells] at hf
  exact view_cellsT hf
end
end Go.Proofs.Ytbnomkcliejcaaa
