/-
  A slice of calls that came in, as the walk asks for it.
-/
import Derived.ProofKit
import Derived.OpenShut
import Derived.Deep.SlicePairs
import Derived.Test.YtgomconcfjllcaaDoorDigView
import Derived.Test.YtgomconcfjllcaaDoorRndScriptLaw
namespace Go.Proofs.YtgomconcfjllcaaDoor
open Go.RowKit Go.ChangeShapes Go.WideShapes

theorem view_ops {H : Type} {enc : TypeId × Value → H} {W : World} {a : Option Addr} {l c : Nat} {d : DataW H} {ps : List MemPlace}
    (h : DataW.Trod enc Tryd.prog W 0 (fun _ => true) true 22 (.slice a l c) d ps) : ∃ KN : (Nat → Int) × (Nat → Int), LstO W a l c KN.1 KN.2 := by
  obtain ⟨fuel, hf⟩ := h
  rcases Go.Deep.open_slice_pairs Tryd.underlying22 Tryd.underlying31 (by kernel_rfl) rfl rfl (by kernel_rfl) (by kernel_rfl) hf with ⟨hcs, _⟩ | ⟨ad, len, cap, m, nn, V0, V1, D0, D1, P0, P1, hcs, _, hl, hm, hmm, _, hx⟩
  · simp [Value.cells] at hcs
    obtain ⟨rfl, rfl, rfl⟩ := hcs
    exact ⟨(fun _ => 0, fun _ => 0), Nat.le_refl _, by omega, fun h => absurd h (by omega), fun i hi => absurd hi (by omega), fun i hi => absurd hi (by omega)⟩
  · simp [Value.cells] at hcs
    obtain ⟨rfl, rfl, rfl⟩ := hcs
    have hmc : m = c := by simpa using hmm
    subst hmc
    obtain ⟨B, hB⟩ := Go.Deep.choose_lt (α := Int × Int) (n := m) (p := fun i b => V0 i = .int .i64 b.1 ∧ V1 i = .int .i64 b.2) (fun i hi => by
      obtain ⟨_, _, h0, h1⟩ := hx i hi
      obtain ⟨x, e0, _, _⟩ := DataW.trod_int Tryd.underlying3 h0
      obtain ⟨y, e1, _, _⟩ := DataW.trod_int Tryd.underlying3 h1
      exact ⟨(x, y), by simpa using e0, by simpa using e1⟩)
    refine ⟨(fun i => (B i).1, fun i => (B i).2), hl, by simpa [maxLen] using hm, fun _ => ⟨_, rfl⟩, fun i hi => ?_, fun i hi => ?_⟩
    · simp only [pt, Option.getD_some]
      rw [(hx i (by omega)).1, (hB i (by omega)).1]
    · simp only [pt, Option.getD_some]
      rw [(hx i (by omega)).2.1, (hB i (by omega)).2]
end Go.Proofs.YtgomconcfjllcaaDoor
