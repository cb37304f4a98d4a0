/-
  A Nat that came in: nil has no capacity.
-/
import Derived.ProofKit
import Derived.OpenShut
import Derived.Test.YtgjndondonehhaaDoorNatBase
import Derived.Test.YtgjndondonehhaaDoorNatView
namespace Go.Proofs.YtgjndondonehhaaDoor
open Go.RowKit Go.ChangeShapes Go.WideShapes

theorem view_nat0 {H : Type} {enc : TypeId × Value → H} {W : World} {a : Option Addr} {l c : Nat} {d : DataW H} {ps : List MemPlace}
    (h : DataW.Trod enc Tryd.prog W 0 (fun _ => true) true 23 (.slice a l c) d ps) : a = none → c = 0 := by
  obtain ⟨fuel, hf⟩ := h
  rcases open_ints Tryd.underlying23 Tryd.underlying75 cells60 hf with ⟨hcs, _⟩ | ⟨ad, len, cap, zs, hcs, _, hl, hm, hz, _, hcell, hw⟩
  · simp [Value.cells] at hcs
    exact fun _ => hcs.2.2
  · simp [Value.cells] at hcs
    intro e
    rw [e] at hcs
    exact absurd hcs.1 (by simp)
end Go.Proofs.YtgjndondonehhaaDoor
