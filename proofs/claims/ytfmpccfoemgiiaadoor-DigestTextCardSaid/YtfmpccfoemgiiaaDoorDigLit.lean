/-
  Constant strings as bytes.
-/
import Derived.Test.YtfmpccfoemgiiaaDoorDigJoin
import Derived.Lib.SmallJoins
namespace Go.Proofs.YtfmpccfoemgiiaaDoor
open Go.RowKit Dig

/-- A constant string's bytes, marked. -/
theorem lit_lst (w : World) (xs : List Int) (fr : Nat × Nat) (hx : ∀ x ∈ xs, 0 ≤ x ∧ x ≤ 255) (hl : xs.length ≤ 1000) : Lst .u8 (w.alloc (.cells (xs.map (Value.int .u8)).toArray 5 fr)) (some ⟨w.heap.size, 0, none⟩) xs.length xs.length xs := by
  refine ⟨rfl, Nat.le_refl _, by omega, fun _ => ⟨_, rfl⟩, fun i hi => ?_, fun x h => wf_u8 (hx x h).1 (hx x h).2⟩
  rw [pt_own, World.cell?_alloc_mark]
  simp [List.getD, hi]
theorem kconv (w : World) (C : Array Value) (n c : Nat) : (convert 22 22 (.slice (some ⟨w.heap.size, 0, none⟩) n c)).run Tryd.prog (w.alloc (.cells C 5)) = .ok (.slice (some ⟨w.heap.size, 0, none⟩) n c) (w.alloc (.cells C 5 (C.size, C.size + 1))) :=
  Lib.run_convert_bytes_const (P := Tryd.prog) w 22 5 C n c Tryd.underlying22 Tryd.underlying5
end Go.Proofs.YtfmpccfoemgiiaaDoor
