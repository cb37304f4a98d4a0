/-
  The program's Encode.
-/
import Derived.Test.YtcgfoagfoncjiaaImgXorP
namespace Go.Proofs.Ytcgfoagfoncjiaa
open Go.RowKit Im

theorem two_lst (w : World) (x y : Int) (h0 : 0 ≤ x ∧ x ≤ 255) (h1 : 0 ≤ y ∧ y ≤ 255) : Lst .u8 (w.alloc (.cells #[.int .u8 x, .int .u8 y] 5)) (some ⟨w.heap.size, 0, none⟩) 2 2 [x, y] := by
  have o : Own 5 .u8 w.heap.size (w.alloc (.cells #[.int .u8 x, .int .u8 y] 5)) (some ⟨w.heap.size, 0, none⟩) 2 2 [x, y] := by
    refine ⟨World.ownsRow_lit w #[.int .u8 x, .int .u8 y] 2 (Nat.le_refl _) (by unfold maxLen; omega) rfl, ?_⟩
    intro z hz
    simp at hz
    rcases hz with rfl | rfl
    · exact wf_u8 h0.1 h0.2
    · exact wf_u8 h1.1 h1.2
  exact o.lst
theorem intsN_app (xs ys : List Nat) : intsN xs ++ intsN ys = intsN (xs ++ ys) := by simp [intsN]
theorem encR_split (b : Bool) (l : List Bool) (run : Nat) (on : Bool) (h : b ≠ on) : encR (b :: l) run on = emit run ++ encR l 1 (!on) := by
  rw [encR, if_neg h]
theorem encR_join (b : Bool) (l : List Bool) (run : Nat) : encR (b :: l) run b = encR l (run + 1) b := by
  rw [encR, if_pos rfl]
end Go.Proofs.Ytcgfoagfoncjiaa
