/-
  nat.Parse of whatever text.
-/
import Derived.Test.YtmojcnlddfijjaaGreatDoorNatParse
import Derived.Test.YtmojcnlddfijjaaGreatDoorNatHelp2
namespace Go.Proofs.YtmojcnlddfijjaaGreatDoor
open Go.RowKit NatMath

/-- The limbs of a text's number; none where it is no numeral. -/
noncomputable def pv (s : ByteArray) : List Int := if numB s then limbs (numG s 0 s.size) else []

theorem parseU_c (s : ByteArray) (w : World) (hs : s.size ≤ 40) :
    Calls Tryz.prog 50 #[.string s] w fun e w' => ∃ a n c, n ≤ 42 ∧ e = .returned (.tuple #[.slice a n c, .bool (numB s)]) ∧ Own 66 .u32 w.heap.size w' a n c (pv s) ∧ Below w.heap.size w w' := by
  by_cases hn : numB s = true
  · have hd : DigTo s s.size := by
      by_cases h : Numeral s
      · exact h.1
      · rw [numB_false h] at hn; cases hn
    refine (parse_c s w hs hn hd).mono ?_
    rintro e w' ⟨a, n, c, h1, rfl, o, b⟩
    exact ⟨a, n, c, h1, by rw [hn], by rw [pv, if_pos hn]; exact o, b⟩
  · have hf : numB s = false := by simpa using hn
    refine (parse_no_c s w hs hf).mono ?_
    rintro e w' ⟨rfl, rfl⟩
    exact ⟨none, 0, 0, by omega, by rw [hf], by rw [pv, if_neg hn]; exact own_nil _ _ _ _, Below.refl _ _⟩
end Go.Proofs.YtmojcnlddfijjaaGreatDoor
