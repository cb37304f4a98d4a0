/-
  The walk of RandomBelow.
-/
import Derived.Test.YtgomconcfjllcaaDoorRndAwake
namespace Go.Proofs.YtgomconcfjllcaaDoor
open Go.RowKit Dig Rnd

set_option maxHeartbeats 1600000 in
set_option maxRecDepth 100000 in
theorem belowLaw_c (S : ByteArray) (z : Int) (w : World) (hs : S.size ≤ maxLen) (hK : KTab 1 w) (hK0 : KTab 0 w) :
    Calls Tryd.prog 5 #[.string S, .int .i64 z] w fun e w' => e = .returned (.bool true) ∧ Below w.heap.size w w' := by
  have HC := Lib.hid (short_c S w hs)
  clear hs
  by_cases hr : 1 ≤ z ∧ z ≤ 2147483648
  · obtain ⟨n, rfl⟩ := Int.eq_ofNat_of_zero_le (show 0 ≤ z by omega)
    obtain ⟨h1, h2⟩ := hr
    have hn1 : 1 ≤ n := by omega
    have hn2 : n ≤ 2147483648 := by omega
    have hz1 : ¬ ((n : Int) < 1) := by omega
    have hz2 : ¬ ((n : Int) > 2147483648) := by omega
    go_enter Tryd.func5, Tryd.ntmps5
    go_wp2_with fail
    refine HC.out.mono ?_
    rintro e w1 ⟨T, rfl, hT, rfl⟩
    have HN := Lib.hid (new_c T w)
    clear HC
    go_wp2_with fail
    refine HN.out.mono ?_
    rintro e w2 ⟨g, rfl, hg, S2, b2⟩
    have HB := Lib.hid (below_c g T 0 n w2 S2 (by omega) (by omega) hn1 hn2 (hK.below b2))
    have hlt := belN_lt T n (by omega) 15 0
    obtain ⟨J, hJ⟩ : ∃ J, Hid (J = (belN T n 15 0).1) := ⟨_, rfl⟩
    rw [← hJ.out] at HB hlt
    clear HN S2
    go_wp2_with fail
    refine HB.out.mono ?_
    rintro e w3 ⟨rfl, _, G3⟩
    have B3 : Below w.heap.size w w3 := below_grown b2 G3 b2.size hg
    have HA := Lib.hid (awake_c w3 (hK.below B3) (hK0.below B3))
    have hlti : (J : Int) < (n : Int) := by omega
    clear HB b2 G3
    go_wp2_with fail
    refine HA.out.mono ?_
    rintro e w4 ⟨rfl, b4⟩
    have B4 : Below w.heap.size w w4 := B3.trans (b4.mono B3.size)
    clear HA B3 b4
    go_wp2_with fail
    go_ret
    exact ⟨rfl, B4⟩
  · have hno : z < 1 ∨ 2147483648 < z := by omega
    clear hr
    by_cases hz : z < 1
    case' neg => have hz2 : z > 2147483648 := by omega
    all_goals
      have HNO := Lib.hid hno
      clear hno
      go_enter Tryd.func5, Tryd.ntmps5
      go_wp2_with fail
      refine HC.out.mono ?_
      rintro e w1 ⟨T, rfl, hT, rfl⟩
      have HN := Lib.hid (new_c T w)
      clear HC
      go_wp2_with fail
      refine HN.out.mono ?_
      rintro e w2 ⟨g, rfl, hg, S2, b2⟩
      clear HN
      go_wp2_with fail
      refine (below_no (some ⟨g, 0, none⟩) z w2 (Or.inr HNO.out)).mono ?_
      rintro e w3 ⟨rfl, rfl⟩
      have HA := Lib.hid (awake_c w2 (hK.below b2) (hK0.below b2))
      go_wp2_with fail
      refine HA.out.mono ?_
      rintro e w4 ⟨rfl, b4⟩
      have B4 : Below w.heap.size w w4 := b2.trans (b4.mono b2.size)
      have HW := Lib.hid (word_c g T 0 w4 (S2.kept b4) (by omega) (by omega) (hK.below B4))
      obtain ⟨x, hx⟩ : ∃ x, Hid (x = wordN T 0) := ⟨_, rfl⟩
      rw [← hx.out] at HW
      have hxx : ((x : Int) == (x : Int)) = true := beq_self_eq_true _
      clear HA b2 b4 S2
      go_wp2_with fail
      refine HW.out.mono ?_
      rintro e w5 ⟨rfl, _, G5⟩
      have B5 : Below w.heap.size w w5 := below_grown B4 G5 B4.size hg
      obtain ⟨V, hV⟩ : ∃ V, Hid (V = w5.alloc (.cells #[.string T, .int .u64 0] 29)) := ⟨_, rfl⟩
      have b6 : Below w5.heap.size w5 V := by rw [hV.out]; exact (Below.refl _ _).alloc (Nat.le_refl _) _
      have S6 : Src 29 V w5.heap.size T 0 := by rw [hV.out]; exact new_src 29 w5 T
      have B6 : Below w.heap.size w V := B5.trans (b6.mono B5.size)
      have HR := Lib.hid (refword_c w5.heap.size T 0 V S6 (by omega) (by omega) (hK0.below B6))
      rw [← hx.out] at HR
      have hz5 := B5.size
      clear HW G5 B4 b6 S6 B5
      go_wp2_with fail
      rw [← hV.out]
      refine HR.out.mono ?_
      rintro e w7 ⟨rfl, _, G7⟩
      have B7 : Below w.heap.size w w7 := below_grown B6 G7 B6.size hz5
      clear HR G7 B6
      go_wp2_with fail
      go_ret
      exact ⟨rfl, B7⟩
end Go.Proofs.YtgomconcfjllcaaDoor
