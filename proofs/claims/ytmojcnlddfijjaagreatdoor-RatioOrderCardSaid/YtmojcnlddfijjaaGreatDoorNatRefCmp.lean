/-
  electionref01.Cmp.
-/
import Derived.Test.YtmojcnlddfijjaaGreatDoorNatTo
namespace Go.Proofs.YtmojcnlddfijjaaGreatDoor
open Go.RowKit NatMath

theorem bval_agree {xs ys : List Bool} {j : Nat} (h : ∀ t, j ≤ t → xs.getD t false = ys.getD t false) (k : Nat) : bval (xs.take (j + k)) + bval (ys.take j) = bval (ys.take (j + k)) + bval (xs.take j) := by
  induction k with
  | zero => simp [Nat.add_comm]
  | succ k ih =>
    rw [← Nat.add_assoc, bval_take_succ, bval_take_succ, h (j + k) (by omega)]
    omega
theorem bval_agree' {xs ys : List Bool} {j : Nat} (h : ∀ t, j ≤ t → xs.getD t false = ys.getD t false) : bval xs + bval (ys.take j) = bval ys + bval (xs.take j) := by
  have := bval_agree h (xs.length + ys.length)
  rwa [List.take_of_length_le (show xs.length ≤ j + (xs.length + ys.length) by omega), List.take_of_length_le (show ys.length ≤ j + (xs.length + ys.length) by omega)] at this
theorem bval_take_lt (xs : List Bool) (j : Nat) : bval (xs.take j) < 2 ^ j :=
  Nat.lt_of_lt_of_le (bval_lt _) (Nat.pow_le_pow_right (by omega) (List.length_take_le _ _))
theorem bval_gt {xs ys : List Bool} {j : Nat} (h : ∀ t, j < t → xs.getD t false = ys.getD t false) (hx : xs.getD j false = true) (hy : ys.getD j false = false) : bval ys < bval xs := by
  have h1 := bval_agree' (j := j + 1) (fun t ht => h t (by omega))
  rw [bval_take_succ, bval_take_succ, hx, hy] at h1
  have := bval_take_lt ys j
  simp [b2n] at h1
  omega
theorem bval_same {xs ys : List Bool} (h : ∀ t, xs.getD t false = ys.getD t false) : bval xs = bval ys := by
  have := bval_agree' (j := 0) (fun t _ => h t)
  simpa [bval] using this
theorem getD_past {xs : List Bool} {n t : Nat} (h : xs.length = n) (ht : n ≤ t) : xs.getD t false = false := by
  rw [List.getD, List.getElem?_eq_none (by omega)]; rfl

set_option maxHeartbeats 1600000 in
set_option maxRecDepth 100000 in
theorem cmpT_c (ao bo : Option Addr) (n c m d : Nat) (xs ys : List Bool) (w : World) (h : LstB w ao n c xs) (k : LstB w bo m d ys) :
    Calls Tryz.prog 36 #[.slice ao n c, .slice bo m d] w fun e w' => e = .returned (.int .i64 (cmpI (bval xs) (bval ys))) ∧ w = w' := by
  have hr1 := h.room
  have hc1 := h.cap
  have hr2 := k.room
  have hc2 := k.cap
  have hA := Lib.hid (fun j w (hl : LstB w ao n c xs) => at_c ao n c xs j w hl)
  have hB := Lib.hid (fun j w (hl : LstB w bo m d ys) => at_c bo m d ys j w hl)
  have hxp : ∀ t, n ≤ t → xs.getD t false = false := fun t ht => getD_past h.len ht
  have hyp : ∀ t, m ≤ t → ys.getD t false = false := fun t ht => getD_past k.len ht
  have HXP := Lib.hid hxp; have HYP := Lib.hid hyp
  clear hxp hyp
  rcases (show n < m ∨ m ≤ n by omega) with hnm | hnm
  case' inl =>
    have hag : Hid (∀ t, m ≤ t → xs.getD t false = ys.getD t false) := fun t ht => by rw [HXP.out t (by omega), HYP.out t ht]
    obtain ⟨K, rfl⟩ : ∃ x, x = m := ⟨_, rfl⟩
  case' inr =>
    have hag : Hid (∀ t, n ≤ t → xs.getD t false = ys.getD t false) := fun t ht => by rw [HXP.out t ht, HYP.out t (by omega)]
    obtain ⟨K, rfl⟩ : ∃ x, x = n := ⟨_, rfl⟩
  all_goals
    go_enter Tryz.func36, Tryz.ntmps36
    go_wp2_with fail
    go_loop [5] (fun i => ∃ j : Nat, j ≤ K ∧ i = .int .i64 ((j : Int) - 1) ∧ Hid (∀ t, j ≤ t → xs.getD t false = ys.getD t false)) (fun i => (intOf i + 1).toNat)
    case atStart => exact ⟨K, Nat.le_refl _, rfl, hag⟩
    case round =>
      obtain ⟨j, hj, rfl, hz⟩ := hrel
      by_cases h0 : 0 < j
      · have hA1 := hA.out (j - 1) w h
        have hB1 := hB.out (j - 1) w k
        rw [show ((j - 1 : Nat) : Int) = (j : Int) - 1 from by omega] at hA1 hB1
        by_cases hxy : xs.getD (j - 1) false = ys.getD (j - 1) false
        · rw [← hxy] at hB1
          have HXY := Lib.hid hxy
          have HA1 := Lib.hid hA1; have HB1 := Lib.hid hB1
          obtain ⟨b, hb⟩ : ∃ b, Hid (b = xs.getD (j - 1) false) := ⟨_, rfl⟩
          rw [← hb.out] at HA1 HB1
          clear hxy hA1 hB1
          go_wp2_with fail
          refine HA1.out.mono ?_
          rintro e w' ⟨rfl, rfl⟩
          go_wp2_with fail
          refine HB1.out.mono ?_
          rintro e w' ⟨rfl, rfl⟩
          go_wp2_with fail
          go_round
          case rel => exact ⟨j - 1, by omega, by go_num, fun t ht => by
            by_cases e : t = j - 1
            · rw [e]; exact HXY.out
            · exact hz.out t (by omega)⟩
          case measure => simp [intOf]; omega
        · have hag2 : ∀ t, j - 1 < t → xs.getD t false = ys.getD t false := fun t ht => hz.out t (by omega)
          cases hx : xs.getD (j - 1) false with
          | true =>
            have hy : ys.getD (j - 1) false = false := by
              cases hy : ys.getD (j - 1) false with
              | false => rfl
              | true => exact absurd (hx.trans hy.symm) hxy
            have hlt := bval_gt hag2 hx hy
            have hc : cmpI (bval xs) (bval ys) = 1 := by unfold cmpI; rw [if_neg (by omega), if_pos (by omega)]
            rw [hx] at hA1
            rw [hy] at hB1
            have HA1 := Lib.hid hA1; have HB1 := Lib.hid hB1; have HC := Lib.hid hc
            clear hx hy hxy hag2 hlt hc hA1 hB1
            go_wp2_with fail
            refine HA1.out.mono ?_
            rintro e w' ⟨rfl, rfl⟩
            go_wp2_with fail
            refine HB1.out.mono ?_
            rintro e w' ⟨rfl, rfl⟩
            go_wp2_with fail
            refine HA1.out.mono ?_
            rintro e w' ⟨rfl, rfl⟩
            go_wp2_with fail
            go_ret
            exact ⟨by rw [HC.out]; rfl, rfl⟩
          | false =>
            have hy : ys.getD (j - 1) false = true := by
              cases hy : ys.getD (j - 1) false with
              | true => rfl
              | false => exact absurd (hx.trans hy.symm) hxy
            have hlt := bval_gt (fun t ht => (hag2 t ht).symm) hy hx
            have hc : cmpI (bval xs) (bval ys) = -1 := by unfold cmpI; rw [if_pos (by omega)]
            rw [hx] at hA1
            rw [hy] at hB1
            have HA1 := Lib.hid hA1; have HB1 := Lib.hid hB1; have HC := Lib.hid hc
            clear hx hy hxy hag2 hlt hc hA1 hB1
            go_wp2_with fail
            refine HA1.out.mono ?_
            rintro e w' ⟨rfl, rfl⟩
            go_wp2_with fail
            refine HB1.out.mono ?_
            rintro e w' ⟨rfl, rfl⟩
            go_wp2_with fail
            refine HA1.out.mono ?_
            rintro e w' ⟨rfl, rfl⟩
            go_wp2_with fail
            go_ret
            exact ⟨by rw [HC.out]; rfl, rfl⟩
      · obtain rfl : j = 0 := by omega
        have he := bval_same (fun t => hz.out t (Nat.zero_le _))
        have hc : cmpI (bval xs) (bval ys) = 0 := by rw [he, cmpI_self]
        have HC := Lib.hid hc
        clear he hc
        go_wp2_with fail
        go_ret
        exact ⟨by rw [HC.out]; rfl, rfl⟩
end Go.Proofs.YtmojcnlddfijjaaGreatDoor
