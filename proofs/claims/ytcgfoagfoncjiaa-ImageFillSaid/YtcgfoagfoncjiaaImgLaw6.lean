/-
  The walk of ImageShift.
-/
import Derived.Test.YtcgfoagfoncjiaaImgView
import Derived.Test.YtcgfoagfoncjiaaImgShiftP
import Derived.Test.YtcgfoagfoncjiaaImgRShift
namespace Go.Proofs.Ytcgfoagfoncjiaa
open Go.RowKit Im

theorem shift_same {v u : Nat} {bs : List Int} {x y : Int} (hv : 1 ≤ v) (k : Nat) : shB (bitL bs) (y * v + x) (rectL v u x y v u) k = bitsD (pxD v (shG v u bs x y) (v * u)) k := by
  rw [pxD_bit]
  unfold shB shG getP
  by_cases hk : k < v * u
  · have hrc : k / v * v + k % v = k := by rw [Nat.mul_comm]; exact Nat.div_add_mod k v
    have hcv := Nat.mod_lt k hv
    obtain ⟨r, hr⟩ : ∃ r, k / v = r := ⟨_, rfl⟩
    obtain ⟨c, hc⟩ : ∃ c, k % v = c := ⟨_, rfl⟩
    have hm : k ∈ rectL v u x y v u ↔ (inP c x v && inP r y u) = true := by
      unfold rectL
      rw [List.mem_filter, List.mem_range]
      unfold rectP
      rw [hr, hc, decide_eq_true hk, Bool.true_and]
      exact ⟨fun h => h.2, fun h => ⟨hk, h⟩⟩
    rw [hr, hc] at hrc ⊢
    rw [decide_eq_true hk, Bool.true_and]
    have hin : (inP c x v && inP r y u) = (decide ((0 : Int) ≤ (c : Int) - x) && decide ((c : Int) - x < v) && decide ((0 : Int) ≤ (r : Int) - y) && decide ((r : Int) - y < u)) := by
      unfold inP
      rw [show decide (x ≤ (c : Int)) = decide ((0 : Int) ≤ (c : Int) - x) from by rw [Bool.eq_iff_iff, decide_eq_true_eq, decide_eq_true_eq]; omega,
        show decide ((c : Int) < x + v) = decide ((c : Int) - x < v) from by rw [Bool.eq_iff_iff, decide_eq_true_eq, decide_eq_true_eq]; omega,
        show decide (y ≤ (r : Int)) = decide ((0 : Int) ≤ (r : Int) - y) from by rw [Bool.eq_iff_iff, decide_eq_true_eq, decide_eq_true_eq]; omega,
        show decide ((r : Int) < y + u) = decide ((r : Int) - y < u) from by rw [Bool.eq_iff_iff, decide_eq_true_eq, decide_eq_true_eq]; omega]
      rw [Bool.and_assoc (decide _ && decide _)]
    by_cases hmem : k ∈ rectL v u x y v u
    · rw [if_pos hmem]
      have h1 := hm.1 hmem
      rw [hin] at h1
      rw [h1, Bool.true_and]
      simp only [Bool.and_eq_true, decide_eq_true_eq] at h1
      obtain ⟨⟨⟨g1, g2⟩, g3⟩, g4⟩ := h1
      obtain ⟨X, hX⟩ : ∃ X : Nat, (c : Int) - x = X := ⟨((c : Int) - x).toNat, by omega⟩
      obtain ⟨Y, hY⟩ : ∃ Y : Nat, (r : Int) - y = Y := ⟨((r : Int) - y).toNat, by omega⟩
      rw [hX, hY, Int.toNat_natCast, Int.toNat_natCast]
      congr 1
      have e1 : (k : Int) = (r : Int) * v + c := by rw [← hrc]; simp
      have e2 : (r : Int) * v = (Y : Int) * v + y * v := by rw [← Int.add_mul]; congr 1; omega
      have e3 : ((Y * v + X : Nat) : Int) = (Y : Int) * v + X := by simp
      have e4 : (k : Int) - (y * v + x) = ((Y * v + X : Nat) : Int) := by rw [e3, e1, e2]; omega
      rw [e4, Int.toNat_natCast]
    · rw [if_neg hmem]
      have h1 : (inP c x v && inP r y u) = false := by
        cases hb : (inP c x v && inP r y u) with
        | false => rfl
        | true => exact absurd (hm.2 hb) hmem
      rw [hin] at h1
      rw [h1, Bool.false_and]
  · rw [decide_eq_false hk, Bool.false_and, if_neg]
    intro h
    unfold rectL at h
    rw [List.mem_filter, List.mem_range] at h
    exact hk h.1
end Go.Proofs.Ytcgfoagfoncjiaa
