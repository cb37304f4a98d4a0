/-
  Filled pixels. Plain facts.
-/
import Derived.Test.YtcgfoagfoncjiaaImgTurnMath
import Derived.Test.YtcgfoagfoncjiaaImgRCount
namespace Go.Proofs.Ytcgfoagfoncjiaa
open Go.RowKit Im

namespace Im
/-- What Fill makes of the pixels. -/
def flG (v u : Nat) (bs : List Int) (x y p q : Int) (on : Bool) : Nat → Nat → Bool := fun r c => if inP c x p && inP r y q then on else getP v u bs c r
/-- Pixels g up to row r, and in row r up to column c; behind it pixels f. -/
def mT (f g : Nat → Nat → Bool) (r c : Nat) : Nat → Nat → Bool := fun r' c' => if r' < r ∨ (r' = r ∧ c' < c) then g r' c' else f r' c'
theorem mT_zero (f g : Nat → Nat → Bool) : mT f g 0 0 = f := by
  funext r c
  unfold mT
  rw [if_neg (by omega)]
theorem mT_step (f g : Nat → Nat → Bool) (r c : Nat) : upd2 (mT f g r c) r c (g r c) = mT f g r (c + 1) := by
  funext r' c'
  unfold upd2 mT
  by_cases h : r' = r ∧ c' = c
  · obtain ⟨rfl, rfl⟩ := h
    rw [if_pos ⟨rfl, rfl⟩, if_pos (by omega)]
  · rw [if_neg h]
    by_cases h2 : r' < r ∨ (r' = r ∧ c' < c)
    · rw [if_pos h2, if_pos (by omega)]
    · rw [if_neg h2, if_neg (by omega)]
theorem mT_same (f g : Nat → Nat → Bool) (r c : Nat) (h : g r c = f r c) : mT f g r c = mT f g r (c + 1) := by
  rw [← mT_step, h]
  funext r' c'
  unfold upd2
  by_cases h : r' = r ∧ c' = c
  · obtain ⟨rfl, rfl⟩ := h
    rw [if_pos ⟨rfl, rfl⟩]
    unfold mT
    rw [if_neg (by omega)]
  · rw [if_neg h]
theorem bitL_far (bs : List Int) (k : Nat) (h : 8 * bs.length ≤ k) : bitL bs k = false := by
  unfold bitL
  rw [List.getD_eq_getElem?_getD, List.getElem?_eq_none (by omega)]
  simp
theorem bitL_rest {v u : Nat} {bs : List Int} (hO : OkI v u bs) (k : Nat) (h : v * u ≤ k) : bitL bs k = false := by
  by_cases h2 : k < 8 * bs.length
  · exact hO.rest k h h2
  · exact bitL_far bs k (by omega)
theorem mem_rect {v u : Nat} {x y p q : Int} {k : Nat} : k ∈ rectL v u x y p q ↔ k < v * u ∧ (inP (k % v) x p && inP (k / v) y q) = true := by
  unfold rectL
  rw [List.mem_filter, List.mem_range]
  unfold rectP
  constructor
  · rintro ⟨h1, h2⟩
    rw [decide_eq_true h1, Bool.true_and] at h2
    exact ⟨h1, h2⟩
  · rintro ⟨h1, h2⟩
    rw [decide_eq_true h1, Bool.true_and]
    exact ⟨h1, h2⟩
theorem fillB_rest {v u : Nat} {bs : List Int} (hO : OkI v u bs) (x y p q : Int) (on : Bool) (k : Nat) (h : v * u ≤ k) : fillB (bitL bs) (rectL v u x y p q) on k = false := by
  unfold fillB
  rw [if_neg (fun hm => by have := (mem_rect.1 hm).1; omega)]
  exact bitL_rest hO k h
theorem okFill {v u n : Nat} {bs : List Int} (x y p q : Int) (on : Bool) (hO : OkI v u bs) (hn : bs.length = n) : OkI v u (packP (fillB (bitL bs) (rectL v u x y p q) on) n) :=
  okPack hO hn (fillB_rest hO x y p q on)
/-- The reference's Fill fills the same bits. -/
theorem fill_same {v u n : Nat} {bs : List Int} (x y p q : Int) (on : Bool) (hO : OkI v u bs) : packP (bitsD (pxD v (flG v u bs x y p q on) (v * u))) n = packP (fillB (bitL bs) (rectL v u x y p q) on) n := by
  apply packP_congr
  intro k hk
  rw [pxD_bit]
  by_cases h : k < v * u
  · have hc := Nat.mod_lt k hO.w1
    have hr : k / v < u := (Nat.div_lt_iff_lt_mul hO.w1).2 (by rw [Nat.mul_comm]; exact h)
    have hrc : k / v * v + k % v = k := by rw [Nat.mul_comm]; exact Nat.div_add_mod k v
    rw [decide_eq_true h, Bool.true_and]
    unfold flG fillB
    have e : getP v u bs ((k % v : Nat) : Int) ((k / v : Nat) : Int) = bitL bs k := by
      obtain ⟨c, hcE⟩ : ∃ c, k % v = c := ⟨_, rfl⟩
      obtain ⟨r, hrE⟩ : ∃ r, k / v = r := ⟨_, rfl⟩
      rw [hcE] at hc hrc ⊢
      rw [hrE] at hr hrc ⊢
      unfold getP
      rw [Int.toNat_natCast, Int.toNat_natCast, hrc, decide_eq_true (show (0 : Int) ≤ (c : Int) by omega), decide_eq_true (show (c : Int) < (v : Int) by omega), decide_eq_true (show (0 : Int) ≤ (r : Int) by omega), decide_eq_true (show (r : Int) < (u : Int) by omega)]
      rfl
    rw [e]
    by_cases hin : (inP (k % v) x p && inP (k / v) y q) = true
    · rw [if_pos hin, if_pos (mem_rect.2 ⟨h, hin⟩)]
    · rw [if_neg hin, if_neg (fun hm => hin (mem_rect.1 hm).2)]
  · rw [decide_eq_false h, Bool.false_and]
    exact (fillB_rest hO x y p q on k (by omega)).symm
/-- Nothing is left of a rectangle that was blanked. -/
theorem fill_none {v u n : Nat} {bs : List Int} (x y p q : Int) (hO : OkI v u bs) (hn : bs.length = n) : cntB (bitL (packP (fillB (bitL bs) (rectL v u x y p q) false) n)) (rectL v u x y p q) = 0 := by
  have hl := hO.len
  unfold cntB
  rw [List.length_eq_zero_iff, List.filter_eq_nil_iff]
  intro k hk
  have h1 := (mem_rect.1 hk).1
  rw [bit_pack _ _ _ (by omega)]
  unfold fillB
  rw [if_pos hk]
  simp
end Im
end Go.Proofs.Ytcgfoagfoncjiaa
