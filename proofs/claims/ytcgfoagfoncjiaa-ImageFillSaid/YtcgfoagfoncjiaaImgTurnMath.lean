/-
  Turned and shifted pixels. Plain facts.
-/
import Derived.Test.YtcgfoagfoncjiaaImgLaw6
import Derived.Test.YtcgfoagfoncjiaaImgRTurn
namespace Go.Proofs.Ytcgfoagfoncjiaa
open Go.RowKit Im

namespace Im
/-- The bits of the turned image. -/
def tB (v u : Nat) (bs : List Int) : Nat → Bool := fun k => decide (k < v * u) && bitL bs (v * u - 1 - k)
theorem okPack {v u n : Nat} {bs : List Int} {f : Nat → Bool} (hO : OkI v u bs) (hn : bs.length = n) (hf : ∀ k, v * u ≤ k → f k = false) : OkI v u (packP f n) := by
  have h1 := hO.len
  refine ⟨hO.w1, hO.w2, hO.h1, hO.h2, by rw [packP_len]; omega, fun k h3 h4 => ?_⟩
  rw [packP_len] at h4
  rw [bit_pack _ _ _ h4]
  exact hf k h3
theorem okTurn {v u n : Nat} {bs : List Int} (hO : OkI v u bs) (hn : bs.length = n) : OkI v u (packP (tB v u bs) n) :=
  okPack hO hn (fun k hk => by unfold tB; rw [decide_eq_false (by omega)]; rfl)
theorem okShift {v u n : Nat} {bs : List Int} (x y : Int) (hO : OkI v u bs) (hn : bs.length = n) : OkI v u (packP (shB (bitL bs) (y * v + x) (rectL v u x y v u)) n) :=
  okPack hO hn (fun k hk => by rw [shift_same hO.w1, pxD_bit, decide_eq_false (by omega)]; rfl)
theorem turn_spot {v u X Y : Nat} (hX : X < v) (hY : Y < u) : v * u - 1 - (Y * v + X) = (u - 1 - Y) * v + (v - 1 - X) := by
  obtain ⟨d, rfl⟩ : ∃ d, u = Y + 1 + d := ⟨u - Y - 1, by omega⟩
  have e1 : v * (Y + 1 + d) = Y * v + v + d * v := by rw [Nat.mul_comm, Nat.add_mul, Nat.add_mul, Nat.one_mul]
  rw [e1, show Y + 1 + d - 1 - Y = d by omega]
  omega
theorem getP_turn {v u n : Nat} {bs : List Int} (hO : OkI v u bs) (hn : bs.length = n) (X Y : Int) : getP v u (packP (tB v u bs) n) X Y = getP v u bs ((v : Int) - 1 - X) ((u : Int) - 1 - Y) := by
  have hl := hO.len
  unfold getP
  by_cases h : 0 ≤ X ∧ X < v ∧ 0 ≤ Y ∧ Y < u
  · obtain ⟨h1, h2, h3, h4⟩ := h
    obtain ⟨x, rfl⟩ : ∃ x : Nat, X = x := ⟨X.toNat, by omega⟩
    obtain ⟨y, rfl⟩ : ∃ y : Nat, Y = y := ⟨Y.toNat, by omega⟩
    have hx : x < v := by omega
    have hy : y < u := by omega
    have hsp := spot_lt hx hy
    rw [decide_eq_true h1, decide_eq_true h2, decide_eq_true h3, decide_eq_true h4, decide_eq_true (show (0 : Int) ≤ (v : Int) - 1 - (x : Int) by omega), decide_eq_true (show (v : Int) - 1 - (x : Int) < v by omega), decide_eq_true (show (0 : Int) ≤ (u : Int) - 1 - (y : Int) by omega), decide_eq_true (show (u : Int) - 1 - (y : Int) < u by omega)]
    rw [Int.toNat_natCast, Int.toNat_natCast, bit_pack _ _ _ (by omega), show ((v : Int) - 1 - (x : Int)).toNat = v - 1 - x by omega, show ((u : Int) - 1 - (y : Int)).toNat = u - 1 - y by omega]
    unfold tB
    rw [decide_eq_true hsp, turn_spot hx hy]
    simp only [Bool.true_and]
  · have e1 : (decide (0 ≤ X) && decide (X < v) && decide (0 ≤ Y) && decide (Y < u)) = false := by
      cases hb : (decide (0 ≤ X) && decide (X < v) && decide (0 ≤ Y) && decide (Y < u)) with
      | false => rfl
      | true =>
        simp only [Bool.and_eq_true, decide_eq_true_eq] at hb
        exact absurd ⟨hb.1.1.1, hb.1.1.2, hb.1.2, hb.2⟩ h
    have e2 : (decide ((0 : Int) ≤ (v : Int) - 1 - X) && decide ((v : Int) - 1 - X < v) && decide ((0 : Int) ≤ (u : Int) - 1 - Y) && decide ((u : Int) - 1 - Y < u)) = false := by
      cases hb : (decide ((0 : Int) ≤ (v : Int) - 1 - X) && decide ((v : Int) - 1 - X < v) && decide ((0 : Int) ≤ (u : Int) - 1 - Y) && decide ((u : Int) - 1 - Y < u)) with
      | false => rfl
      | true =>
        simp only [Bool.and_eq_true, decide_eq_true_eq] at hb
        exact absurd ⟨by omega, by omega, by omega, by omega⟩ h
    rw [e1, e2, Bool.false_and, Bool.false_and]
/-- The reference's Turn fills the same bits. -/
theorem turn_same {v u n : Nat} {bs : List Int} (hO : OkI v u bs) (hn : bs.length = n) : packP (bitsD (pxD v (tnG v u bs) (v * u))) n = packP (tB v u bs) n := by
  apply packP_congr
  intro k hk
  rw [pxD_bit]
  by_cases h : k < v * u
  · have hc := Nat.mod_lt k hO.w1
    have hr : k / v < u := (Nat.div_lt_iff_lt_mul hO.w1).2 (by rw [Nat.mul_comm]; exact h)
    have hrc : k / v * v + k % v = k := by rw [Nat.mul_comm]; exact Nat.div_add_mod k v
    have h2 : tnG v u bs (k / v) (k % v) = getP v u (packP (tB v u bs) n) ((k % v : Nat) : Int) ((k / v : Nat) : Int) := (getP_turn hO hn ((k % v : Nat) : Int) ((k / v : Nat) : Int)).symm
    rw [h2, decide_eq_true h, Bool.true_and]
    obtain ⟨c, hcE⟩ : ∃ c, k % v = c := ⟨_, rfl⟩
    obtain ⟨r, hrE⟩ : ∃ r, k / v = r := ⟨_, rfl⟩
    rw [hcE] at hc hrc ⊢
    rw [hrE] at hr hrc ⊢
    clear h2 hcE hrE
    unfold getP
    rw [Int.toNat_natCast, Int.toNat_natCast, hrc, bit_pack _ _ _ hk, decide_eq_true (show (0 : Int) ≤ (c : Int) by omega), decide_eq_true (show (c : Int) < (v : Int) by omega), decide_eq_true (show (0 : Int) ≤ (r : Int) by omega), decide_eq_true (show (r : Int) < (u : Int) by omega)]
    rfl
  · unfold tB
    rw [decide_eq_false h, Bool.false_and, Bool.false_and]
/-- Turned twice. -/
theorem turn_twice {v u n : Nat} {bs : List Int} (hO : OkI v u bs) (hn : bs.length = n) (hb : ∀ x ∈ bs, 0 ≤ x ∧ x ≤ 255) : packP (tB v u (packP (tB v u bs) n)) n = bs := by
  have h0 := pack_bits bs hb
  rw [hn] at h0
  have hl := hO.len
  have e : packP (tB v u (packP (tB v u bs) n)) n = packP (bitL bs) n := by
    apply packP_congr
    intro k hk
    unfold tB
    by_cases h : k < v * u
    · rw [decide_eq_true h, Bool.true_and, bit_pack _ _ _ (by omega), decide_eq_true (show v * u - 1 - k < v * u by omega), Bool.true_and, show v * u - 1 - (v * u - 1 - k) = k by omega]
    · rw [decide_eq_false h, Bool.false_and, hO.rest k (by omega) (by omega)]
  rw [e, h0]
/-- A shifted image turned is the turned image shifted back. -/
theorem turn_shift {v u n : Nat} {bs : List Int} (x y : Int) (hO : OkI v u bs) (hn : bs.length = n) :
    packP (tB v u (packP (shB (bitL bs) (y * v + x) (rectL v u x y v u)) n)) n = packP (shB (bitL (packP (tB v u bs) n)) (-y * v + -x) (rectL v u (-x) (-y) v u)) n := by
  have hl := hO.len
  apply packP_congr
  intro k hk
  rw [shift_same hO.w1, pxD_bit]
  unfold tB
  by_cases h : k < v * u
  · rw [decide_eq_true h, Bool.true_and, Bool.true_and, bit_pack _ _ _ (by omega), shift_same hO.w1, pxD_bit, decide_eq_true (show v * u - 1 - k < v * u by omega), Bool.true_and]
    have hc := Nat.mod_lt k hO.w1
    have hr : k / v < u := (Nat.div_lt_iff_lt_mul hO.w1).2 (by rw [Nat.mul_comm]; exact h)
    have hrc : k / v * v + k % v = k := by rw [Nat.mul_comm]; exact Nat.div_add_mod k v
    have hts := turn_spot hc hr
    rw [hrc] at hts
    have hc2 : v - 1 - k % v < v := by have := hO.w1; omega
    have e1 : (v * u - 1 - k) / v = u - 1 - k / v := by rw [hts]; exact spot_div hc2
    have e2 : (v * u - 1 - k) % v = v - 1 - k % v := by rw [hts]; exact spot_mod hc2
    rw [e1, e2]
    have e3 : shG v u (packP (tB v u bs) n) (-x) (-y) (k / v) (k % v) = getP v u bs ((v : Int) - 1 - (((k % v : Nat) : Int) - -x)) ((u : Int) - 1 - (((k / v : Nat) : Int) - -y)) := getP_turn hO hn _ _
    have e4 : shG v u (packP (fun k => decide (k < v * u) && bitL bs (v * u - 1 - k)) n) (-x) (-y) (k / v) (k % v) = shG v u (packP (tB v u bs) n) (-x) (-y) (k / v) (k % v) := rfl
    first
      | rw [e4, e3]
      | rw [e3]
    unfold shG
    congr 1 <;> omega
  · rw [decide_eq_false h, Bool.false_and, Bool.false_and]
end Im
end Go.Proofs.Ytcgfoagfoncjiaa
