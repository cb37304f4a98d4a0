/-
  Decimal digits in chunks of nine. No program, no world.
-/
import Derived.Lib.ItoaNum
import Derived.Lib.UnsafeStr
namespace Go.Proofs.YtmojcnlddfijjaaGreatDoor.NatMath
open Go.Lib

/-- The unit of round k of a chunk. -/
def unit (k : Nat) : Nat := 100000000 / 10 ^ k
theorem unit_zero : unit 0 = 100000000 := by decide
theorem unit_succ (k : Nat) : unit k / 10 = unit (k + 1) := by unfold unit; rw [Nat.div_div_eq_div_mul, Nat.pow_succ]
theorem unit_pos {k : Nat} (h : k ≤ 8) : 0 < unit k := by
  unfold unit
  have h1 : 10 ^ k ≤ 10 ^ 8 := Nat.pow_le_pow_right (by omega) h
  exact Nat.div_pos (by omega) (Nat.pow_pos (by omega))
theorem unit_nine : unit 9 = 0 := by decide
theorem unit_le (k : Nat) : unit k ≤ 100000000 := Nat.div_le_self _ _

/-- Digit t of the nine. -/
def digit (x t : Nat) : Nat := 48 + x / unit t % 10
theorem digit_lt (x t : Nat) : 48 ≤ digit x t ∧ digit x t ≤ 57 := by unfold digit; omega

/-- The first k of the nine digits of a chunk. -/
def padTo (x k : Nat) : List UInt8 := (List.range k).map fun t => UInt8.ofNat (digit x t)
theorem padTo_zero (x : Nat) : padTo x 0 = [] := rfl
theorem padTo_succ (x k : Nat) : padTo x (k + 1) = padTo x k ++ [UInt8.ofNat (digit x k)] := by simp [padTo, List.range_succ]
theorem padTo_length (x k : Nat) : (padTo x k).length = k := by simp [padTo]

theorem decDigits_ge {u : Nat} (h : 10 ≤ u) : decDigits u = decDigits (u / 10) ++ [UInt8.ofNat (48 + u % 10)] := by rw [decDigits, dif_neg (by omega)]

/-- A number of more than nine digits is its upper partN, followed by nine digits. -/
theorem decDigits_chunk {m : Nat} (h : 1000000000 ≤ m) : decDigits m = decDigits (m / 1000000000) ++ padTo (m % 1000000000) 9 := by
  rw [decDigits_ge (by omega), decDigits_ge (u := m / 10) (by omega), decDigits_ge (u := m / 10 / 10) (by omega), decDigits_ge (u := m / 10 / 10 / 10) (by omega), decDigits_ge (u := m / 10 / 10 / 10 / 10) (by omega),
    decDigits_ge (u := m / 10 / 10 / 10 / 10 / 10) (by omega), decDigits_ge (u := m / 10 / 10 / 10 / 10 / 10 / 10) (by omega), decDigits_ge (u := m / 10 / 10 / 10 / 10 / 10 / 10 / 10) (by omega), decDigits_ge (u := m / 10 / 10 / 10 / 10 / 10 / 10 / 10 / 10) (by omega)]
  have u0 : unit 0 = 100000000 := by decide
  have u1 : unit 1 = 10000000 := by decide
  have u2 : unit 2 = 1000000 := by decide
  have u3 : unit 3 = 100000 := by decide
  have u4 : unit 4 = 10000 := by decide
  have u5 : unit 5 = 1000 := by decide
  have u6 : unit 6 = 100 := by decide
  have u7 : unit 7 = 10 := by decide
  have u8 : unit 8 = 1 := by decide
  simp only [padTo, List.range, List.range.loop, List.map_cons, List.map_nil, digit, u0, u1, u2, u3, u4, u5, u6, u7, u8, List.append_assoc, List.cons_append, List.nil_append]
  have e : m / 10 / 10 / 10 / 10 / 10 / 10 / 10 / 10 / 10 = m / 1000000000 := by omega
  rw [e]
  congr 1
  have a0 : m / 10 / 10 / 10 / 10 / 10 / 10 / 10 / 10 % 10 = m % 1000000000 / 100000000 % 10 := by omega
  have a1 : m / 10 / 10 / 10 / 10 / 10 / 10 / 10 % 10 = m % 1000000000 / 10000000 % 10 := by omega
  have a2 : m / 10 / 10 / 10 / 10 / 10 / 10 % 10 = m % 1000000000 / 1000000 % 10 := by omega
  have a3 : m / 10 / 10 / 10 / 10 / 10 % 10 = m % 1000000000 / 100000 % 10 := by omega
  have a4 : m / 10 / 10 / 10 / 10 % 10 = m % 1000000000 / 10000 % 10 := by omega
  have a5 : m / 10 / 10 / 10 % 10 = m % 1000000000 / 1000 % 10 := by omega
  have a6 : m / 10 / 10 % 10 = m % 1000000000 / 100 % 10 := by omega
  have a7 : m / 10 % 10 = m % 1000000000 / 10 % 10 := by omega
  have a8 : m % 10 = m % 1000000000 / 1 % 10 := by omega
  rw [a0, a1, a2, a3, a4, a5, a6, a7, a8]

/-- How often 10^9 goes into a number of n limbs. -/
theorem chunks_le {m n k : Nat} (hm : m < 4294967296 ^ n) (hk : 1000000000 ^ k ≤ m) : k ≤ 2 * n := by
  rcases Nat.lt_or_ge (2 * n) k with h | h
  · have h1 : 536870912 ^ k ≤ 1000000000 ^ k := Nat.pow_le_pow_left (by omega) k
    have h2 : (536870912 : Nat) = 2 ^ 29 := by decide
    have h3 : (4294967296 : Nat) = 2 ^ 32 := by decide
    rw [h2, ← Nat.pow_mul] at h1
    rw [h3, ← Nat.pow_mul] at hm
    have h4 : 2 ^ (29 * k) < 2 ^ (32 * n) := by omega
    have h5 := (Nat.pow_lt_pow_iff_right (show 1 < 2 by omega)).1 h4
    omega
  · exact h

/-- A number without its first k chunks of nine digits. -/
def partN (N k : Nat) : Nat := N / 1000000000 ^ k
theorem partN_zero (N : Nat) : partN N 0 = N := by simp [partN]
theorem partN_div (N k : Nat) : partN N k / 1000000000 = partN N (k + 1) := by unfold partN; rw [Nat.div_div_eq_div_mul, Nat.pow_succ]
def chunkN (N k : Nat) : Nat := partN N k % 1000000000
theorem chunkN_lt (N k : Nat) : chunkN N k ≤ 999999999 := by unfold chunkN; omega

/-- The first k chunks of a number, the least significant first. -/
def chL (N k : Nat) : List Int := (List.range k).map fun t => (chunkN N t : Int)
theorem chL_succ (N k : Nat) : chL N (k + 1) = chL N k ++ [(chunkN N k : Int)] := by simp [chL, List.range_succ]
theorem chL_length (N k : Nat) : (chL N k).length = k := by simp [chL]
theorem chL_getD (N k t : Nat) (h : t < k) : (chL N k).getD t 0 = (chunkN N t : Int) := by simp [chL, List.getD, h]
theorem chL_bound (N k : Nat) : ∀ x ∈ chL N k, 0 ≤ x ∧ x ≤ 999999999 := by
  intro x hx
  simp only [chL, List.mem_map, List.mem_range] at hx
  obtain ⟨t, _, rfl⟩ := hx
  have := chunkN_lt N t
  omega

/-- The digits down to chunk j, from those down to chunk j + 1. -/
theorem decDigits_step {N j : Nat} (h : partN N (j + 1) ≠ 0) : decDigits (partN N j) = decDigits (partN N (j + 1)) ++ padTo (chunkN N j) 9 := by
  rw [← partN_div] at h ⊢
  unfold chunkN
  exact decDigits_chunk (by omega)
/-- How many chunks there can be. -/
theorem partN_chunks {N n k : Nat} (hN : N < 4294967296 ^ n) (h : partN N k ≠ 0) : k ≤ 2 * n := by
  refine chunks_le hN ?_
  rcases Nat.lt_or_ge N (1000000000 ^ k) with hlt | hge
  · exact absurd (Nat.div_eq_of_lt hlt) h
  · exact hge
theorem partN_succ_lt {N k : Nat} (h : partN N k < 1000000000) : partN N (k + 1) = 0 := by rw [← partN_div]; omega
theorem partN_mono {N j k : Nat} (h : partN N j = 0) (hk : j ≤ k) : partN N k = 0 := by
  induction hk with
  | refl => exact h
  | step _ ih => rw [← partN_div, ih]
theorem nDigits_le {n : Nat} : ∀ {m : Nat}, m < 10 ^ (n + 1) → nDigits m ≤ n + 1 := by
  induction n with
  | zero => intro m h; rw [nDigits_small (by simpa using h)]; omega
  | succ n ih =>
    intro m h
    by_cases h10 : m < 10
    · rw [nDigits_small h10]; omega
    · rw [nDigits_big h10]
      have := ih (m := m / 10) (by rw [Nat.pow_succ] at h; omega)
      omega
theorem digits_le {m n : Nat} (h : m < 4294967296 ^ n) : (decDigits m).length ≤ 10 * n + 1 := by
  rw [decDigits_length]
  refine nDigits_le ?_
  have h1 : 4294967296 ^ n ≤ 10000000000 ^ n := Nat.pow_le_pow_left (by omega) n
  have h2 : (10000000000 : Nat) = 10 ^ 10 := by decide
  rw [h2, ← Nat.pow_mul] at h1
  have h3 : 10 ^ (10 * n) ≤ 10 ^ (10 * n + 1) := Nat.pow_le_pow_right (by omega) (by omega)
  omega
theorem partN_le (N k : Nat) : partN N k ≤ N := Nat.div_le_self _ _
end Go.Proofs.YtmojcnlddfijjaaGreatDoor.NatMath
