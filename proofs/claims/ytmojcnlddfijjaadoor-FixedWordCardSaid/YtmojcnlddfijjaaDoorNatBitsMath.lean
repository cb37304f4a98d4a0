/-
  Numbers in binary, the least significant bit first. No program, no world.
-/
import Derived.Test.YtmojcnlddfijjaaDoorNatMath
namespace Go.Proofs.YtmojcnlddfijjaaDoor.NatMath

def b2n (b : Bool) : Nat := if b then 1 else 0
theorem b2n_le (b : Bool) : b2n b ≤ 1 := by cases b <;> decide

/-- What a list of bits denotes. -/
def bval : List Bool → Nat
  | [] => 0
  | b :: bs => b2n b + 2 * bval bs

/-- The bits of a number in normal form. -/
def bitsN (n : Nat) : List Bool := if h : n = 0 then [] else decide (n % 2 = 1) :: bitsN (n / 2)
termination_by n
decreasing_by omega

theorem bitsN_zero : bitsN 0 = [] := by rw [bitsN]; simp
theorem bitsN_pos {n : Nat} (h : n ≠ 0) : bitsN n = decide (n % 2 = 1) :: bitsN (n / 2) := by rw [bitsN]; simp [h]

theorem bval_bitsN (n : Nat) : bval (bitsN n) = n := by
  induction n using Nat.strongRecOn with
  | ind n ih =>
    by_cases h : n = 0
    · subst h; rw [bitsN_zero]; rfl
    · rw [bitsN_pos h, bval, ih _ (by omega), b2n]
      by_cases h1 : n % 2 = 1
      · rw [if_pos (by simpa using h1)]; omega
      · rw [if_neg (by simpa using h1)]; omega

theorem bval_append (xs ys : List Bool) : bval (xs ++ ys) = bval xs + 2 ^ xs.length * bval ys := by
  induction xs with
  | nil => simp [bval]
  | cons x xs ih => rw [List.cons_append, bval, bval, ih, List.length_cons, Nat.pow_succ, Nat.mul_add, ← Nat.mul_assoc, Nat.mul_comm 2 (2 ^ xs.length), Nat.add_assoc]

theorem bval_lt (xs : List Bool) : bval xs < 2 ^ xs.length := by
  induction xs with
  | nil => simp [bval]
  | cons x xs ih =>
    have := b2n_le x
    rw [bval, List.length_cons, Nat.pow_succ]
    omega

theorem bval_falses (n : Nat) : bval (List.replicate n false) = 0 := by
  induction n with
  | zero => rfl
  | succ n ih => rw [List.replicate_succ, bval, ih]; rfl

theorem bitsN_length (n k : Nat) (h : n < 2 ^ k) : (bitsN n).length ≤ k := by
  induction k generalizing n with
  | zero =>
    have : n = 0 := by simpa using h
    subst this; rw [bitsN_zero]; simp
  | succ k ih =>
    by_cases h0 : n = 0
    · subst h0; rw [bitsN_zero]; simp
    · rw [bitsN_pos h0, List.length_cons]
      have := ih (n / 2) (by rw [Nat.pow_succ] at h; omega)
      omega
theorem bitsN_len_ge {m k : Nat} (h : 2 ^ k ≤ m) : k < (bitsN m).length := by
  have h1 := bval_lt (bitsN m)
  rw [bval_bitsN] at h1
  have h2 : 2 ^ k < 2 ^ (bitsN m).length := by omega
  exact (Nat.pow_lt_pow_iff_right (by omega)).1 h2
theorem bitsN_take (xs : List Bool) : bitsN (bval xs) = xs.take (bitsN (bval xs)).length := by
  induction xs with
  | nil => rw [bval, bitsN_zero]; rfl
  | cons x xs ih =>
    by_cases h0 : bval (x :: xs) = 0
    · rw [h0, bitsN_zero]; rfl
    · rw [bitsN_pos h0]
      rw [bval] at h0 ⊢
      have hb := b2n_le x
      have e2 : (b2n x + 2 * bval xs) / 2 = bval xs := by omega
      have e1 : (b2n x + 2 * bval xs) % 2 = b2n x := by omega
      rw [e2, e1, List.length_cons, List.take_succ_cons, ← ih]
      congr 1
      cases x <;> decide
theorem bitsN_val_length (xs : List Bool) : (bitsN (bval xs)).length ≤ xs.length := bitsN_length _ _ (bval_lt xs)
theorem bitsN_of_length {ys : List Bool} (hl : ys.length ≤ (bitsN (bval ys)).length) : bitsN (bval ys) = ys := by
  rw [bitsN_take ys, List.take_of_length_le hl]
theorem bitsN_lt_of_length {m n : Nat} (h : (bitsN m).length < (bitsN n).length) : m < n := by
  have h1 := bval_lt (bitsN m)
  rw [bval_bitsN] at h1
  by_cases hn : n < 2 ^ (bitsN m).length
  · have := bitsN_length n _ hn
    omega
  · omega

/-- The cut at the last bit that is set. -/
theorem bitsN_eq_take {xs : List Bool} (n : Nat) (hn : n ≤ xs.length) (hz : ∀ i, n ≤ i → xs.getD i false = false) (hl : n = 0 ∨ xs.getD (n - 1) false = true) : bitsN (bval xs) = xs.take n := by
  have e : xs = xs.take n ++ List.replicate (xs.length - n) false := by
    apply List.ext_getElem
    · simp; omega
    · intro i h1 h2
      by_cases hi : i < n
      · rw [List.getElem_append_left (by simp; omega)]; simp
      · rw [List.getElem_append_right (by simp; omega)]
        have := hz i (by omega)
        rw [List.getD, List.getElem?_eq_getElem h1] at this
        simpa using this
  have e2 : bval xs = bval (xs.take n) := by
    rw [e, bval_append, bval_falses]
    simp [Nat.min_eq_left hn]
  rw [e2]
  refine bitsN_of_length ?_
  rcases hl with h0 | h0
  · subst h0; simp
  · have hn0 : n ≠ 0 := by
      intro h
      subst h
      have := hz 0 (Nat.le_refl _)
      simp at h0
      rw [List.getD] at this
      simp [h0] at this
    have hlen : (xs.take n).length = n := by simp; omega
    rw [hlen]
    have hlast : xs.take n = xs.take (n - 1) ++ [true] := by
      have h1 : n - 1 < xs.length := by omega
      have := List.take_succ_eq_append_getElem h1
      rw [show n - 1 + 1 = n by omega] at this
      rw [this]
      congr 2
      rw [List.getD, List.getElem?_eq_getElem h1] at h0
      simpa using h0
    have : 2 ^ (n - 1) ≤ bval (xs.take n) := by
      rw [hlast, bval_append]
      simp [bval, b2n, Nat.min_eq_left (show n - 1 ≤ xs.length by omega)]
    have := bitsN_len_ge this
    omega

theorem bval_take_succ (M : List Bool) (i : Nat) : bval (M.take (i + 1)) = bval (M.take i) + b2n (M.getD i false) * 2 ^ i := by
  by_cases hi : i < M.length
  · rw [List.take_succ_eq_append_getElem hi, bval_append, List.length_take, Nat.min_eq_left (by omega), show M.getD i false = M[i] by simp [List.getD, hi], Nat.mul_comm (b2n M[i])]
    simp [bval]
  · rw [List.take_of_length_le (by omega), List.take_of_length_le (by omega), List.getD, List.getElem?_eq_none (by omega)]
    simp [b2n]

/-- The first k bits of a number. -/
def bitsTo (v k : Nat) : List Bool := (List.range k).map fun t => v.testBit t
theorem bitsTo_zero (v : Nat) : bitsTo v 0 = [] := rfl
theorem bitsTo_succ (v k : Nat) : bitsTo v (k + 1) = bitsTo v k ++ [v.testBit k] := by simp [bitsTo, List.range_succ]
theorem bitsTo_length (v k : Nat) : (bitsTo v k).length = k := by simp [bitsTo]
theorem bval_bitsTo (v k : Nat) : bval (bitsTo v k) = v % 2 ^ k := by
  induction k with
  | zero => simp [bitsTo_zero, bval, Nat.mod_one]
  | succ k ih =>
    rw [bitsTo_succ, bval_append, ih, bitsTo_length]
    simp only [bval, Nat.mul_zero, Nat.add_zero]
    rw [Nat.pow_succ, Nat.mod_mul, Nat.testBit_eq_decide_div_mod_eq]
    congr 2
    have := Nat.mod_lt (v / 2 ^ k) (show 2 > 0 by omega)
    unfold b2n
    by_cases h : v / 2 ^ k % 2 = 1
    · simp [h]
    · have h0 : v / 2 ^ k % 2 = 0 := by omega
      simp [h0]

theorem getD_val {D : List Int} (h : Ok D) : ∀ t, ((D.getD t 0).toNat) = val D / 4294967296 ^ t % 4294967296 := by
  induction D with
  | nil => intro t; simp [val]
  | cons x D ih =>
    intro t
    have hx := h.head
    cases t with
    | zero => rw [val]; simp; omega
    | succ t =>
      rw [List.getD_cons_succ, ih h.tail, val, Nat.pow_succ, Nat.mul_comm (4294967296 ^ t), ← Nat.div_div_eq_div_mul]
      congr 2
      omega

/-- Bit k of limb i. -/
theorem limb_bit {D : List Int} (h : Ok D) (i k : Nat) (hk : k < 32) : (D.getD i 0).toNat / 2 ^ k % 2 = val D / 2 ^ (32 * i + k) % 2 := by
  rw [getD_val h, Nat.pow_add, Nat.pow_mul, show (2 ^ 32 : Nat) = 4294967296 by decide, ← Nat.div_div_eq_div_mul]
  generalize val D / 4294967296 ^ i = m
  have e : m % 4294967296 / 2 ^ k % 2 = m / 2 ^ k % 2 := by
    have h1 : (4294967296 : Nat) = 2 ^ k * 2 ^ (32 - k) := by rw [← Nat.pow_add, show k + (32 - k) = 32 by omega]
    rw [h1, Nat.mod_mul_right_div_self]
    have h2 : 2 ∣ 2 ^ (32 - k) := ⟨2 ^ (32 - k - 1), by rw [← Nat.pow_succ', show (32 - k - 1).succ = 32 - k by omega]⟩
    exact Nat.mod_mod_of_dvd _ h2
  exact e
end Go.Proofs.YtmojcnlddfijjaaDoor.NatMath
