/-
  Public randomness in plain words: the word of a seed and a number, the choice below n, the permutation. No world.
-/
import Derived.Test.YtgomconcfjllcaaDoorDigOf
namespace Go.Proofs.YtgomconcfjllcaaDoor
open Go.RowKit Dig

namespace Rnd
/-- The number whose bytes are the first i of l, the most significant first. -/
def fromN (l : List Int) : Nat → Nat
  | 0 => 0
  | i + 1 => fromN l i * 256 + (l.getD i 0).toNat
theorem fromN_lt (l : List Int) (h : ∀ i, (l.getD i 0).toNat ≤ 255) : ∀ i, fromN l i < 256 ^ i
  | 0 => by simp [fromN]
  | i + 1 => by
    have h1 := fromN_lt l h i
    have h2 := h i
    have h3 : fromN l i * 256 + 256 ≤ 256 ^ i * 256 := by omega
    rw [fromN, Nat.pow_succ]
    omega
theorem fromN_take (l : List Int) (n : Nat) : ∀ i, i ≤ n → fromN (l.take n) i = fromN l i
  | 0, _ => rfl
  | i + 1, h => by
    rw [fromN, fromN, fromN_take l n i (by omega)]
    have : (l.take n).getD i 0 = l.getD i 0 := by simp [List.getD, show i < n by omega]
    rw [this]
theorem or_step (n x : Nat) (h : n < 72057594037927936) (hx : x ≤ 255) : bits .or .u64 ((n : Int) * 256) (x : Int) = ((n * 256 + x : Nat) : Int) := by
  have e : (n : Int) * 256 = ((n * 256 : Nat) : Int) := by omega
  rw [e, u64_or_nat _ _ (by omega) (by omega), nat_join 8 _ _ (by omega) (by omega)]

/-- A string's bytes. -/
def bytesI (s : ByteArray) : List Int := s.data.toList.map fun b => (b.toNat : Int)
theorem bytesI_len (s : ByteArray) : (bytesI s).length = s.size := by simp [bytesI]
theorem bytesI_ok (s : ByteArray) : ∀ x ∈ bytesI s, 0 ≤ x ∧ x ≤ 255 := by
  intro x hx
  obtain ⟨b, _, rfl⟩ := List.mem_map.1 hx
  have := b.toNat_lt
  omega
/-- Word number k. -/
def wordN (S : ByteArray) (k : Nat) : Nat := fromN (sumL (joinL [bytesI S, beN k 8])) 8
theorem isD_byte {d : List Int} (h : IsD d) (i : Nat) : (d.getD i 0).toNat ≤ 255 := by
  by_cases hi : i < 32
  · obtain ⟨b, hb, hb'⟩ := h.at i hi
    rw [hb.out]; omega
  · rw [List.getD_eq_getElem?_getD, List.getElem?_eq_none (by have := h.len; omega)]
    simp
theorem wordN_lt (S : ByteArray) (k : Nat) : wordN S k < 18446744073709551616 := fromN_lt _ (isD_byte (sumL_isD _)) 8
/-- The count behind one more word. -/
def nx (k : Nat) : Nat := (k + 1) % 18446744073709551616
theorem nx_lt (k : Nat) : nx k < 18446744073709551616 := Nat.mod_lt _ (by omega)
/-- 2^64 mod n. -/
def restN (n : Nat) : Nat := 18446744073709551616 % n
/-- A number below n out of at most r + 1 words, the first of which is word k: the number, and the count behind. -/
def belN (S : ByteArray) (n : Nat) : Nat → Nat → Nat × Nat
  | 0, k => (wordN S k % n, nx k)
  | r + 1, k => if wordN S k ≤ 18446744073709551615 - restN n then (wordN S k % n, nx k) else belN S n r (nx k)
theorem belN_take (S : ByteArray) (n r k : Nat) (h : r = 0 ∨ wordN S k ≤ 18446744073709551615 - restN n) : belN S n r k = (wordN S k % n, nx k) := by
  cases r with
  | zero => rfl
  | succ r =>
    rcases h with h | h
    · omega
    · rw [belN, if_pos h]
theorem belN_pass (S : ByteArray) (n r k : Nat) (h : ¬ wordN S k ≤ 18446744073709551615 - restN n) : belN S n (r + 1) k = belN S n r (nx k) := by
  rw [belN, if_neg h]
theorem belN_lt (S : ByteArray) (n : Nat) (hn : 0 < n) : ∀ r k, (belN S n r k).1 < n
  | 0, k => Nat.mod_lt _ hn
  | r + 1, k => by
    rw [belN]
    split
    · exact Nat.mod_lt _ hn
    · exact belN_lt S n hn r _
theorem belN_nx (S : ByteArray) (n : Nat) : ∀ r k, (belN S n r k).2 < 18446744073709551616
  | 0, k => nx_lt k
  | r + 1, k => by
    rw [belN]
    split
    · exact nx_lt k
    · exact belN_nx S n r _
theorem neg_rem (n : Nat) (h1 : 1 ≤ n) (h2 : n ≤ 2147483648) : (IntKind.u64.wrap (-(n : Int))).tmod (n : Int) = ((restN n : Nat) : Int) := by
  have e : IntKind.u64.wrap (-(n : Int)) = ((18446744073709551616 - n : Nat) : Int) := by
    rw [IntKind.wrap_u64]; omega
  rw [e]
  show ((18446744073709551616 - n : Nat) : Int).tmod (n : Int) = ((18446744073709551616 % n : Nat) : Int)
  have : (18446744073709551616 - n) % n = 18446744073709551616 % n := by
    conv => rhs; rw [show 18446744073709551616 = (18446744073709551616 - n) + n by omega]
    rw [Nat.add_mod_right]
  rw [← this, Int.ofNat_tmod]
theorem rest_ref (n : Nat) (h1 : 1 ≤ n) : restN n = if 18446744073709551615 % n + 1 = n then 0 else 18446744073709551615 % n + 1 := by
  have hl : 18446744073709551615 % n < n := Nat.mod_lt _ (by omega)
  have e : restN n = (18446744073709551615 % n + 1) % n := by
    unfold restN
    rw [Nat.add_mod, Nat.mod_mod, ← Nat.add_mod]
  rw [e]
  split
  · rename_i h; rw [h, Nat.mod_self]
  · exact Nat.mod_eq_of_lt (by omega)
theorem restN_lt (n : Nat) (h1 : 1 ≤ n) : restN n < n := Nat.mod_lt _ (by omega)

/-- Elements i and j exchanged. -/
def swp (l : List Int) (i j : Nat) : List Int := (l.set i (l.getD j 0)).set j (l.getD i 0)
theorem swp_len (l : List Int) (i j : Nat) : (swp l i j).length = l.length := by simp [swp]
theorem swp_perm (l : List Int) (i j : Nat) (hi : i < l.length) (hj : j < l.length) : (swp l i j).Perm l := by
  have := List.set_set_perm hi hj
  have e1 : l.getD j 0 = l[j] := by simp [List.getD, hj]
  have e2 : l.getD i 0 = l[i] := by simp [List.getD, hi]
  unfold swp
  rw [e1, e2]
  exact this
/-- The exchanges from i down to 1, of a source that has drawn k words. -/
def prmN (S : ByteArray) : Nat → Nat → List Int → List Int × Nat
  | 0, k, l => (l, k)
  | i + 1, k, l => prmN S i (belN S (i + 2) 15 k).2 (swp l (i + 1) (belN S (i + 2) 15 k).1)
theorem prmN_perm (S : ByteArray) : ∀ i k l, i < l.length ∨ i = 0 → (prmN S i k l).1.Perm l
  | 0, k, l, _ => List.Perm.refl _
  | i + 1, k, l, h => by
    have hb := belN_lt S (i + 2) (by omega) 15 k
    rw [prmN]
    have hi : i + 1 < l.length := by omega
    exact (prmN_perm S i _ _ (by rw [swp_len]; omega)).trans (swp_perm l _ _ hi (by omega))
theorem prmN_nx (S : ByteArray) : ∀ i k l, k < 18446744073709551616 → (prmN S i k l).2 < 18446744073709551616
  | 0, k, l, h => h
  | i + 1, k, l, h => by
    rw [prmN]
    exact prmN_nx S i _ _ (belN_nx _ _ _ _)
/-- The ascending list. -/
def asc : Nat → List Int
  | 0 => []
  | n + 1 => asc n ++ [(n : Int)]
theorem asc_len : ∀ n, (asc n).length = n
  | 0 => rfl
  | n + 1 => by rw [asc, List.length_append, asc_len n]; rfl
theorem asc_mem : ∀ n x, x ∈ asc n → 0 ≤ x ∧ x < n
  | 0, x, h => by cases h
  | n + 1, x, h => by
    rcases List.mem_append.1 h with h | h
    · have := asc_mem n x h; omega
    · simp at h; omega
theorem asc_nodup : ∀ n, (asc n).Nodup
  | 0 => List.nodup_nil
  | n + 1 => by
    rw [asc, List.nodup_append]
    refine ⟨asc_nodup n, by simp, fun a ha b hb => ?_⟩
    have := asc_mem n a ha
    simp at hb
    omega
def permN (S : ByteArray) (n k : Nat) : List Int × Nat := prmN S (n - 1) k (asc n)
theorem permN_perm (S : ByteArray) (n k : Nat) : (permN S n k).1.Perm (asc n) := prmN_perm S _ _ _ (by rw [asc_len]; omega)
theorem permN_len (S : ByteArray) (n k : Nat) : (permN S n k).1.length = n := by rw [(permN_perm S n k).length_eq, asc_len]
end Rnd
end Go.Proofs.YtgomconcfjllcaaDoor
