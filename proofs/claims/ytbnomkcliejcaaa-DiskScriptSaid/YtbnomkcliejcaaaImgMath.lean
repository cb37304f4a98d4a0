/-
  Bit images as plain lists of bytes: chapter 09 in plain functions. No program is spoken of.
-/
import Derived.WalkKit
namespace Go.Proofs.Ytbnomkcliejcaaa
namespace Im

/-- A byte out of its bits, the most significant first. -/
def byte8 (b0 b1 b2 b3 b4 b5 b6 b7 : Bool) : Nat := 128 * b0.toNat + 64 * b1.toNat + 32 * b2.toNat + 16 * b3.toNat + 8 * b4.toNat + 4 * b5.toNat + 2 * b6.toNat + b7.toNat
theorem byte8_lt (b0 b1 b2 b3 b4 b5 b6 b7 : Bool) : byte8 b0 b1 b2 b3 b4 b5 b6 b7 < 256 := by
  revert b0 b1 b2 b3 b4 b5 b6 b7
  decide
/-- Byte k of a row of bits. -/
def byteP (f : Nat → Bool) (k : Nat) : Nat := byte8 (f (8 * k)) (f (8 * k + 1)) (f (8 * k + 2)) (f (8 * k + 3)) (f (8 * k + 4)) (f (8 * k + 5)) (f (8 * k + 6)) (f (8 * k + 7))
/-- The first m bytes of a row of bits. -/
def packP (f : Nat → Bool) (m : Nat) : List Int := (List.range m).map fun k => (byteP f k : Int)
/-- Bit n of a list of bytes. -/
def bitL (bs : List Int) (n : Nat) : Bool := decide ((bs.getD (n / 8) 0).toNat >>> (7 - n % 8) % 2 = 1)
/-- The row of bits in which bit n is set to v. -/
def upd (f : Nat → Bool) (n : Nat) (v : Bool) : Nat → Bool := fun k => if k = n then v else f k

theorem packP_len (f : Nat → Bool) (m : Nat) : (packP f m).length = m := by simp [packP]
theorem packP_get (f : Nat → Bool) (m k : Nat) (h : k < m) : (packP f m).getD k 0 = (byteP f k : Int) := by
  unfold packP
  rw [List.getD_eq_getElem?_getD, List.getElem?_map, List.getElem?_range h]
  rfl
theorem packP_bytes (f : Nat → Bool) (m : Nat) : ∀ x ∈ packP f m, 0 ≤ x ∧ x ≤ 255 := by
  intro x hx
  obtain ⟨k, _, rfl⟩ := List.mem_map.1 hx
  have := byte8_lt (f (8 * k)) (f (8 * k + 1)) (f (8 * k + 2)) (f (8 * k + 3)) (f (8 * k + 4)) (f (8 * k + 5)) (f (8 * k + 6)) (f (8 * k + 7))
  unfold byteP
  omega
theorem get8 (b0 b1 b2 b3 b4 b5 b6 b7 : Bool) : decide (byte8 b0 b1 b2 b3 b4 b5 b6 b7 >>> 7 % 2 = 1) = b0 ∧ decide (byte8 b0 b1 b2 b3 b4 b5 b6 b7 >>> 6 % 2 = 1) = b1 ∧ decide (byte8 b0 b1 b2 b3 b4 b5 b6 b7 >>> 5 % 2 = 1) = b2 ∧ decide (byte8 b0 b1 b2 b3 b4 b5 b6 b7 >>> 4 % 2 = 1) = b3 ∧
    decide (byte8 b0 b1 b2 b3 b4 b5 b6 b7 >>> 3 % 2 = 1) = b4 ∧ decide (byte8 b0 b1 b2 b3 b4 b5 b6 b7 >>> 2 % 2 = 1) = b5 ∧ decide (byte8 b0 b1 b2 b3 b4 b5 b6 b7 >>> 1 % 2 = 1) = b6 ∧ decide (byte8 b0 b1 b2 b3 b4 b5 b6 b7 >>> 0 % 2 = 1) = b7 := by
  revert b0 b1 b2 b3 b4 b5 b6 b7
  decide
theorem or8 (b0 b1 b2 b3 b4 b5 b6 b7 : Bool) : byte8 b0 b1 b2 b3 b4 b5 b6 b7 ||| 128 = byte8 true b1 b2 b3 b4 b5 b6 b7 ∧ byte8 b0 b1 b2 b3 b4 b5 b6 b7 ||| 64 = byte8 b0 true b2 b3 b4 b5 b6 b7 ∧ byte8 b0 b1 b2 b3 b4 b5 b6 b7 ||| 32 = byte8 b0 b1 true b3 b4 b5 b6 b7 ∧
    byte8 b0 b1 b2 b3 b4 b5 b6 b7 ||| 16 = byte8 b0 b1 b2 true b4 b5 b6 b7 ∧ byte8 b0 b1 b2 b3 b4 b5 b6 b7 ||| 8 = byte8 b0 b1 b2 b3 true b5 b6 b7 ∧ byte8 b0 b1 b2 b3 b4 b5 b6 b7 ||| 4 = byte8 b0 b1 b2 b3 b4 true b6 b7 ∧
    byte8 b0 b1 b2 b3 b4 b5 b6 b7 ||| 2 = byte8 b0 b1 b2 b3 b4 b5 true b7 ∧ byte8 b0 b1 b2 b3 b4 b5 b6 b7 ||| 1 = byte8 b0 b1 b2 b3 b4 b5 b6 true := by
  revert b0 b1 b2 b3 b4 b5 b6 b7
  decide
theorem of8 : ∀ x : Nat, x < 256 → byte8 (decide (x >>> 7 % 2 = 1)) (decide (x >>> 6 % 2 = 1)) (decide (x >>> 5 % 2 = 1)) (decide (x >>> 4 % 2 = 1)) (decide (x >>> 3 % 2 = 1)) (decide (x >>> 2 % 2 = 1)) (decide (x >>> 1 % 2 = 1)) (decide (x >>> 0 % 2 = 1)) = x := by decide +kernel
theorem mod8 (n : Nat) : n % 8 = 0 ∨ n % 8 = 1 ∨ n % 8 = 2 ∨ n % 8 = 3 ∨ n % 8 = 4 ∨ n % 8 = 5 ∨ n % 8 = 6 ∨ n % 8 = 7 := by omega
/-- What was packed is read back. -/
theorem bit_pack (f : Nat → Bool) (m n : Nat) (h : n < 8 * m) : bitL (packP f m) n = f n := by
  unfold bitL
  rw [packP_get f m (n / 8) (by omega), Int.toNat_natCast]
  unfold byteP
  obtain ⟨g0, g1, g2, g3, g4, g5, g6, g7⟩ := get8 (f (8 * (n / 8))) (f (8 * (n / 8) + 1)) (f (8 * (n / 8) + 2)) (f (8 * (n / 8) + 3)) (f (8 * (n / 8) + 4)) (f (8 * (n / 8) + 5)) (f (8 * (n / 8) + 6)) (f (8 * (n / 8) + 7))
  rcases mod8 n with e | e | e | e | e | e | e | e
  · rw [e]; exact g0.trans (congrArg f (by omega))
  · rw [e]; exact g1.trans (congrArg f (by omega))
  · rw [e]; exact g2.trans (congrArg f (by omega))
  · rw [e]; exact g3.trans (congrArg f (by omega))
  · rw [e]; exact g4.trans (congrArg f (by omega))
  · rw [e]; exact g5.trans (congrArg f (by omega))
  · rw [e]; exact g6.trans (congrArg f (by omega))
  · rw [e]; exact g7.trans (congrArg f (by omega))
/-- A list of bytes is the pack of its bits. -/
theorem pack_bits (bs : List Int) (h : ∀ x ∈ bs, 0 ≤ x ∧ x ≤ 255) : packP (bitL bs) bs.length = bs := by
  apply List.ext_getElem?
  intro k
  by_cases hk : k < bs.length
  · have h1 : (packP (bitL bs) bs.length)[k]? = some ((byteP (bitL bs) k : Nat) : Int) := by
      unfold packP
      rw [List.getElem?_map, List.getElem?_range hk]
      rfl
    rw [h1, List.getElem?_eq_getElem hk]
    have hx := h _ (List.getElem_mem hk)
    have hd : bs.getD k 0 = bs[k] := by rw [List.getD_eq_getElem?_getD, List.getElem?_eq_getElem hk]; rfl
    have h8 := of8 bs[k].toNat (by omega)
    have hb : ∀ j, j < 8 → bitL bs (8 * k + j) = decide (bs[k].toNat >>> (7 - j) % 2 = 1) := by
      intro j hj
      unfold bitL
      rw [show (8 * k + j) / 8 = k by omega, show (8 * k + j) % 8 = j by omega, hd]
    have e : byteP (bitL bs) k = bs[k].toNat := by
      unfold byteP
      have b0 := hb 0 (by omega)
      rw [Nat.add_zero] at b0
      rw [b0, hb 1 (by omega), hb 2 (by omega), hb 3 (by omega), hb 4 (by omega), hb 5 (by omega), hb 6 (by omega), hb 7 (by omega)]
      exact h8
    rw [e]
    congr 1
    omega
  · rw [List.getElem?_eq_none (by rw [packP_len]; omega), List.getElem?_eq_none (by omega)]
theorem packP_congr {f g : Nat → Bool} {m : Nat} (h : ∀ n, n < 8 * m → f n = g n) : packP f m = packP g m := by
  unfold packP
  apply List.map_congr_left
  intro k hk
  have hk := List.mem_range.1 hk
  unfold byteP
  rw [h _ (by omega), h _ (by omega), h _ (by omega), h _ (by omega), h _ (by omega), h _ (by omega), h _ (by omega), h _ (by omega)]
theorem packP_inj {f g : Nat → Bool} {m : Nat} (h : packP f m = packP g m) (n : Nat) (hn : n < 8 * m) : f n = g n := by
  rw [← bit_pack f m n hn, ← bit_pack g m n hn, h]
theorem byteP_upd (f : Nat → Bool) (n k : Nat) (v : Bool) (h : k ≠ n / 8) : byteP (upd f n v) k = byteP f k := by
  have hu : ∀ j, j < 8 → upd f n v (8 * k + j) = f (8 * k + j) := by
    intro j hj
    unfold upd
    rw [if_neg (by omega)]
  have u0 := hu 0 (by omega)
  rw [Nat.add_zero] at u0
  unfold byteP
  rw [u0, hu 1 (by omega), hu 2 (by omega), hu 3 (by omega), hu 4 (by omega), hu 5 (by omega), hu 6 (by omega), hu 7 (by omega)]
/-- A bit is set: its byte, or'ed with the bit. -/
theorem byteP_or (f : Nat → Bool) (n : Nat) : byteP (upd f n true) (n / 8) = byteP f (n / 8) ||| 128 >>> (n % 8) := by
  have hu : ∀ j, j < 8 → upd f n true (8 * (n / 8) + j) = if j = n % 8 then true else f (8 * (n / 8) + j) := by
    intro j hj
    unfold upd
    by_cases e : j = n % 8
    · rw [if_pos (by omega), if_pos e]
    · rw [if_neg (by omega), if_neg e]
  obtain ⟨g0, g1, g2, g3, g4, g5, g6, g7⟩ := or8 (f (8 * (n / 8))) (f (8 * (n / 8) + 1)) (f (8 * (n / 8) + 2)) (f (8 * (n / 8) + 3)) (f (8 * (n / 8) + 4)) (f (8 * (n / 8) + 5)) (f (8 * (n / 8) + 6)) (f (8 * (n / 8) + 7))
  have u0 := hu 0 (by omega)
  rw [Nat.add_zero] at u0
  unfold byteP
  rw [u0, hu 1 (by omega), hu 2 (by omega), hu 3 (by omega), hu 4 (by omega), hu 5 (by omega), hu 6 (by omega), hu 7 (by omega)]
  rcases mod8 n with e | e | e | e | e | e | e | e <;> rw [e]
  · exact g0.symm
  · exact g1.symm
  · exact g2.symm
  · exact g3.symm
  · exact g4.symm
  · exact g5.symm
  · exact g6.symm
  · exact g7.symm
theorem packP_upd (f : Nat → Bool) (m n : Nat) (h : n / 8 < m) : packP (upd f n true) m = (packP f m).set (n / 8) ((byteP f (n / 8) ||| 128 >>> (n % 8) : Nat) : Int) := by
  apply List.ext_getElem?
  intro k
  by_cases hk : k < m
  · have h1 : ∀ g : Nat → Bool, (packP g m)[k]? = some ((byteP g k : Nat) : Int) := by
      intro g
      unfold packP
      rw [List.getElem?_map, List.getElem?_range hk]
      rfl
    rw [h1, List.getElem?_set, packP_len]
    by_cases e : n / 8 = k
    · subst e
      rw [if_pos rfl, if_pos h, byteP_or]
    · rw [if_neg e, h1, byteP_upd f n k true (fun e' => e e'.symm)]
  · rw [List.getElem?_eq_none (by rw [packP_len]; omega), List.getElem?_eq_none (by rw [List.length_set, packP_len]; omega)]
end Im
end Go.Proofs.Ytbnomkcliejcaaa
