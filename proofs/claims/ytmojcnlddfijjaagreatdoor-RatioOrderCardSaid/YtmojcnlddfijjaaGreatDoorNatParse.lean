/-
  Numerals: nat.isNumeral, nat.chunkValue.
-/
import Derived.Test.YtmojcnlddfijjaaGreatDoorNatMulAdd
namespace Go.Proofs.YtmojcnlddfijjaaGreatDoor
open Go.RowKit NatMath

def DigTo (s : ByteArray) (n : Nat) : Prop := ∀ i (h : i < s.size), i < n → 48 ≤ (s[i]'h).toNat ∧ (s[i]'h).toNat ≤ 57
def Numeral (s : ByteArray) : Prop := DigTo s s.size ∧ ∃ h : 0 < s.size, s.size = 1 ∨ (s[0]'h).toNat ≠ 48
noncomputable def numB (s : ByteArray) : Bool := @decide (Numeral s) (Classical.propDecidable _)
theorem numB_true {s : ByteArray} (h : Numeral s) : numB s = true := by unfold numB; simpa using h
theorem numB_false {s : ByteArray} (h : ¬ Numeral s) : numB s = false := by unfold numB; simpa using h

theorem DigTo.zero (s : ByteArray) : DigTo s 0 := fun _ _ hi => absurd hi (Nat.not_lt_zero _)
theorem DigTo.succ {s : ByteArray} {j : Nat} (hd : DigTo s j) (hj : j < s.size) (h0 : 48 ≤ (s[j]'hj).toNat) (h1 : (s[j]'hj).toNat ≤ 57) : DigTo s (j + 1) := by
  intro i hi hij
  by_cases e : i = j
  · subst e; exact ⟨h0, h1⟩
  · exact hd i hi (by omega)

set_option maxHeartbeats 1600000 in
set_option maxRecDepth 100000 in
theorem isNumeral_c (s : ByteArray) (w : World) (hs : s.size ≤ 40) :
    Calls Tryz.prog 68 #[.string s] w fun e w' => e = .returned (.bool (numB s)) ∧ w = w' := by
  go_enter Tryz.func68, Tryz.ntmps68
  go_wp2_with fail
  go_loop [6] (fun i => ∃ j : Nat, j ≤ s.size ∧ DigTo s j ∧ i = .int .i64 j) (fun i => s.size - (intOf i).toNat)
  case atStart => exact ⟨0, Nat.zero_le _, DigTo.zero s, rfl⟩
  case round =>
    obtain ⟨j, hj, hd, rfl⟩ := hrel
    by_cases hlt : j < s.size
    · obtain ⟨X, hX⟩ : ∃ X : Nat, Hid (X = (s[j]'hlt).toNat) := ⟨_, rfl⟩
      have hXe : (((s[j]'hlt).toNat : Nat) : Int) = (X : Int) := by rw [hX.out]
      have hc : (X < 48 ∧ decide ((X : Int) < 48) = true) ∨ (decide ((X : Int) < 48) = false ∧ 57 < X ∧ decide ((57 : Int) < (X : Int)) = true) ∨ (48 ≤ X ∧ X ≤ 57 ∧ decide ((X : Int) < 48) = false ∧ decide ((57 : Int) < (X : Int)) = false) := by
        simp; omega
      rcases hc with ⟨hx, h1⟩ | ⟨h1, hx, h2⟩ | ⟨hx0, hx1, h1, h2⟩
      · have hn := Lib.hid (numB_false (s := s) (fun hN => by have := hN.1 j hlt hlt; have := hX.out; omega))
        go_wp2_with fail
        go_ret
        exact ⟨by rw [hn.out]; rfl, rfl⟩
      · have hn := Lib.hid (numB_false (s := s) (fun hN => by have := hN.1 j hlt hlt; have := hX.out; omega))
        go_wp2_with fail
        go_ret
        exact ⟨by rw [hn.out]; rfl, rfl⟩
      · have hd' := Lib.hid (hd.succ hlt (by have := hX.out; omega) (by have := hX.out; omega))
        go_wp2_with fail
        go_round
        case rel => exact ⟨j + 1, by omega, hd'.out, by go_num⟩
        case measure => simp [intOf]; omega
    · obtain rfl : j = s.size := by omega
      have hcase : (numB s = false ∧ ((s.size : Int) == 1) = false ∧ decide ((1 : Int) < (s.size : Int)) = false) ∨ (numB s = true ∧ ((s.size : Int) == 1) = true) ∨
          (((s.size : Int) == 1) = false ∧ decide ((1 : Int) < (s.size : Int)) = true ∧ 1 < s.size) := by
        by_cases e0 : s.size = 0
        · exact Or.inl ⟨numB_false (fun hN => by obtain ⟨h, _⟩ := hN.2; omega), by simp; omega, by simp; omega⟩
        · by_cases e1 : s.size = 1
          · exact Or.inr (Or.inl ⟨numB_true ⟨hd, by omega, Or.inl e1⟩, by simp; omega⟩)
          · exact Or.inr (Or.inr ⟨by simp; omega, by simp; omega, by omega⟩)
      rcases hcase with ⟨hn, h1, h2⟩ | ⟨hn, h1⟩ | ⟨h1, h2, h3⟩
      · go_wp2_with fail
        go_ret
        exact ⟨rfl, rfl⟩
      · go_wp2_with fail
        go_ret
        exact ⟨rfl, rfl⟩
      · have h0 : 0 < s.size := by omega
        have hb : ∃ b, Hid (numB s = b) ∧ ((((s[0]'h0).toNat : Nat) : Int) != 48) = b := by
          by_cases e : (s[0]'h0).toNat = 48
          · refine ⟨false, numB_false (fun hN => ?_), by simp; omega⟩
            obtain ⟨_, h | h⟩ := hN.2
            · omega
            · exact h e
          · exact ⟨true, numB_true ⟨hd, h0, Or.inr e⟩, by simp; omega⟩
        obtain ⟨b, HN, hb⟩ := hb
        go_wp2_with fail
        go_ret
        exact ⟨by rw [HN.out]; rfl, rfl⟩
/-- The byte's digit. -/
def digAt (s : ByteArray) (i : Nat) : Nat := if h : i < s.size then (s[i]'h).toNat - 48 else 0
/-- The number of k digits from i. -/
def numG (s : ByteArray) (i : Nat) : Nat → Nat
  | 0 => 0
  | k + 1 => numG s i k * 10 + digAt s (i + k)
theorem numG_split (s : ByteArray) (i : Nat) : ∀ k, numG s 0 (i + k) = numG s 0 i * 10 ^ k + numG s i k
  | 0 => by simp [numG]
  | k + 1 => by
    have e : i + (k + 1) = (i + k) + 1 := rfl
    rw [e, numG, numG_split s i k, numG, Nat.pow_succ, Nat.zero_add, Nat.add_mul, Nat.mul_assoc, Nat.add_assoc]
theorem digAt_le {s : ByteArray} {n i : Nat} (hd : DigTo s n) (hi : i < n) : digAt s i ≤ 9 := by
  unfold digAt
  split
  · rename_i h
    have := hd i h hi
    omega
  · omega
theorem numG_lt {s : ByteArray} {n : Nat} (hd : DigTo s n) (i : Nat) : ∀ k, i + k ≤ n → numG s i k < 10 ^ k
  | 0, _ => by simp [numG]
  | k + 1, hk => by
    have h1 := numG_lt hd i k (by omega)
    have h2 := digAt_le hd (i := i + k) (by omega)
    rw [numG, Nat.pow_succ]
    omega

set_option maxHeartbeats 1600000 in
set_option maxRecDepth 100000 in
theorem chunkValue_c (s : ByteArray) (w : World) (hs : s.size ≤ 9) (hd : DigTo s s.size) :
    Calls Tryz.prog 69 #[.string s] w fun e w' => e = .returned (.int .u32 (numG s 0 s.size)) ∧ w = w' := by
  have HD := Lib.hid hd
  clear hd
  go_enter Tryz.func69, Tryz.ntmps69
  go_wp2_with fail
  go_loop [3, 7] (fun v i => ∃ j : Nat, j ≤ s.size ∧ i = .int .i64 j ∧ v = .int .u32 (numG s 0 j)) (fun _ i => s.size - (intOf i).toNat)
  case atStart => exact ⟨0, Nat.zero_le _, rfl, rfl⟩
  case round =>
    obtain ⟨j, hj, rfl, rfl⟩ := hrel
    by_cases hlt : j < s.size
    · obtain ⟨X, hX⟩ : ∃ X : Nat, Hid (X = (s[j]'hlt).toNat) := ⟨_, rfl⟩
      have hXe : (((s[j]'hlt).toNat : Nat) : Int) = (X : Int) := by rw [hX.out]
      have hx := HD.out j hlt hlt
      rw [← hX.out] at hx
      obtain ⟨hx0, hx1⟩ := hx
      obtain ⟨V, hV⟩ : ∃ V : Nat, Hid (V = numG s 0 j) := ⟨_, rfl⟩
      have hn : Hid (numG s 0 (j + 1) = V * 10 + (X - 48)) := by
        show numG s 0 (j + 1) = V * 10 + (X - 48)
        rw [numG, ← hV.out, Nat.zero_add, digAt, dif_pos hlt, ← hX.out]
      have hV1 : V < 100000000 := by
        have h1 := numG_lt HD.out 0 j (by omega)
        have h2 : 10 ^ j ≤ 10 ^ 8 := Nat.pow_le_pow_right (by omega) (by omega)
        rw [hV.out]
        omega
      rw [← hV.out]
      go_wp2_with fail
      go_round
      case rel => exact ⟨j + 1, by omega, by go_num, by rw [hn.out]; go_num⟩
      case measure => simp [intOf]; omega
    · obtain rfl : j = s.size := by omega
      go_wp2_with fail
      go_ret
      exact ⟨rfl, rfl⟩
end Go.Proofs.YtmojcnlddfijjaaGreatDoor

/-
  nat.Parse.
-/
namespace Go.Proofs.YtmojcnlddfijjaaGreatDoor
open Go.RowKit NatMath

theorem ext_size {s : ByteArray} {i j : Nat} (hj : j ≤ s.size) : (s.extract i j).size = j - i := by
  rw [ByteArray.size_extract, Nat.min_eq_left hj]
theorem ext_dig {s : ByteArray} {i j k : Nat} (hj : j ≤ s.size) (hk : i + k < j) : digAt (s.extract i j) k = digAt s (i + k) := by
  unfold digAt
  rw [dif_pos (by rw [ext_size hj]; omega), dif_pos (by omega), ByteArray.getElem_extract]
theorem ext_num {s : ByteArray} {i j : Nat} (hj : j ≤ s.size) : ∀ k, i + k ≤ j → numG (s.extract i j) 0 k = numG s i k
  | 0, _ => rfl
  | k + 1, hk => by rw [numG, numG, ext_num hj k (by omega), Nat.zero_add, ext_dig hj (by omega)]
theorem ext_digTo {s : ByteArray} {i j : Nat} (hd : DigTo s s.size) (hj : j ≤ s.size) : DigTo (s.extract i j) (s.extract i j).size := by
  intro k hk _
  rw [ByteArray.getElem_extract]
  rw [ext_size hj] at hk
  exact hd (i + k) (by omega) (by omega)

/-- The contract of chunkValue at a part of the text. -/
theorem chunk_at (s : ByteArray) (i k : Nat) (w : World) (hd : DigTo s s.size) (hk : i + k ≤ s.size) (h9 : k ≤ 9) :
    Calls Tryz.prog 69 #[.string (s.extract i (i + k))] w fun e w' => e = .returned (.int .u32 (numG s i k)) ∧ w = w' := by
  have h := chunkValue_c (s.extract i (i + k)) w (by rw [ext_size hk]; omega) (ext_digTo hd hk)
  rw [ext_size hk, show i + k - i = k by omega, ext_num hk k (Nat.le_refl _)] at h
  exact h

set_option maxHeartbeats 1600000 in
set_option maxRecDepth 100000 in
theorem parse_no_c (s : ByteArray) (w : World) (hs : s.size ≤ 40) (hn : numB s = false) :
    Calls Tryz.prog 50 #[.string s] w fun e w' => e = .returned (.tuple #[.slice none 0 0, .bool false]) ∧ w = w' := by
  have hi := isNumeral_c s w hs
  rw [hn] at hi
  have HI := Lib.hid hi
  clear hn hi
  go_enter Tryz.func50, Tryz.ntmps50
  go_wp2_with fail
  refine HI.out.mono ?_
  rintro e w' ⟨rfl, rfl⟩
  go_wp2_with fail
  go_ret2
  exact ⟨rfl, rfl⟩

set_option maxHeartbeats 1600000 in
set_option maxRecDepth 100000 in
theorem parse_c (s : ByteArray) (w : World) (hs : s.size ≤ 40) (hn : numB s = true) (hd : DigTo s s.size) :
    Calls Tryz.prog 50 #[.string s] w fun e w' => ∃ ao' n' c', n' ≤ 42 ∧ e = .returned (.tuple #[.slice ao' n' c', .bool true]) ∧ Own 66 .u32 w.heap.size w' ao' n' c' (limbs (numG s 0 s.size)) ∧ Below w.heap.size w w' := by
  have hi := isNumeral_c s w hs
  rw [hn] at hi
  have HI := Lib.hid hi
  have HD := Lib.hid hd
  clear hn hi hd
  obtain ⟨m, hm⟩ : ∃ m, s.size % 9 = m := ⟨_, rfl⟩
  have hm2 : (s.size : Int) % 9 = (m : Int) := by omega
  obtain ⟨q, hq⟩ : ∃ q, s.size = m + 9 * q := ⟨s.size / 9, by omega⟩
  have hm9 : m ≤ 8 := by omega
  have HQ := Lib.hid hq
  have HC := Lib.hid (chunk_at s 0 m w HD.out (by omega) (by omega))
  rw [Nat.zero_add] at HC
  clear hq
  go_enter Tryz.func50, Tryz.ntmps50
  go_wp2_with fail
  refine HI.out.mono ?_
  rintro e w' ⟨rfl, rfl⟩
  go_wp2_with fail
  refine HC.out.mono ?_
  rintro e w' ⟨rfl, rfl⟩
  have hlt0 : numG s 0 m < 1000000000 := by
    have h1 := numG_lt HD.out 0 m (by have := HQ.out; omega)
    have h2 : 10 ^ m ≤ 10 ^ 9 := Nat.pow_le_pow_right (by omega) (by omega)
    omega
  have ho := of_c (numG s 0 m : Int) w (by omega) (by omega)
  rw [Int.toNat_natCast] at ho
  have HO := Lib.hid ho
  clear ho
  go_wp2_with fail
  refine HO.out.mono ?_
  rintro e w1 ⟨a1, n1, c1, hn1, rfl, o1, b1⟩
  go_wp2_with fail
  go_loopw [4, 5] (fun i a wr => ∃ (t : Nat) (ao' : Option Addr) (n' c' : Nat), t ≤ q ∧ n' ≤ 2 + t ∧ i = .int .i64 ((m + 9 * t : Nat) : Int) ∧ a = .slice ao' n' c' ∧ Own 66 .u32 w.heap.size wr ao' n' c' (limbs (numG s 0 (m + 9 * t))) ∧ Below w.heap.size w wr)
    (fun i _ _ => s.size - (intOf i).toNat)
  case atStart => exact ⟨0, a1, n1, c1, Nat.zero_le _, by omega, by go_num, rfl, o1, b1⟩
  case round =>
    obtain ⟨t, ao', n', c', ht, hn', rfl, rfl, ho, hb⟩ := hrel
    obtain ⟨e, he⟩ : ∃ e, Hid (e = m + 9 * t) := ⟨_, rfl⟩
    rw [← he.out] at ho ⊢
    have hsz := hb.size
    by_cases hlt : t < q
    · have hes : e + 9 ≤ s.size := by have := HQ.out; have := he.out; omega
      have h9 := numG_lt HD.out e 9 hes
      have hc := chunk_at s e 9 wr HD.out hes (by omega)
      have HC9 := Lib.hid hc
      have hm := mulAdd_c w.heap.size ao' n' c' (numG s 0 e) 1000000000 (numG s e 9) wr ho hsz (by have := HQ.out; omega) (by omega) (by omega) (by omega)
      have ee : numG s 0 e * 1000000000 + numG s e 9 = numG s 0 (m + 9 * (t + 1)) := by
        rw [show m + 9 * (t + 1) = e + 9 by have := he.out; omega, numG_split s e 9]
      rw [ee] at hm
      have HM := Lib.hid hm
      have HE := Lib.hid (show e + 9 = m + 9 * (t + 1) by have := he.out; omega)
      have HBW := Lib.hid hb
      have HTQ := Lib.hid ht
      clear hc hm ee ho h9 hb
      go_wp2_with fail
      refine HC9.out.mono ?_
      rintro e' w' ⟨rfl, rfl⟩
      go_wp2_with fail
      refine HM.out.mono ?_
      rintro e' w2 ⟨a2, n2, c2, hn2, rfl, o2, b2⟩
      go_wp2_with fail
      go_roundw
      case rel => exact ⟨t + 1, a2, n2, c2, by omega, by omega, by rw [← HE.out]; go_num, rfl, o2, HBW.out.trans b2⟩
      case measure => simp [intOf]; omega
    · have hes : e = s.size := by have := HQ.out; have := he.out; omega
      have hn2 : n' ≤ 42 := by have := HQ.out; omega
      rw [hes] at ho ⊢
      go_wp2_with fail
      go_ret2
      exact ⟨ao', n', c', hn2, rfl, ho, hb⟩
end Go.Proofs.YtmojcnlddfijjaaGreatDoor
