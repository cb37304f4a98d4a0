/-
  nat.Parse.
-/
import Derived.Test.YtmojcnlddfijjaaDoorNatNum
namespace Go.Proofs.YtmojcnlddfijjaaDoor
open Go.RowKit NatMath

theorem ext_size {s : ByteArray} {i j : Nat} (hj : j ≤ s.size) : (s.extract i j).size = j - i := by
  rw [ByteArray.size_extract, Nat.min_eq_left hj]
theorem ext_dig {s : ByteArray} {i j k : Nat} (hj : j ≤ s.size) (hk : i + k < j) : digAt (s.extract i j) k = digAt s (i + k) := by
  unfold digAt
  rw [dif_pos (by rw [ext_size hj]; omega), dif_pos (by omega), ByteArray.getElem_extract]
theorem ext_num {s : ByteArray} {i j : Nat} (hj : j ≤ s.size) : ∀ k, i + k ≤ j → numG (s.extract i j) 0 k = numG s i k
  | 0, _ => rfl
  | k + 1, hk => by rw [numG, numG, ext_num hj k (by omega), Nat.zero_add, ext_dig hj (by omega)]
theorem ext_digTo {s : ByteArray} {i j : Nat} (hd : DigTo s s.size) (hj : j ≤ s.size) : DigTo (s.extract i j) (s.extract i j).size := by
  intro k hk _
  rw [ByteArray.getElem_extract]
  rw [ext_size hj] at hk
  exact hd (i + k) (by omega) (by omega)

/-- The contract of chunkValue at a part of the text. -/
theorem chunk_at (s : ByteArray) (i k : Nat) (w : World) (hd : DigTo s s.size) (hk : i + k ≤ s.size) (h9 : k ≤ 9) :
    Calls Tryd.prog 92 #[.string (s.extract i (i + k))] w fun e w' => e = .returned (.int .u32 (numG s i k)) ∧ w = w' := by
  have h := chunkValue_c (s.extract i (i + k)) w (by rw [ext_size hk]; omega) (ext_digTo hd hk)
  rw [ext_size hk, show i + k - i = k by omega, ext_num hk k (Nat.le_refl _)] at h
  exact h

set_option maxHeartbeats 1600000 in
set_option maxRecDepth 100000 in
theorem parse_no_c (s : ByteArray) (w : World) (hs : s.size ≤ 40) (hn : numB s = false) :
    Calls Tryd.prog 66 #[.string s] w fun e w' => e = .returned (.tuple #[.slice none 0 0, .bool false]) ∧ w = w' := by
  have hi := isNumeral_c s w hs
  rw [hn] at hi
  have HI := Lib.hid hi
  clear hn hi
  go_enter Tryd.func66, Tryd.ntmps66
  go_wp2_with fail
  refine HI.out.mono ?_
  rintro e w' ⟨rfl, rfl⟩
  go_wp2_with fail
  go_ret2
  exact ⟨rfl, rfl⟩

set_option maxHeartbeats 1600000 in
set_option maxRecDepth 100000 in
theorem parse_c (s : ByteArray) (w : World) (hs : s.size ≤ 40) (hn : numB s = true) (hd : DigTo s s.size) :
    Calls Tryd.prog 66 #[.string s] w fun e w' => ∃ ao' n' c', n' ≤ 42 ∧ e = .returned (.tuple #[.slice ao' n' c', .bool true]) ∧ Own 77 .u32 w.heap.size w' ao' n' c' (limbs (numG s 0 s.size)) ∧ Below w.heap.size w w' := by
  have hi := isNumeral_c s w hs
  rw [hn] at hi
  have HI := Lib.hid hi
  have HD := Lib.hid hd
  clear hn hi hd
  obtain ⟨m, hm⟩ : ∃ m, s.size % 9 = m := ⟨_, rfl⟩
  have hm2 : (s.size : Int) % 9 = (m : Int) := by omega
  obtain ⟨q, hq⟩ : ∃ q, s.size = m + 9 * q := ⟨s.size / 9, by omega⟩
  have hm9 : m ≤ 8 := by omega
  have HQ := Lib.hid hq
  have HC := Lib.hid (chunk_at s 0 m w HD.out (by omega) (by omega))
  rw [Nat.zero_add] at HC
  clear hq
  go_enter Tryd.func66, Tryd.ntmps66
  go_wp2_with fail
  refine HI.out.mono ?_
  rintro e w' ⟨rfl, rfl⟩
  go_wp2_with fail
  refine HC.out.mono ?_
  rintro e w' ⟨rfl, rfl⟩
  have hlt0 : numG s 0 m < 1000000000 := by
    have h1 := numG_lt HD.out 0 m (by have := HQ.out; omega)
    have h2 : 10 ^ m ≤ 10 ^ 9 := Nat.pow_le_pow_right (by omega) (by omega)
    omega
  have ho := of_c (numG s 0 m : Int) w (by omega) (by omega)
  rw [Int.toNat_natCast] at ho
  have HO := Lib.hid ho
  clear ho
  go_wp2_with fail
  refine HO.out.mono ?_
  rintro e w1 ⟨a1, n1, c1, hn1, rfl, o1, b1⟩
  go_wp2_with fail
  go_loopw [4, 5] (fun i a wr => ∃ (t : Nat) (ao' : Option Addr) (n' c' : Nat), t ≤ q ∧ n' ≤ 2 + t ∧ i = .int .i64 ((m + 9 * t : Nat) : Int) ∧ a = .slice ao' n' c' ∧ Own 77 .u32 w.heap.size wr ao' n' c' (limbs (numG s 0 (m + 9 * t))) ∧ Below w.heap.size w wr)
    (fun i _ _ => s.size - (intOf i).toNat)
  case atStart => exact ⟨0, a1, n1, c1, Nat.zero_le _, by omega, by go_num, rfl, o1, b1⟩
  case round =>
    obtain ⟨t, ao', n', c', ht, hn', rfl, rfl, ho, hb⟩ := hrel
    obtain ⟨e, he⟩ : ∃ e, Hid (e = m + 9 * t) := ⟨_, rfl⟩
    rw [← he.out] at ho ⊢
    have hsz := hb.size
    by_cases hlt : t < q
    · have hes : e + 9 ≤ s.size := by have := HQ.out; have := he.out; omega
      have h9 := numG_lt HD.out e 9 hes
      have hc := chunk_at s e 9 wr HD.out hes (by omega)
      have HC9 := Lib.hid hc
      have hm := mulAdd_c w.heap.size ao' n' c' (numG s 0 e) 1000000000 (numG s e 9) wr ho hsz (by have := HQ.out; omega) (by omega) (by omega) (by omega)
      have ee : numG s 0 e * 1000000000 + numG s e 9 = numG s 0 (m + 9 * (t + 1)) := by
        rw [show m + 9 * (t + 1) = e + 9 by have := he.out; omega, numG_split s e 9]
      rw [ee] at hm
      have HM := Lib.hid hm
      have HE := Lib.hid (show e + 9 = m + 9 * (t + 1) by have := he.out; omega)
      have HBW := Lib.hid hb
      have HTQ := Lib.hid ht
      clear hc hm ee ho h9 hb
      go_wp2_with fail
      refine HC9.out.mono ?_
      rintro e' w' ⟨rfl, rfl⟩
      go_wp2_with fail
      refine HM.out.mono ?_
      rintro e' w2 ⟨a2, n2, c2, hn2, rfl, o2, b2⟩
      go_wp2_with fail
      go_roundw
      case rel => exact ⟨t + 1, a2, n2, c2, by omega, by omega, by rw [← HE.out]; go_num, rfl, o2, HBW.out.trans b2⟩
      case measure => simp [intOf]; omega
    · have hes : e = s.size := by have := HQ.out; have := he.out; omega
      have hn2 : n' ≤ 42 := by have := HQ.out; omega
      rw [hes] at ho ⊢
      go_wp2_with fail
      go_ret2
      exact ⟨ao', n', c', hn2, rfl, ho, hb⟩
end Go.Proofs.YtmojcnlddfijjaaDoor
