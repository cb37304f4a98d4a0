/-
  The walk of NatPower.
-/
import Derived.Test.YtbkfahpbmpkkhaaDoorNatAwake
import Derived.Test.YtbkfahpbmpkkhaaDoorNatMulAdd
namespace Go.Proofs.YtbkfahpbmpkkhaaDoor
open Go.RowKit NatMath

theorem decDigits_pow (k : Nat) : Lib.decDigits (10 ^ k) = 49 :: List.replicate k 48 := by
  induction k with
  | zero => rw [show 10 ^ 0 = 1 from rfl, Lib.decDigits_one (by omega)]; rfl
  | succ k ih =>
    have hp : 0 < 10 ^ k := Nat.pow_pos (by omega)
    rw [decDigits_ge (by rw [Nat.pow_succ]; omega), show 10 ^ (k + 1) / 10 = 10 ^ k by rw [Nat.pow_succ]; omega, ih, show 10 ^ (k + 1) % 10 = 0 by rw [Nat.pow_succ]; omega, List.replicate_succ', List.cons_append]
    rfl

theorem byte_at (s : ByteArray) (j : Nat) (h : j < s.size) : s.data.toList[j]? = some (s[j]'h) := by
  rw [List.getElem?_eq_getElem (l := s.data.toList) (i := j) (by simpa using h)]
  rfl

set_option maxHeartbeats 1600000 in
set_option maxRecDepth 100000 in
theorem power_c (n : Int) (w : World) (htab : Tab w) :
    Calls Tryd.prog 13 #[.int .i64 n] w fun e w' => e = .returned (.bool true) ∧ Below w.heap.size w w' := by
  have HT := Lib.hid htab
  clear htab
  obtain ⟨s, hs⟩ : ∃ s : ByteArray, Hid (s = ⟨(Lib.decDigits (pow10 n)).toArray⟩) := ⟨_, rfl⟩
  have hfirst : ∀ w0, Calls Tryd.prog 39 #[.int .i64 n] w0 fun e w' => ∃ ao' n' c', n' ≤ 62 ∧ e = .returned (.slice ao' n' c') ∧ Own 60 .u32 w0.heap.size w' ao' n' c' (limbs (pow10 n)) ∧ Below w0.heap.size w0 w' := pow10_c n
  have HF := Lib.hid hfirst
  clear hfirst
  have htext : ∀ (w1 : World) ao' n' c', n' ≤ 62 → Lst .u32 w1 ao' n' c' (limbs (pow10 n)) → Tab w1 → Calls Tryd.prog 31 #[.slice ao' n' c'] w1 fun e w' => e = .returned (.string s) ∧ Below w1.heap.size w1 w' := by
    intro w1 ao' n' c' hn' hl ht
    have := text_c ao' n' c' _ w1 hl (by omega) ht
    rw [val_limbs] at this
    rw [hs.out]
    exact this
  have HX := Lib.hid htext
  clear htext
  by_cases h : 0 ≤ n ∧ n ≤ 60
  · obtain ⟨h0, h1⟩ := h
    obtain ⟨N, rfl⟩ := Int.eq_ofNat_of_zero_le h0
    have hp : pow10 (N : Int) = 10 ^ N := by unfold pow10; rw [if_pos ⟨h0, h1⟩]; rfl
    have hl : s.size = N + 1 := by
      rw [hs.out, hp, decDigits_pow]
      simp [ByteArray.size]
    have hb0 : (s[0]'(by omega)).toNat = 49 := by
      have : (s.data.toList)[0]? = some 49 := by rw [hs.out, hp, decDigits_pow]; rfl
      have h2 := byte_at s 0 (by omega)
      rw [h2] at this
      injection this with this
      rw [this]; rfl
    have hbj : ∀ j (hj : j < s.size), 1 ≤ j → (s[j]'hj).toNat = 48 := by
      intro j hj h1j
      have : (s.data.toList)[j]? = some 48 := by
        rw [hs.out, hp, decDigits_pow]
        obtain ⟨t, rfl⟩ : ∃ t, j = t + 1 := ⟨j - 1, by omega⟩
        rw [List.getElem?_cons_succ, List.getElem?_replicate, if_pos (by omega)]
      have h2 := byte_at s j hj
      rw [h2] at this
      injection this with this
      rw [this]; rfl
    have hd1 : decide ((N : Int) < 0) = false := by simp
    have hd2 : decide ((60 : Int) < (N : Int)) = false := by simp; omega
    have hlb : ((s.size : Int) == (N : Int) + 1) = true := by simp; omega
    have hlb' : ((s.size : Int) != (N : Int) + 1) = false := by simp; omega
    have hpos : 0 < s.size := by omega
    have HBJ := Lib.hid hbj; have HL := Lib.hid hl
    have hb0' : ((s[0]'hpos).toNat : Int) = 49 := by omega
    clear hp hbj hl hb0
    go_enter Tryd.func13, Tryd.ntmps13
    go_wp2_with fail
    refine (HF.out _).mono ?_
    rintro e w1 ⟨a1, n1, c1, hn1, rfl, o1, b1⟩
    have ht1 : Tab w1 := HT.out.below b1
    have HX1 := Lib.hid (HX.out w1 a1 n1 c1 hn1 o1.lst ht1)
    go_wp2_with fail
    refine HX1.out.mono ?_
    rintro e w2 ⟨rfl, b2⟩
    have B2 := Below.on b1 b2 b1.size
    clear ht1 HX1 b1 b2 o1
    go_wp2_with fail
    go_loop [4] (fun i => ∃ j : Nat, 1 ≤ j ∧ j ≤ N + 1 ∧ i = .int .i64 j) (fun i => N + 1 - (intOf i).toNat)
    case atStart => exact ⟨1, by omega, by omega, rfl⟩
    case round =>
      obtain ⟨j, hj1, hj, rfl⟩ := hrel
      by_cases hlt : j < N + 1
      · have hjs : j < s.size := by rw [HL.out]; exact hlt
        have hb : ((s[j]'hjs).toNat : Int) = 48 := by have := HBJ.out j hjs hj1; omega
        go_wp2_with fail
        go_round
        case rel => exact ⟨j + 1, by omega, by omega, by go_num⟩
        case measure => simp [intOf]; omega
      · have hjs : ¬ j < s.size := by rw [HL.out]; exact hlt
        have ht2 : Tab w2 := HT.out.below B2
        have HA := Lib.hid (awake_c w2 ht2)
        clear ht2
        go_wp2_with fail
        refine HA.out.mono ?_
        rintro e w3 ⟨rfl, b3⟩
        go_wp2_with fail
        go_ret
        exact ⟨rfl, Below.on B2 b3 B2.size⟩
  · have hp : pow10 n = 0 := by unfold pow10; rw [if_neg h]
    have h0 : s = ⟨#[48]⟩ := by
      rw [hs.out, hp, Lib.decDigits_one (by omega)]; rfl
    subst h0
    have hor : (decide (n < 0) = true) ∨ (decide (n < 0) = false ∧ decide ((60 : Int) < n) = true) := by
      by_cases hn : n < 0
      · exact Or.inl (by simpa using hn)
      · exact Or.inr ⟨by simpa using hn, by simp; omega⟩
    clear hp h
    rcases hor with hd | ⟨hd, hd2⟩
    all_goals
      go_enter Tryd.func13, Tryd.ntmps13
      go_wp2_with fail
      refine (HF.out _).mono ?_
      rintro e w1 ⟨a1, n1, c1, hn1, rfl, o1, b1⟩
      have ht1 : Tab w1 := HT.out.below b1
      have HX1 := Lib.hid (HX.out w1 a1 n1 c1 hn1 o1.lst ht1)
      go_wp2_with fail
      refine HX1.out.mono ?_
      rintro e w2 ⟨rfl, b2⟩
      have B2 := Below.on b1 b2 b1.size
      have ht2 : Tab w2 := HT.out.below B2
      have HA := Lib.hid (awake_c w2 ht2)
      clear ht1 ht2 HX1 b1 b2 o1
      go_wp2_with fail
      refine HA.out.mono ?_
      rintro e w3 ⟨rfl, b3⟩
      go_wp2_with fail
      go_ret
      exact ⟨rfl, Below.on B2 b3 B2.size⟩
end Go.Proofs.YtbkfahpbmpkkhaaDoor
