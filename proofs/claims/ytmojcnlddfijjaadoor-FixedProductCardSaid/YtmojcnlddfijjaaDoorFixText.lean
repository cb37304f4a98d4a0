/-
  fixed.fractionText, fixed.Text.
-/
import Derived.Test.YtmojcnlddfijjaaDoorFixBase
import Derived.Test.YtmojcnlddfijjaaDoorFixMath
import Derived.Test.YtmojcnlddfijjaaDoorNatText
import Derived.Test.YtmojcnlddfijjaaDoorNatDec
namespace Go.Proofs.YtmojcnlddfijjaaDoor
open Go.RowKit NatMath FixMath

theorem val_lt_160 {n : Nat} {P : Nat} (h : (limbs P).length = n) (hn : n ≤ 5) : P < 2 ^ 160 := by
  have h1 := val_lt (limbs_ok P)
  rw [val_limbs, h] at h1
  have h2 : 4294967296 ^ n ≤ 4294967296 ^ 5 := Nat.pow_le_pow_right (by omega) (by omega)
  have h3 : (4294967296 : Nat) ^ 5 ≤ 2 ^ 160 := by decide
  omega
theorem dec_len_160 {v : Nat} (h : v < 2 ^ 160) : (Lib.decDigits v).length ≤ 49 := by
  refine dec_len 48 v ?_
  have : (2 : Nat) ^ 160 ≤ 10 ^ 49 := by decide
  omega

set_option maxHeartbeats 1600000 in
theorem fraction_c (ao bo : Option Addr) (n c m d r D : Nat) (w : World) (h : Lst .u32 w ao n c (limbs r)) (k : Lst .u32 w bo m d (limbs (10 ^ D))) (hn : n ≤ 1000000) (hm : m ≤ 1000000) (hr : r < 10 ^ D) (hD : D ≤ 6) (htab : Tab w) :
    Calls Tryd.prog 65 #[.slice ao n c, .slice bo m d] w fun e w' => e = .returned (.string ⟨(low D r).toArray⟩) ∧ Below w.heap.size w w' := by
  have ha := add_c bo ao m d n c _ _ w k h (by omega) (by omega)
  rw [val_limbs, val_limbs] at ha
  have HA := Lib.hid ha
  have HT := Lib.hid htab
  have hd := dec_one D r hr
  have HDD := Lib.hid hd
  have hl := low_len D r
  obtain ⟨L, hL⟩ : ∃ L, Hid (L = low D r) := ⟨_, rfl⟩
  rw [← hL.out] at hl HDD
  have HL := Lib.hid hl
  have hsz : (⟨(49 :: L).toArray⟩ : ByteArray).size = D + 1 := by show (49 :: L).length = _; rw [List.length_cons, hl]
  obtain ⟨S, hS⟩ : ∃ S, Hid (S = (⟨(49 :: L).toArray⟩ : ByteArray)) := ⟨_, rfl⟩
  rw [← hS.out] at hsz
  have hsz1 : 1 ≤ S.size := by omega
  have HSZ := Lib.hid hsz
  clear ha htab hd hl hr hsz h k
  go_enter Tryd.func65, Tryd.ntmps65
  go_wp2_with fail
  refine HA.out.mono ?_
  rintro e w1 ⟨a1, n1, c1, rfl, hn1, o1, b1⟩
  have ht := text_c _ _ _ _ _ o1.lst (by omega) (HT.out.below b1)
  rw [val_limbs, HDD.out] at ht
  have ht2 : Calls Tryd.prog 64 #[.slice a1 n1 c1] w1 fun e w' => e = .returned (.string S) ∧ Below w1.heap.size w1 w' := ht.mono (by rintro e w' ⟨rfl, hb⟩; exact ⟨by rw [hS.out], hb⟩)
  have HX := Lib.hid ht2
  have B1 := Lib.hid b1
  clear ht ht2 o1 b1 HA
  go_wp2_with fail
  refine HX.out.mono ?_
  rintro e w2 ⟨rfl, b2⟩
  have B2 := B1.out.trans (b2.mono B1.out.size)
  clear b2 HX
  go_wp2_with fail
  go_ret
  refine ⟨?_, B2⟩
  show Ending.returned (.string (S.extract 1 S.size)) = _
  have e : S.extract 1 S.size = ⟨(low D r).toArray⟩ := by
    rw [HSZ.out, hS.out, ← hL.out]
    apply ByteArray.ext
    rw [ByteArray.data_extract]
    apply Array.ext'
    simp
    exact List.take_of_length_le (Nat.le_of_eq HL.out)
  rw [e]

set_option maxHeartbeats 3200000 in
theorem ftext_c (ao : Option Addr) (n c : Nat) (xs : List Int) (D : Nat) (w : World) (h : Lst .u32 w ao n c xs) (hn : n ≤ 4) (hD : D ≤ 6) (htab : Tab w) :
    Calls Tryd.prog 33 #[.slice ao n c, .int .i64 D] w fun e w' => e = .returned (.string ⟨(ftx (val xs) D).toArray⟩) ∧ Below w.heap.size w w' := by
  have HS := Lib.hid (scale_c D w hD)
  have H := Lib.hid h
  have HT := Lib.hid htab
  have HD6 := hD
  clear h htab hD
  by_cases h0 : D = 0
  · subst h0
    rw [show ftx (val xs) 0 = Lib.decDigits (val xs) from rfl]
    go_enter Tryd.func33, Tryd.ntmps33
    go_wp2_with fail
    refine HS.out.mono ?_
    rintro e w1 ⟨a1, n1, c1, hn1, rfl, o1, b1⟩
    have HX := Lib.hid (text_c ao n c xs w1 (H.out.below b1) (by omega) (HT.out.below b1))
    have B1 := Lib.hid b1
    clear o1 b1 HS
    go_wp2_with fail
    refine HX.out.mono ?_
    rintro e w2 ⟨rfl, b2⟩
    go_wp2_with fail
    go_ret
    exact ⟨rfl, B1.out.trans (b2.mono B1.out.size)⟩
  · have hb : ((D : Int) == 0) = false := by simpa using h0
    have hb2 : decide ((D : Int) = 0) = false := by simpa using h0
    have hp := Lib.hid (Nat.pos_iff_ne_zero.1 (Nat.pow_pos (n := D) (show 0 < 10 by omega)))
    obtain ⟨T, hT⟩ : ∃ T, Hid (T = (⟨(ftx (val xs) D).toArray⟩ : ByteArray)) := ⟨_, rfl⟩
    rw [← hT.out]
    have hq : (limbs (val xs / 10 ^ D)).length ≤ n := by
      rw [← H.out.len]
      exact Nat.le_trans (limbs_len_mono (Nat.div_le_self _ _)) (limbs_val_length H.out.ok)
    obtain ⟨Q, hQ⟩ : ∃ Q, Hid (Q = val xs / 10 ^ D) := ⟨_, rfl⟩
    obtain ⟨R, hR⟩ : ∃ R, Hid (R = val xs % 10 ^ D) := ⟨_, rfl⟩
    rw [← hQ.out] at hq
    have HQL := Lib.hid hq
    have hTT : T = (⟨(Lib.decDigits Q).toArray⟩ : ByteArray) ++ ⟨#[46]⟩ ++ ⟨(low D R).toArray⟩ := by
      rw [hT.out, hQ.out, hR.out, low_mod]
      unfold ftx
      rw [if_neg h0]
      apply ByteArray.ext
      simp
    have HTT := Lib.hid hTT
    have H0 := Lib.hid h0
    clear h0 hq hTT
    go_enter Tryd.func33, Tryd.ntmps33
    go_wp2_with fail
    refine HS.out.mono ?_
    rintro e w1 ⟨a1, n1, c1, hn1, rfl, o1, b1⟩
    have hd := div_c ao a1 n c n1 c1 xs _ w1 (H.out.below b1) o1.lst (by omega) (by rw [val_limbs]; exact hp.out)
    rw [val_limbs, ← hQ.out, ← hR.out] at hd
    have HD := Lib.hid hd
    have O1 := Lib.hid o1; have B1 := Lib.hid b1
    clear o1 b1 hd HS
    go_wp2_with fail
    refine HD.out.mono ?_
    rintro e w2 ⟨a2, n2, c2, a3, n3, c3, rfl, o2, o3, b2⟩
    have hn2 : n2 ≤ 4 := by have := o2.len; have := HQL.out; omega
    have hn3 : n3 ≤ 62 := by
      have h1 := o3.len
      have h2 : (limbs R).length ≤ (limbs (10 ^ D)).length := limbs_len_mono (by rw [hR.out]; exact Nat.le_of_lt (Nat.mod_lt _ (Nat.pos_of_ne_zero hp.out)))
      have h3 := O1.out.len
      omega
    have hdl := dec_len_160 (val_lt_160 o2.len (by omega))
    have hrl : Hid (R < 10 ^ D) := by show R < _; rw [hR.out]; exact Nat.mod_lt _ (Nat.pos_of_ne_zero hp.out)
    have O3 := Lib.hid o3; have O1' := Lib.hid (O1.out.kept b2)
    have B2 := Lib.hid (B1.out.trans (b2.mono B1.out.size))
    have ht := text_c _ _ _ _ w2 o2.lst (by omega) (HT.out.below B2.out)
    rw [val_limbs] at ht
    obtain ⟨S1, hS1⟩ : ∃ S, Hid (S = (⟨(Lib.decDigits Q).toArray⟩ : ByteArray)) := ⟨_, rfl⟩
    have hs1 : S1.size ≤ 49 := by rw [hS1.out]; exact hdl
    rw [← hS1.out] at ht HTT
    have HX := Lib.hid ht
    clear o2 o3 b2 ht hdl HD O1
    go_wp2_with fail
    refine HX.out.mono ?_
    rintro e w3 ⟨rfl, b3⟩
    have B3 := Lib.hid (B2.out.trans (b3.mono B2.out.size))
    have hf := fraction_c a3 a1 n3 c3 n1 c1 R D w3 (O3.out.kept b3).lst (O1'.out.kept b3).lst (by omega) (by omega) hrl.out HD6 (HT.out.below B3.out)
    obtain ⟨S2, hS2⟩ : ∃ S, Hid (S = (⟨(low D R).toArray⟩ : ByteArray)) := ⟨_, rfl⟩
    have hs2 : S2.size ≤ 6 := by rw [hS2.out]; show (low D R).length ≤ 6; rw [low_len]; exact HD6
    rw [← hS2.out] at hf HTT
    have HF := Lib.hid hf
    have hc1 : (S1 ++ (⟨#[46]⟩ : ByteArray)).size = S1.size + 1 := by rw [ByteArray.size_append]; rfl
    clear hf b3 HX
    go_wp2_with fail
    refine HF.out.mono ?_
    rintro e w4 ⟨rfl, b4⟩
    go_wp2_with fail
    go_ret
    exact ⟨by rw [HTT.out]; rfl, B3.out.trans (b4.mono B3.out.size)⟩
end Go.Proofs.YtmojcnlddfijjaaDoor
