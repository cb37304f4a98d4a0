/-
  The walk of NatDecimal.
-/
import Derived.Test.YtbkfahpbmpkkhaaDoorNatDec
import Derived.Test.YtbkfahpbmpkkhaaDoorNatDig
import Derived.Test.YtbkfahpbmpkkhaaDoorNatParse
import Derived.Test.YtbkfahpbmpkkhaaDoorNatSum
namespace Go.Proofs.YtbkfahpbmpkkhaaDoor
open Go.RowKit NatMath

set_option maxHeartbeats 3200000 in
set_option maxRecDepth 100000 in
theorem decimal_c (ao : Option Addr) (n c : Nat) (xs : List Int) (w : World) (h : Lst .u32 w ao n c xs) (htab : Tab w) :
    Calls Tryd.prog 9 #[.slice ao n c] w fun e w' => e = .returned (.bool true) ∧ Below w.heap.size w w' := by
  have HT := Lib.hid htab; clear htab
  go_enter Tryd.func9, Tryd.ntmps9
  go_wp2_with fail
  refine (short_c _ _ _ xs 4 _ h).mono ?_
  rintro e w' ⟨rfl, n1, hn1, rfl, La⟩
  clear h
  obtain ⟨X, hX⟩ : ∃ X, Hid (X = xs.take 4) := ⟨_, rfl⟩
  rw [← hX.out] at La
  have BX := Lib.hid (val_lt_two La.ok La.len hn1)
  obtain ⟨T, hT⟩ : ∃ T : ByteArray, Hid (T = ⟨(Lib.decDigits (val X)).toArray⟩) := ⟨_, rfl⟩
  have ht := text_c ao n1 c X w La (by omega) HT.out
  rw [← hT.out] at ht
  have HTX := Lib.hid ht
  have hTsz : T.size = (Lib.decDigits (val X)).length := by rw [hT.out]; exact dec_size _
  have hT40 : T.size ≤ 39 := by
    rw [hTsz]
    exact dec_len 38 (val X) (Nat.lt_of_lt_of_le BX.out (by decide))
  have hTn : numB T = true := by rw [hT.out]; exact dec_numeral _
  have hTv : numG T 0 T.size = val X := by rw [hTsz, hT.out]; exact dec_num _
  have hTd : DigTo T T.size := by
    by_cases hN : Numeral T
    · exact hN.1
    · rw [numB_false hN] at hTn
      cases hTn
  have hp := fun w0 => parse_c T w0 (by omega) hTn hTd
  rw [hTv] at hp
  have HP := Lib.hid hp
  clear ht hTsz hT40 hTn hTv hTd hp
  go_wp2_with fail
  refine HTX.out.mono ?_
  rintro e w1 ⟨rfl, b1⟩
  have A1 := La.below b1
  have bb1 := b1
  clear b1 La HTX
  go_wp2_with fail
  refine (HP.out w1).mono ?_
  rintro e w2 ⟨a2, n2, c2, hn2, rfl, o2, b2⟩
  have A2 := A1.below b2
  have P2 := o2.lst
  have bb2 := Below.on bb1 b2 bb1.size
  have HA := Lib.hid (awake_c w2 (HT.out.below bb2))
  clear A1 b2 o2 bb1 HP
  go_wp2_with fail
  refine HA.out.mono ?_
  rintro e w3 ⟨rfl, b3⟩
  have A3 := A2.below b3
  have P3 := P2.below b3
  have bb3 := Below.on bb2 b3 bb2.size
  clear A2 P2 b3 bb2 HA
  go_wp2_with fail
  refine (from_c _ _ _ X _ A3 (by omega)).mono ?_
  rintro e w4 ⟨a4, n4, c4, rfl, o4, b4⟩
  have A4 := A3.below b4
  have P4 := P3.below b4
  have hn4 := o4.bound BX.out
  have hdg := digits_c a4 n4 c4 (val X) w4 o4.lst (by omega)
  rw [← hT.out] at hdg
  have HD := Lib.hid hdg
  have bb4 := Below.on bb3 b4 bb3.size
  clear A3 P3 o4 b4 bb3 hdg
  go_wp2_with fail
  refine HD.out.mono ?_
  rintro e w5 ⟨rfl, b5⟩
  have A5 := A4.below b5
  have P5 := P4.below b5
  have bb5 := Below.on bb4 b5 bb4.size
  clear A4 P4 b5 bb4 HD
  go_wp2_with fail
  refine (from_c _ _ _ X _ A5 (by omega)).mono ?_
  rintro e w6 ⟨a6, n6, c6, rfl, o6, b6⟩
  have P6 := P5.below b6
  have hn6 := o6.bound BX.out
  have HI := Lib.hid (is_c _ _ _ _ _ _ _ _ _ P6 o6.lst (by omega) (bval_bitsN _))
  have bb6 := Below.on bb5 b6 bb5.size
  clear A5 P5 o6 b6 bb5
  go_wp2_with fail
  refine HI.out.mono ?_
  rintro e w7 ⟨rfl, b7⟩
  go_wp2_with fail
  go_ret
  exact ⟨rfl, Below.on bb6 b7 bb6.size⟩
end Go.Proofs.YtbkfahpbmpkkhaaDoor
