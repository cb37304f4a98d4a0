/-
  The walk of NatCommon.
-/
import Derived.Test.YtgjndondonehhaaDoorNatHelp
import Derived.Test.YtgjndondonehhaaDoorNatGcdN
import Derived.Test.YtgjndondonehhaaDoorNatRefGcd
namespace Go.Proofs.YtgjndondonehhaaDoor
open Go.RowKit NatMath

theorem gcd_lt_two {a b k : Nat} (ha : a < 2 ^ k) (hb : b < 2 ^ k) : Nat.gcd a b < 2 ^ k := by
  rcases Nat.eq_zero_or_pos a with h | h
  · subst h; rw [Nat.gcd_zero_left]; exact hb
  · exact Nat.lt_of_le_of_lt (Nat.gcd_le_left b h) ha

set_option maxHeartbeats 3200000 in
set_option maxRecDepth 100000 in
theorem common_c (ao : Option Addr) (n c : Nat) (xs : List Int) (bo : Option Addr) (m d : Nat) (ys : List Int) (w : World)
    (h : Lst .u32 w ao n c xs) (k : Lst .u32 w bo m d ys) (htab : Tab w) :
    Calls Tryd.prog 5 #[.slice ao n c, .slice bo m d] w fun e w' => e = .returned (.bool true) ∧ Below w.heap.size w w' := by
  have HT := Lib.hid htab; clear htab
  go_enter Tryd.func5, Tryd.ntmps5
  go_wp2_with fail
  refine (short_c _ _ _ xs 3 _ h).mono ?_
  rintro e w' ⟨rfl, n1, hn1, rfl, A⟩
  go_wp2_with fail
  refine (short_c _ _ _ ys 3 _ k).mono ?_
  rintro e w' ⟨rfl, n2, hn2, rfl, B⟩
  clear h k
  obtain ⟨X, hX⟩ : ∃ X, Hid (X = xs.take 3) := ⟨_, rfl⟩
  obtain ⟨Y, hY⟩ : ∃ Y, Hid (Y = ys.take 3) := ⟨_, rfl⟩
  rw [← hX.out] at A
  rw [← hY.out] at B
  have BX := Lib.hid (val_lt_two A.ok A.len hn1)
  have BY := Lib.hid (val_lt_two B.ok B.len hn2)
  have BG := Lib.hid (gcd_lt_two BX.out BY.out)
  have HA := Lib.hid (awake_c w HT.out)
  go_wp2_with fail
  refine HA.out.mono ?_
  rintro e w1 ⟨rfl, b1⟩
  replace A := A.below b1; replace B := B.below b1
  have bb := b1
  clear b1 HA
  have HG := Lib.hid (gcd_c _ _ _ _ _ _ X Y w1 A B (by omega) (by omega))
  go_wp2_with fail
  refine HG.out.mono ?_
  rintro e w2 ⟨a2, l2, c2, rfl, o2, b2⟩
  have Q := o2.lst
  replace A := A.below b2; replace B := B.below b2
  replace bb := Below.on bb b2 bb.size
  clear o2 b2 HG
  go_wp2_with fail
  refine (from_c _ _ _ X _ A (by omega)).mono ?_
  rintro e w3 ⟨a3, l3, c3, rfl, o3, b3⟩
  have T := o3.lst
  have hl3 := o3.bound BX.out
  replace B := B.below b3; replace Q := Q.below b3
  replace bb := Below.on bb b3 bb.size
  clear o3 b3 A
  go_wp2_with fail
  refine (from_c _ _ _ Y _ B (by omega)).mono ?_
  rintro e w4 ⟨a4, l4, c4, rfl, o4, b4⟩
  have U := o4.lst
  have hl4 := o4.bound BY.out
  replace T := T.below b4; replace Q := Q.below b4
  replace bb := Below.on bb b4 bb.size
  clear o4 b4 B
  have HG := Lib.hid (gcdT_c _ _ _ _ _ _ _ _ w4 T U (by omega) (by omega))
  go_wp2_with fail
  refine HG.out.mono ?_
  rintro e w5 ⟨a5, l5, c5, rfl, o5, b5⟩
  have hl5 := o5.bound BG.out
  have R := o5.lst
  replace Q := Q.below b5
  replace bb := Below.on bb b5 bb.size
  clear o5 b5 HG T U
  have HI := Lib.hid (is_c _ _ _ _ _ _ _ _ _ Q R (by omega) (bval_bitsN _))
  go_wp2_with fail
  refine HI.out.mono ?_
  rintro e w6 ⟨rfl, b6⟩
  replace bb := Below.on bb b6 bb.size
  clear b6 HI
  go_wp2_with fail
  go_ret
  exact ⟨by simp, bb⟩
end Go.Proofs.YtgjndondonehhaaDoor
