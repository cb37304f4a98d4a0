/-
  The walk of NatQuotient.
-/
import Derived.Test.YtgjndondonehhaaDoorNatHelp
import Derived.Test.YtgjndondonehhaaDoorNatDiv
import Derived.Test.YtgjndondonehhaaDoorNatRefDiv
namespace Go.Proofs.YtgjndondonehhaaDoor
open Go.RowKit NatMath

set_option maxHeartbeats 3200000 in
set_option maxRecDepth 100000 in
theorem quotient_c (ao : Option Addr) (n c : Nat) (xs : List Int) (bo : Option Addr) (m d : Nat) (ys : List Int) (w : World)
    (h : Lst .u32 w ao n c xs) (k : Lst .u32 w bo m d ys) (htab : Tab w) :
    Calls Tryd.prog 3 #[.slice ao n c, .slice bo m d] w fun e w' => e = .returned (.bool true) ∧ Below w.heap.size w w' := by
  have HT := Lib.hid htab; clear htab
  go_enter Tryd.func3, Tryd.ntmps3
  go_wp2_with fail
  refine (short_c _ _ _ xs 5 _ h).mono ?_
  rintro e w' ⟨rfl, n1, hn1, rfl, A⟩
  go_wp2_with fail
  refine (short_c _ _ _ ys 5 _ k).mono ?_
  rintro e w' ⟨rfl, n2, hn2, rfl, B⟩
  clear h k
  obtain ⟨X, hX⟩ : ∃ X, Hid (X = xs.take 5) := ⟨_, rfl⟩
  obtain ⟨Y, hY⟩ : ∃ Y, Hid (Y = ys.take 5) := ⟨_, rfl⟩
  rw [← hX.out] at A
  rw [← hY.out] at B
  have BX := Lib.hid (val_lt_two A.ok A.len hn1)
  have BY := Lib.hid (val_lt_two B.ok B.len hn2)
  by_cases hy : val Y = 0
  · have HD := Lib.hid (div_zero_c ao bo n1 c n2 d Y w B hy)
    have hf := from_c bo n2 d Y w B (by omega)
    rw [hy, bitsN_zero] at hf
    have HF := Lib.hid hf
    clear hf hy
    go_wp2_with fail
    refine HD.out.mono ?_
    rintro e w' ⟨rfl, rfl⟩
    go_wp2_with fail
    refine HF.out.mono ?_
    rintro e w1 ⟨a1, l1, c1, rfl, o1, b1⟩
    have hl1 : l1 = 0 := o1.len.symm
    subst hl1
    clear o1 HF HD
    have HA := Lib.hid (awake_c w1 (HT.out.below b1))
    go_wp2_with fail
    refine HA.out.mono ?_
    rintro e w2 ⟨rfl, b2⟩
    go_wp2_with fail
    go_ret
    exact ⟨by simp, Below.on b1 b2 b1.size⟩
  · have hd := div_c ao bo n1 c n2 d X Y w A B (by omega) hy
    have BQ : Hid (val X / val Y < 2 ^ (32 * 5)) := Nat.lt_of_le_of_lt (Nat.div_le_self _ _) BX.out
    have BR : Hid (val X % val Y < 2 ^ (32 * 5)) := Nat.lt_of_le_of_lt (Nat.mod_le _ _) BX.out
    have HY := Lib.hid hy
    obtain ⟨U, hU⟩ : ∃ U, Hid (U = val X / val Y) := ⟨_, rfl⟩
    obtain ⟨R, hR⟩ : ∃ R, Hid (R = val X % val Y) := ⟨_, rfl⟩
    rw [← hU.out, ← hR.out] at hd
    rw [← hU.out] at BQ
    rw [← hR.out] at BR
    have HD := Lib.hid hd
    clear hd hy
    go_wp2_with fail
    refine HD.out.mono ?_
    rintro e w1 ⟨a1, l1, c1, a2, l2, c2, rfl, o1, o2, b1⟩
    have Q := o1.lst
    have S := o2.lst
    replace A := A.below b1
    replace B := B.below b1
    have bb := b1
    clear o1 o2 b1 HD
    go_wp2_with fail
    refine (from_c _ _ _ Y _ B (by omega)).mono ?_
    rintro e w2 ⟨a3, l3, c3, rfl, o3, b2⟩
    have T := o3.lst
    have hl3 := o3.bound BY.out
    have hnz : ((l3 : Int) == 0) = false := by
      have h1 := o3.len
      rw [bitsN_pos HY.out] at h1
      simp at h1 ⊢
      omega
    replace A := A.below b2; replace Q := Q.below b2; replace S := S.below b2
    replace bb := Below.on bb b2 bb.size
    clear o3 b2 B
    go_wp2_with fail
    refine (from_c _ _ _ X _ A (by omega)).mono ?_
    rintro e w3 ⟨a4, l4, c4, rfl, o4, b3⟩
    have V := o4.lst
    have hl4 := o4.bound BX.out
    replace Q := Q.below b3; replace S := S.below b3; replace T := T.below b3
    replace bb := Below.on bb b3 bb.size
    clear o4 b3 A
    have hd := divT_c _ _ _ _ _ _ _ _ w3 V T (by omega) (by omega) (by rw [bval_bitsN]; have := HY.out; omega)
    rw [bval_bitsN, bval_bitsN, ← hU.out, ← hR.out] at hd
    have HD := Lib.hid hd
    clear hd
    go_wp2_with fail
    refine HD.out.mono ?_
    rintro e w4 ⟨a5, l5, c5, a6, l6, c6, rfl, o5, o6, b4⟩
    have hl5 := o5.bound BQ.out
    have hl6 := o6.bound BR.out
    have U' := o5.lst
    have R' := o6.lst
    replace Q := Q.below b4; replace S := S.below b4
    replace bb := Below.on bb b4 bb.size
    clear o5 o6 b4 HD V T
    have HA := Lib.hid (awake_c w4 (HT.out.below bb))
    go_wp2_with fail
    refine HA.out.mono ?_
    rintro e w5 ⟨rfl, b5⟩
    replace Q := Q.below b5; replace S := S.below b5; replace U' := U'.below b5; replace R' := R'.below b5
    replace bb := Below.on bb b5 bb.size
    clear b5 HA
    have HI := Lib.hid (is_c _ _ _ _ _ _ _ _ _ Q U' (by omega) (bval_bitsN _))
    go_wp2_with fail
    refine HI.out.mono ?_
    rintro e w6 ⟨rfl, b6⟩
    replace S := S.below b6; replace R' := R'.below b6
    replace bb := Below.on bb b6 bb.size
    clear b6 HI Q U'
    have HI := Lib.hid (is_c _ _ _ _ _ _ _ _ _ S R' (by omega) (bval_bitsN _))
    go_wp2_with fail
    refine HI.out.mono ?_
    rintro e w7 ⟨rfl, b7⟩
    replace bb := Below.on bb b7 bb.size
    clear HI
    go_wp2_with fail
    go_ret
    exact ⟨by simp, bb⟩
end Go.Proofs.YtgjndondonehhaaDoor
