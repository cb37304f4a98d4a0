/-
  The walk of NatInverse.
-/
import Derived.Test.YtgjndondonehhaaDoorNatHelp
import Derived.Test.YtgjndondonehhaaDoorNatDiv
namespace Go.Proofs.YtgjndondonehhaaDoor
open Go.RowKit NatMath

set_option maxHeartbeats 3200000 in
set_option maxRecDepth 100000 in
theorem inverse_c (ao : Option Addr) (n c : Nat) (xs : List Int) (bo : Option Addr) (m d : Nat) (ys : List Int) (co : Option Addr) (l f : Nat) (zs : List Int) (w : World)
    (h : Lst .u32 w ao n c xs) (k : Lst .u32 w bo m d ys) (g : Lst .u32 w co l f zs) (htab : Tab w) :
    Calls Tryd.prog 4 #[.slice ao n c, .slice bo m d, .slice co l f] w fun e w' => e = .returned (.bool true) ∧ Below w.heap.size w w' := by
  have HT := Lib.hid htab; clear htab
  go_enter Tryd.func4, Tryd.ntmps4
  go_wp2_with fail
  refine (short_c _ _ _ xs 6 _ h).mono ?_
  rintro e w' ⟨rfl, n1, hn1, rfl, A⟩
  go_wp2_with fail
  refine (short_c _ _ _ ys 6 _ k).mono ?_
  rintro e w' ⟨rfl, n2, hn2, rfl, B⟩
  go_wp2_with fail
  refine (short_c _ _ _ zs 6 _ g).mono ?_
  rintro e w' ⟨rfl, n3, hn3, rfl, C⟩
  clear h k g
  obtain ⟨X, hX⟩ : ∃ X, Hid (X = xs.take 6) := ⟨_, rfl⟩
  obtain ⟨Y, hY⟩ : ∃ Y, Hid (Y = ys.take 6) := ⟨_, rfl⟩
  obtain ⟨Z, hZ⟩ : ∃ Z, Hid (Z = zs.take 6) := ⟨_, rfl⟩
  rw [← hX.out] at A
  rw [← hY.out] at B
  rw [← hZ.out] at C
  have hcm := cmp_c co bo n3 f n2 d Z Y w C B
  by_cases hlt : val Z < val Y
  · have hcv : cmpI (val Z : Int) (val Y : Int) = -1 := by unfold cmpI; rw [if_pos (by omega)]
    rw [hcv] at hcm
    have HC := Lib.hid hcm
    have HLT := Lib.hid hlt
    clear hcm hcv hlt
    go_wp2_with fail
    refine HC.out.mono ?_
    rintro e w' ⟨rfl, q, rfl⟩
    replace A := A.drewN q; replace B := B.drewN q; replace C := C.drewN q
    have bb := below_drewN (Below.refl w.heap.size w) q
    clear HC
    go_wp2_with fail
    refine (mul_c _ _ _ _ _ _ X Y _ A B (by omega) (by omega)).mono ?_
    rintro e w1 ⟨a1, l1, c1, rfl, hl1, o1, b1⟩
    have P := o1.lst
    replace A := A.below b1; replace B := B.below b1; replace C := C.below b1
    replace bb := Below.on bb b1 bb.size
    clear o1 b1
    have had := add_c _ _ _ _ _ _ (limbs (val X * val Y)) Z w1 P C (by omega) (by omega)
    rw [val_limbs] at had
    have HAD := Lib.hid had
    clear had
    go_wp2_with fail
    refine HAD.out.mono ?_
    rintro e w2 ⟨a2, l2, c2, rfl, hl2, o2, b2⟩
    have S := o2.lst
    replace A := A.below b2; replace B := B.below b2; replace C := C.below b2
    replace bb := Below.on bb b2 bb.size
    clear o2 b2 P HAD
    have hd := div_c _ _ _ _ _ _ (limbs (val X * val Y + val Z)) Y w2 S B (by omega) (by have := HLT.out; omega)
    rw [val_limbs, show (val X * val Y + val Z) / val Y = val X by rw [Nat.mul_comm, Nat.mul_add_div (by have := HLT.out; omega), Nat.div_eq_of_lt HLT.out, Nat.add_zero],
      show (val X * val Y + val Z) % val Y = val Z by rw [Nat.mul_comm, Nat.mul_add_mod, Nat.mod_eq_of_lt HLT.out]] at hd
    have HD := Lib.hid hd
    clear hd
    go_wp2_with fail
    refine HD.out.mono ?_
    rintro e w3 ⟨a3, l3, c3, a4, l4, c4, rfl, o3, o4, b3⟩
    have Q := o3.lst; have R := o4.lst
    replace A := A.below b3; replace C := C.below b3
    replace bb := Below.on bb b3 bb.size
    clear o3 o4 b3 S B HD
    have HA := Lib.hid (awake_c w3 (HT.out.below bb))
    go_wp2_with fail
    refine HA.out.mono ?_
    rintro e w4 ⟨rfl, b4⟩
    replace A := A.below b4; replace C := C.below b4; replace Q := Q.below b4; replace R := R.below b4
    replace bb := Below.on bb b4 bb.size
    clear b4 HA
    have hk := cmp_c _ _ _ _ _ _ (limbs (val X)) X w4 Q A
    rw [val_limbs, cmpI_self] at hk
    have HK := Lib.hid hk
    clear hk
    go_wp2_with fail
    refine HK.out.mono ?_
    rintro e w' ⟨rfl, q5, rfl⟩
    replace C := C.drewN q5; replace R := R.drewN q5
    replace bb := below_drewN bb q5
    clear HK Q A
    have hk := cmp_c _ _ _ _ _ _ (limbs (val Z)) Z _ R C
    rw [val_limbs, cmpI_self] at hk
    have HK := Lib.hid hk
    clear hk
    go_wp2_with fail
    refine HK.out.mono ?_
    rintro e w' ⟨rfl, q6, rfl⟩
    replace bb := below_drewN bb q6
    rw [World.drewN_drewN] at bb
    go_wp2_with fail
    go_ret
    exact ⟨by simp, bb⟩
  · have hcv : 0 ≤ cmpI (val Z : Int) (val Y : Int) := by unfold cmpI; rw [if_neg (by omega)]; split <;> omega
    obtain ⟨t, ht⟩ : ∃ t, Hid (t = cmpI (val Z : Int) (val Y : Int)) := ⟨_, rfl⟩
    rw [← ht.out] at hcm hcv
    have hd0 : decide (0 ≤ t) = true := by simpa using hcv
    have HC := Lib.hid hcm
    clear hcm hlt
    go_wp2_with fail
    refine HC.out.mono ?_
    rintro e w' ⟨rfl, q, rfl⟩
    have bb := below_drewN (Below.refl w.heap.size w) q
    clear HC A B C
    have HA := Lib.hid (awake_c (w.drewN q) (HT.out.below bb))
    go_wp2_with fail
    refine HA.out.mono ?_
    rintro e w1 ⟨rfl, b1⟩
    replace bb := Below.on bb b1 bb.size
    go_wp2_with fail
    go_ret
    exact ⟨rfl, bb⟩
end Go.Proofs.YtgjndondonehhaaDoor
