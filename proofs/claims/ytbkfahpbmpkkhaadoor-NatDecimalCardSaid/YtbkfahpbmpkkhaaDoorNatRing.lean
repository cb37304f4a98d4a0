/-
  The walk of NatRing.
-/
import Derived.Test.YtbkfahpbmpkkhaaDoorNatAwake
import Derived.Test.YtbkfahpbmpkkhaaDoorNatMul
namespace Go.Proofs.YtbkfahpbmpkkhaaDoor
open Go.RowKit NatMath

/-- Eq of two equal lists. -/
theorem eq_same (ao bo : Option Addr) (n c m d : Nat) (xs ys : List Int) (w : World) (h : Lst .u32 w ao n c xs) (k : Lst .u32 w bo m d ys) (he : xs = ys) :
    Calls Tryd.prog 28 #[.slice ao n c, .slice bo m d] w fun e w' => e = .returned (.bool true) ∧ ∃ q, w.drewN q = w' := by
  have := eq_c ao bo n c m d xs ys w h k
  rw [he] at this
  simpa using this

set_option maxHeartbeats 1600000 in
set_option maxRecDepth 100000 in
theorem ring_c (ao : Option Addr) (n c : Nat) (xs : List Int) (bo : Option Addr) (m d : Nat) (ys : List Int) (co : Option Addr) (l f : Nat) (zs : List Int) (w : World)
    (h : Lst .u32 w ao n c xs) (k : Lst .u32 w bo m d ys) (g : Lst .u32 w co l f zs) (htab : Tab w) :
    Calls Tryd.prog 7 #[.slice ao n c, .slice bo m d, .slice co l f] w fun e w' => e = .returned (.bool true) ∧ Below w.heap.size w w' := by
  have HT := Lib.hid htab; clear htab
  go_enter Tryd.func7, Tryd.ntmps7
  go_wp2_with fail
  refine (short_c _ _ _ xs 8 _ h).mono ?_
  rintro e w' ⟨rfl, n1, hn1, rfl, La⟩
  go_wp2_with fail
  refine (short_c _ _ _ ys 8 _ k).mono ?_
  rintro e w' ⟨rfl, n2, hn2, rfl, Lb⟩
  go_wp2_with fail
  refine (short_c _ _ _ zs 8 _ g).mono ?_
  rintro e w' ⟨rfl, n3, hn3, rfl, Lc⟩
  clear h k g
  obtain ⟨X, hX⟩ : ∃ X, Hid (X = xs.take 8) := ⟨_, rfl⟩
  obtain ⟨Y, hY⟩ : ∃ Y, Hid (Y = ys.take 8) := ⟨_, rfl⟩
  obtain ⟨Z, hZ⟩ : ∃ Z, Hid (Z = zs.take 8) := ⟨_, rfl⟩
  rw [← hX.out] at La
  rw [← hY.out] at Lb
  rw [← hZ.out] at Lc
  -- b + c
  go_wp2_with fail
  refine (add_c _ _ _ _ _ _ Y Z _ Lb Lc (by omega) (by omega)).mono ?_
  rintro e w1 ⟨a1, l1, c1, rfl, hl1, o1, b1⟩
  have L1 := o1.lst
  have A1 := La.below b1; have B1 := Lb.below b1; have C1 := Lc.below b1
  have bb1 := b1
  clear o1 b1 La Lb Lc
  -- a * (b + c)
  go_wp2_with fail
  refine (mul_c _ _ _ _ _ _ X _ _ A1 L1 (by omega) (by omega)).mono ?_
  rintro e w2 ⟨a2, l2, c2, rfl, hl2, o2, b2⟩
  rw [val_limbs] at o2
  have L2 := o2.lst
  have A2 := A1.below b2; have B2 := B1.below b2; have C2 := C1.below b2
  have bb2 := Below.on bb1 b2 bb1.size
  clear o2 b2 A1 B1 C1 L1 bb1
  -- a * b
  go_wp2_with fail
  refine (mul_c _ _ _ _ _ _ X Y _ A2 B2 (by omega) (by omega)).mono ?_
  rintro e w3 ⟨a3, l3, c3, rfl, hl3, o3, b3⟩
  have L3 := o3.lst
  have A3 := A2.below b3; have B3 := B2.below b3; have C3 := C2.below b3; have P3 := L2.below b3
  have bb3 := Below.on bb2 b3 bb2.size
  clear o3 b3 A2 B2 C2 L2 bb2
  -- c * a
  go_wp2_with fail
  refine (mul_c _ _ _ _ _ _ Z X _ C3 A3 (by omega) (by omega)).mono ?_
  rintro e w4 ⟨a4, l4, c4, rfl, hl4, o4, b4⟩
  have L4 := o4.lst
  have A4 := A3.below b4; have B4 := B3.below b4; have P4 := P3.below b4; have Q4 := L3.below b4
  have bb4 := Below.on bb3 b4 bb3.size
  clear o4 b4 A3 B3 C3 P3 L3 bb3
  -- their sum
  go_wp2_with fail
  refine (add_c _ _ _ _ _ _ _ _ _ Q4 L4 (by omega) (by omega)).mono ?_
  rintro e w5 ⟨a5, l5, c5, rfl, hl5, o5, b5⟩
  rw [val_limbs, val_limbs] at o5
  have L5 := o5.lst
  have A5 := A4.below b5; have B5 := B4.below b5; have P5 := P4.below b5
  have bb5 := Below.on bb4 b5 bb4.size
  clear o5 b5 A4 B4 P4 Q4 L4 bb4
  have ht5 : Tab w5 := HT.out.below bb5
  have HA := Lib.hid (awake_c w5 ht5)
  clear ht5
  go_wp2_with fail
  refine HA.out.mono ?_
  rintro e w6 ⟨rfl, b6⟩
  have A6 := A5.below b6; have B6 := B5.below b6; have P6 := P5.below b6; have Q6 := L5.below b6
  have bb6 := Below.on bb5 b6 bb5.size
  clear b6 A5 B5 P5 L5 bb5 HA
  have hv : limbs (val X * (val Y + val Z)) = limbs (val X * val Y + val Z * val X) := by rw [Nat.mul_add, Nat.mul_comm (val Z)]
  have HE := Lib.hid (eq_same _ _ _ _ _ _ _ _ _ P6 Q6 hv)
  clear hv
  go_wp2_with fail
  refine HE.out.mono ?_
  rintro e w' ⟨rfl, q, rfl⟩
  have A7 := A6.drewN q; have B7 := B6.drewN q
  have bb7 := below_drewN bb6 q
  clear A6 B6 P6 Q6 bb6 HE
  go_wp2_with fail
  refine (mul_c _ _ _ _ _ _ X Y _ A7 B7 (by omega) (by omega)).mono ?_
  rintro e w8 ⟨a8, l8, c8, rfl, hl8, o8, b8⟩
  have L8 := o8.lst
  have A8 := A7.below b8; have B8 := B7.below b8
  have bb8 := Below.on bb7 b8 bb7.size
  clear o8 b8 A7 B7 bb7
  go_wp2_with fail
  refine (mul_c _ _ _ _ _ _ Y X _ B8 A8 (by omega) (by omega)).mono ?_
  rintro e w9 ⟨a9, l9, c9, rfl, hl9, o9, b9⟩
  have L9 := o9.lst
  have P9 := L8.below b9
  have bb9 := Below.on bb8 b9 bb8.size
  clear o9 b9 A8 B8 bb8 L8
  have hv : limbs (val X * val Y) = limbs (val Y * val X) := by rw [Nat.mul_comm]
  have HE := Lib.hid (eq_same _ _ _ _ _ _ _ _ _ P9 L9 hv)
  clear hv
  go_wp2_with fail
  refine HE.out.mono ?_
  rintro e w' ⟨rfl, q9, rfl⟩
  go_wp2_with fail
  go_ret
  exact ⟨rfl, below_drewN bb9 q9⟩
end Go.Proofs.YtbkfahpbmpkkhaaDoor
