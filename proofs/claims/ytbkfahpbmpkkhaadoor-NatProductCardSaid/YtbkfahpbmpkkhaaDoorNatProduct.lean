/-
  The walk of NatProduct.
-/
import Derived.Test.YtbkfahpbmpkkhaaDoorNatSum
import Derived.Test.YtbkfahpbmpkkhaaDoorNatRefMul
namespace Go.Proofs.YtbkfahpbmpkkhaaDoor
open Go.RowKit NatMath

theorem mul_lt_two {a b k l : Nat} (ha : a < 2 ^ k) (hb : b < 2 ^ l) : a * b < 2 ^ (k + l) := by rw [Nat.pow_add]; exact Nat.mul_lt_mul'' ha hb

set_option maxHeartbeats 3200000 in
set_option maxRecDepth 100000 in
theorem product_c (ao : Option Addr) (n c : Nat) (xs : List Int) (bo : Option Addr) (m d : Nat) (ys : List Int) (w : World)
    (h : Lst .u32 w ao n c xs) (k : Lst .u32 w bo m d ys) (htab : Tab w) :
    Calls Tryd.prog 4 #[.slice ao n c, .slice bo m d] w fun e w' => e = .returned (.bool true) ∧ Below w.heap.size w w' := by
  have HT := Lib.hid htab; clear htab
  go_enter Tryd.func4, Tryd.ntmps4
  go_wp2_with fail
  refine (short_c _ _ _ xs 4 _ h).mono ?_
  rintro e w' ⟨rfl, n1, hn1, rfl, La⟩
  go_wp2_with fail
  refine (short_c _ _ _ ys 4 _ k).mono ?_
  rintro e w' ⟨rfl, n2, hn2, rfl, Lb⟩
  clear h k
  obtain ⟨X, hX⟩ : ∃ X, Hid (X = xs.take 4) := ⟨_, rfl⟩
  obtain ⟨Y, hY⟩ : ∃ Y, Hid (Y = ys.take 4) := ⟨_, rfl⟩
  rw [← hX.out] at La
  rw [← hY.out] at Lb
  have BX := Lib.hid (val_lt_two La.ok La.len hn1)
  have BY := Lib.hid (val_lt_two Lb.ok Lb.len hn2)
  have BXY : Hid (val X * val Y < 2 ^ (32 * 4 + 32 * 4)) := mul_lt_two BX.out BY.out
  have HA := Lib.hid (awake_c w HT.out)
  go_wp2_with fail
  refine HA.out.mono ?_
  rintro e w1 ⟨rfl, b1⟩
  have A1 := La.below b1; have B1 := Lb.below b1
  have bb1 := b1
  clear b1 La Lb HA
  go_wp2_with fail
  refine (mul_c _ _ _ _ _ _ X Y _ A1 B1 (by omega) (by omega)).mono ?_
  rintro e w2 ⟨a2, l2, c2, rfl, hl2, o2, b2⟩
  have S2 := o2.lst
  have A2 := A1.below b2; have B2 := B1.below b2
  have bb2 := Below.on bb1 b2 bb1.size
  clear o2 b2 A1 B1 bb1
  go_wp2_with fail
  refine (from_c _ _ _ X _ A2 (by omega)).mono ?_
  rintro e w3 ⟨a3, l3, c3, rfl, o3, b3⟩
  have T3 := o3.lst
  have hl3 := o3.bound BX.out
  have B3 := B2.below b3; have S3 := S2.below b3
  have bb3 := Below.on bb2 b3 bb2.size
  clear o3 b3 A2 B2 S2 bb2
  go_wp2_with fail
  refine (from_c _ _ _ Y _ B3 (by omega)).mono ?_
  rintro e w4 ⟨a4, l4, c4, rfl, o4, b4⟩
  have U4 := o4.lst
  have hl4 := o4.bound BY.out
  have T4 := T3.below b4; have S4 := S3.below b4
  have bb4 := Below.on bb3 b4 bb3.size
  clear o4 b4 B3 T3 S3 bb3
  have hm := mulT_c _ _ _ _ _ _ _ _ _ T4 U4 (by omega) (by omega)
  rw [bval_bitsN, bval_bitsN] at hm
  have HM := Lib.hid hm
  clear hm
  go_wp2_with fail
  refine HM.out.mono ?_
  rintro e w5 ⟨a5, l5, c5, rfl, o5, b5⟩
  have hl5 := o5.bound BXY.out
  have R5 := o5.lst
  have S5 := S4.below b5
  have bb5 := Below.on bb4 b5 bb4.size
  clear o5 b5 T4 U4 S4 bb4 HM
  have HI := Lib.hid (is_c _ _ _ _ _ _ _ _ _ S5 R5 (by omega) (bval_bitsN _))
  go_wp2_with fail
  refine HI.out.mono ?_
  rintro e w6 ⟨rfl, b6⟩
  go_wp2_with fail
  go_ret
  exact ⟨rfl, Below.on bb5 b6 bb5.size⟩
end Go.Proofs.YtbkfahpbmpkkhaaDoor
