/-
  The walk of FixedProduct.
-/
import Derived.Test.YtmojcnlddfijjaaDoorFixAwake
namespace Go.Proofs.YtmojcnlddfijjaaDoor
open Go.RowKit NatMath FixMath

set_option maxHeartbeats 3200000 in
set_option maxRecDepth 100000 in
theorem fproduct_c (ao : Option Addr) (n c : Nat) (xs : List Int) (bo : Option Addr) (m d : Nat) (ys : List Int) (x : Int) (w : World) (h : Lst .u32 w ao n c xs) (k : Lst .u32 w bo m d ys) (htab : Tab w) :
    Calls Tryd.prog 4 #[.slice ao n c, .slice bo m d, .int .i64 x] w fun e w' => e = .returned (.bool true) ∧ Below w.heap.size w w' := by
  have HT := Lib.hid htab; clear htab
  go_enter Tryd.func4, Tryd.ntmps4
  go_wp2_with fail
  refine (short_c _ _ _ xs 3 _ h).mono ?_
  rintro e w' ⟨rfl, n1, hn1, rfl, La⟩
  go_wp2_with fail
  refine (short_c _ _ _ ys 3 _ k).mono ?_
  rintro e w' ⟨rfl, n2, hn2, rfl, Lb⟩
  go_wp2_with fail
  refine (in_c x _).mono ?_
  rintro e w' ⟨rfl, D, hD, rfl⟩
  clear h k
  obtain ⟨X, hX⟩ : ∃ X, Hid (X = xs.take 3) := ⟨_, rfl⟩
  obtain ⟨Y, hY⟩ : ∃ Y, Hid (Y = ys.take 3) := ⟨_, rfl⟩
  rw [← hX.out] at La
  rw [← hY.out] at Lb
  have BX := Lib.hid (val_lt_two La.ok La.len hn1)
  have BY := Lib.hid (val_lt_two Lb.ok Lb.len hn2)
  have bb := Below.refl w.heap.size w
  have hb : ∀ up, rnd up (val X * val Y) (10 ^ D) < 2 ^ 193 := fun up => by
    have h1 := rnd_le up (val X * val Y) (10 ^ D)
    have h2 : val X * val Y < 2 ^ (32 * 3 + 32 * 3) := mul_lt_two BX.out BY.out
    have h3 : (2 : Nat) ^ 193 = 2 ^ (32 * 3 + 32 * 3) * 2 := Nat.pow_succ ..
    omega
  have HB := Lib.hid hb
  clear hb
  have HC := Lib.hid (from_c _ _ _ X w La (by omega))
  go_wp2_with fail
  refine HC.out.mono ?_
  rintro e v1 ⟨a3, l3, c3, rfl, o3, k1⟩
  clear HC
  have Tx := o3.lst
  replace La := La.below k1; replace Lb := Lb.below k1
  replace bb := Below.on bb k1 bb.size
  clear k1
  have HC := Lib.hid (from_c _ _ _ Y v1 Lb (by omega))
  go_wp2_with fail
  refine HC.out.mono ?_
  rintro e v2 ⟨a4, l4, c4, rfl, o4, k2⟩
  clear HC
  have Ty := o4.lst
  replace La := La.below k2; replace Lb := Lb.below k2; replace Tx := Tx.below k2
  replace bb := Below.on bb k2 bb.size
  clear k2
  have HC := Lib.hid (fawake_c v2 (HT.out.below bb))
  go_wp2_with fail
  refine HC.out.mono ?_
  rintro e v3 ⟨rfl, k3⟩
  clear HC
  replace La := La.below k3; replace Lb := Lb.below k3; replace Tx := Tx.below k3; replace Ty := Ty.below k3
  replace bb := Below.on bb k3 bb.size
  clear k3
  have HC := Lib.hid (fmul_c _ _ _ _ _ _ X Y D false v3 La Lb (by omega) (by omega) hD)
  go_wp2_with fail
  refine HC.out.mono ?_
  rintro e v4 ⟨a5, l5, c5, hl5, rfl, o5, k4⟩
  clear HC
  have P := o5.lst
  replace La := La.below k4; replace Lb := Lb.below k4; replace Tx := Tx.below k4; replace Ty := Ty.below k4
  replace bb := Below.on bb k4 bb.size
  clear k4
  have HC := Lib.hid (mul3_c _ _ _ _ _ _ (val X) (val Y) 96 D false v4 Tx Ty BX.out BY.out (by omega) (by omega) hD)
  go_wp2_with fail
  refine HC.out.mono ?_
  rintro e v5 ⟨a6, l6, c6, rfl, o6, k5⟩
  clear HC
  have Q := o6.lst
  have hq0 := o6.bound (HB.out false)
  replace La := La.below k5; replace Lb := Lb.below k5; replace Tx := Tx.below k5; replace Ty := Ty.below k5; replace P := P.below k5
  replace bb := Below.on bb k5 bb.size
  clear k5
  have HC := Lib.hid (fis_c _ _ _ _ _ _ _ _ v5 P Q (by omega) (bval_bitsN _))
  clear P Q
  go_wp2_with fail
  refine HC.out.mono ?_
  rintro e v6 ⟨rfl, k6⟩
  clear HC
  replace La := La.below k6; replace Lb := Lb.below k6; replace Tx := Tx.below k6; replace Ty := Ty.below k6
  replace bb := Below.on bb k6 bb.size
  clear k6
  have HC := Lib.hid (fmul_c _ _ _ _ _ _ X Y D true v6 La Lb (by omega) (by omega) hD)
  go_wp2_with fail
  refine HC.out.mono ?_
  rintro e v7 ⟨a9, l9, c9, hl9, rfl, o9, k7⟩
  clear HC
  have P := o9.lst
  replace La := La.below k7; replace Lb := Lb.below k7; replace Tx := Tx.below k7; replace Ty := Ty.below k7
  replace bb := Below.on bb k7 bb.size
  clear k7
  have HC := Lib.hid (mul3_c _ _ _ _ _ _ (val X) (val Y) 96 D true v7 Tx Ty BX.out BY.out (by omega) (by omega) hD)
  go_wp2_with fail
  refine HC.out.mono ?_
  rintro e v8 ⟨a10, l10, c10, rfl, o10, k8⟩
  clear HC
  have Q := o10.lst
  have hq1 := o10.bound (HB.out true)
  replace La := La.below k8; replace Lb := Lb.below k8; replace Tx := Tx.below k8; replace Ty := Ty.below k8; replace P := P.below k8
  replace bb := Below.on bb k8 bb.size
  clear k8
  have HC := Lib.hid (fis_c _ _ _ _ _ _ _ _ v8 P Q (by omega) (bval_bitsN _))
  clear P Q
  go_wp2_with fail
  refine HC.out.mono ?_
  rintro e v9 ⟨rfl, k9⟩
  clear HC
  replace La := La.below k9; replace Lb := Lb.below k9; replace Tx := Tx.below k9; replace Ty := Ty.below k9
  replace bb := Below.on bb k9 bb.size
  clear k9
  go_wp2_with fail
  go_ret
  exact ⟨rfl, bb⟩
end Go.Proofs.YtmojcnlddfijjaaDoor
