/-
  The walk of FixedQuotient.
-/
import Derived.Test.YtmojcnlddfijjaaDoorFixAwake
namespace Go.Proofs.YtmojcnlddfijjaaDoor
open Go.RowKit NatMath FixMath

set_option maxHeartbeats 3200000 in
set_option maxRecDepth 100000 in
theorem fquotient_c (ao : Option Addr) (n c : Nat) (xs : List Int) (bo : Option Addr) (m d : Nat) (ys : List Int) (x : Int) (w : World) (h : Lst .u32 w ao n c xs) (k : Lst .u32 w bo m d ys) (htab : Tab w) :
    Calls Tryd.prog 5 #[.slice ao n c, .slice bo m d, .int .i64 x] w fun e w' => e = .returned (.bool true) ∧ Below w.heap.size w w' := by
  have HT := Lib.hid htab; clear htab
  go_enter Tryd.func5, Tryd.ntmps5
  go_wp2_with fail
  refine (short_c _ _ _ xs 3 _ h).mono ?_
  rintro e w' ⟨rfl, n1, hn1, rfl, La⟩
  go_wp2_with fail
  refine (short_c _ _ _ ys 3 _ k).mono ?_
  rintro e w' ⟨rfl, n2, hn2, rfl, Lb⟩
  go_wp2_with fail
  refine (in_c x _).mono ?_
  rintro e w' ⟨rfl, D, hD, rfl⟩
  clear h k
  obtain ⟨X, hX⟩ : ∃ X, Hid (X = xs.take 3) := ⟨_, rfl⟩
  obtain ⟨Y, hY⟩ : ∃ Y, Hid (Y = ys.take 3) := ⟨_, rfl⟩
  rw [← hX.out] at La
  rw [← hY.out] at Lb
  have BX := Lib.hid (val_lt_two La.ok La.len hn1)
  have BY := Lib.hid (val_lt_two Lb.ok Lb.len hn2)
  have bb := Below.refl w.heap.size w
  have HC := Lib.hid (from_c _ _ _ X w La (by omega))
  go_wp2_with fail
  refine HC.out.mono ?_
  rintro e v1 ⟨a3, l3, c3, rfl, o3, k1⟩
  clear HC
  have Tx := o3.lst
  replace La := La.below k1; replace Lb := Lb.below k1
  replace bb := Below.on bb k1 bb.size
  clear k1
  have HC := Lib.hid (from_c _ _ _ Y v1 Lb (by omega))
  go_wp2_with fail
  refine HC.out.mono ?_
  rintro e v2 ⟨a4, l4, c4, rfl, o4, k2⟩
  clear HC
  have Ty := o4.lst
  have hl4 := o4.len
  have HL4 := Lib.hid hl4
  clear hl4
  replace La := La.below k2; replace Lb := Lb.below k2; replace Tx := Tx.below k2
  replace bb := Below.on bb k2 bb.size
  clear k2
  by_cases hy0 : val Y = 0
  · skip
    have hl0 : l4 = 0 := by rw [← HL4.out, hy0, bitsN_zero]; rfl
    have HY := Lib.hid hy0
    subst hl0
    clear hy0 HL4
    have HC := Lib.hid (fdiv_zero_c _ _ _ _ _ _ X Y D false v2 La Lb (by omega) hD HY.out)
    go_wp2_with fail
    refine HC.out.mono ?_
    rintro e v3 ⟨rfl, k3⟩
    clear HC
    replace La := La.below k3; replace Lb := Lb.below k3; replace Tx := Tx.below k3; replace Ty := Ty.below k3
    replace bb := Below.on bb k3 bb.size
    clear k3
    have HC := Lib.hid (fdiv_zero_c _ _ _ _ _ _ X Y D true v3 La Lb (by omega) hD HY.out)
    go_wp2_with fail
    refine HC.out.mono ?_
    rintro e v4 ⟨rfl, k4⟩
    clear HC
    replace La := La.below k4; replace Lb := Lb.below k4; replace Tx := Tx.below k4; replace Ty := Ty.below k4
    replace bb := Below.on bb k4 bb.size
    clear k4
    have HC := Lib.hid (fawake_c v4 (HT.out.below bb))
    go_wp2_with fail
    refine HC.out.mono ?_
    rintro e v5 ⟨rfl, k5⟩
    clear HC
    replace La := La.below k5; replace Lb := Lb.below k5; replace Tx := Tx.below k5; replace Ty := Ty.below k5
    replace bb := Below.on bb k5 bb.size
    clear k5
    go_wp2_with fail
    go_ret
    exact ⟨rfl, bb⟩
  · skip
    have hl0 : 0 < l4 := by rw [← HL4.out, bitsN_pos hy0]; simp
    have hlb : ((l4 : Int) == 0) = false := by simp; omega
    have HY := Lib.hid hy0
    have hb : ∀ up, rnd up (val X * 10 ^ D) (val Y) < 2 ^ 200 := fun up => by
      have h1 := rnd_le up (val X * 10 ^ D) (val Y)
      have h2 : val X * 10 ^ D < 2 ^ (32 * 3 + 20) := mul_lt_two BX.out (ten_lt hD)
      have h3 : (2 : Nat) ^ (32 * 3 + 20) * 2 ≤ 2 ^ 200 := by rw [← Nat.pow_succ]; exact Nat.pow_le_pow_right (by omega) (by omega)
      omega
    have HB := Lib.hid hb
    have HY0 := Lib.hid (Nat.pos_of_ne_zero hy0)
    clear hy0 HL4 hb
    have HC := Lib.hid (fdiv_c _ _ _ _ _ _ X Y D false v2 La Lb (by omega) hD HY.out)
    go_wp2_with fail
    refine HC.out.mono ?_
    rintro e v3 ⟨a5, l5, c5, hl5, rfl, o5, k3⟩
    clear HC
    have P := o5.lst
    replace La := La.below k3; replace Lb := Lb.below k3; replace Tx := Tx.below k3; replace Ty := Ty.below k3
    replace bb := Below.on bb k3 bb.size
    clear k3
    have HC := Lib.hid (fdiv_c _ _ _ _ _ _ X Y D true v3 La Lb (by omega) hD HY.out)
    clear La Lb
    go_wp2_with fail
    refine HC.out.mono ?_
    rintro e v4 ⟨a6, l6, c6, hl6, rfl, o6, k4⟩
    clear HC
    have Q := o6.lst
    replace Tx := Tx.below k4; replace Ty := Ty.below k4; replace P := P.below k4
    replace bb := Below.on bb k4 bb.size
    clear k4
    have HC := Lib.hid (fawake_c v4 (HT.out.below bb))
    go_wp2_with fail
    refine HC.out.mono ?_
    rintro e v5 ⟨rfl, k5⟩
    clear HC
    replace Tx := Tx.below k5; replace Ty := Ty.below k5; replace P := P.below k5; replace Q := Q.below k5
    replace bb := Below.on bb k5 bb.size
    clear k5
    have HC := Lib.hid (div3_c _ _ _ _ _ _ (val X) (val Y) 96 D false v5 Tx Ty BX.out BY.out (by omega) (by omega) hD HY0.out)
    go_wp2_with fail
    refine HC.out.mono ?_
    rintro e v6 ⟨a7, l7, c7, rfl, o7, k6⟩
    clear HC
    have R := o7.lst
    have hq7 := o7.bound (HB.out false)
    replace Tx := Tx.below k6; replace Ty := Ty.below k6; replace P := P.below k6; replace Q := Q.below k6
    replace bb := Below.on bb k6 bb.size
    clear k6
    have HC := Lib.hid (fis_c _ _ _ _ _ _ _ _ v6 P R (by omega) (bval_bitsN _))
    clear P R
    go_wp2_with fail
    refine HC.out.mono ?_
    rintro e v7 ⟨rfl, k7⟩
    clear HC
    replace Tx := Tx.below k7; replace Ty := Ty.below k7; replace Q := Q.below k7
    replace bb := Below.on bb k7 bb.size
    clear k7
    have HC := Lib.hid (div3_c _ _ _ _ _ _ (val X) (val Y) 96 D true v7 Tx Ty BX.out BY.out (by omega) (by omega) hD HY0.out)
    go_wp2_with fail
    refine HC.out.mono ?_
    rintro e v8 ⟨a8, l8, c8, rfl, o8, k8⟩
    clear HC
    have S := o8.lst
    have hq8 := o8.bound (HB.out true)
    replace Tx := Tx.below k8; replace Ty := Ty.below k8; replace Q := Q.below k8
    replace bb := Below.on bb k8 bb.size
    clear k8
    have HC := Lib.hid (fis_c _ _ _ _ _ _ _ _ v8 Q S (by omega) (bval_bitsN _))
    clear Q S
    go_wp2_with fail
    refine HC.out.mono ?_
    rintro e v9 ⟨rfl, k9⟩
    clear HC
    replace Tx := Tx.below k9; replace Ty := Ty.below k9
    replace bb := Below.on bb k9 bb.size
    clear k9
    go_wp2_with fail
    go_ret
    exact ⟨rfl, bb⟩
end Go.Proofs.YtmojcnlddfijjaaDoor
