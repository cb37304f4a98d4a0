/-
  electionlaw03.Awake.
-/
import Derived.Test.YtmojcnlddfijjaaDoorFixText
import Derived.Test.YtmojcnlddfijjaaDoorFixRef
namespace Go.Proofs.YtmojcnlddfijjaaDoor
open Go.RowKit NatMath FixMath

set_option maxHeartbeats 3200000 in
set_option maxRecDepth 100000 in
theorem fawake_c (w : World) (htab : Tab w) :
    Calls Tryd.prog 21 #[] w fun e w' => e = .returned (.bool true) ∧ Below w.heap.size w w' := by
  have e1 : rnd true (Int.toNat 1 * 10 ^ 2 * 10 ^ 2) (Int.toNat 3 * 10 ^ 2) = 34 := by decide
  have e2 : rnd false (34 * 34) (10 ^ 2) = 11 := by decide
  have t1 : (⟨(ftx 34 2).toArray⟩ : ByteArray) = ⟨#[48, 46, 51, 52]⟩ := by
    unfold ftx
    rw [if_neg (by decide), show 34 / 10 ^ 2 = 0 by decide, dec_small (by decide)]
    rfl
  have t2 : (⟨(ftx 11 2).toArray⟩ : ByteArray) = ⟨#[48, 46, 49, 49]⟩ := by
    unfold ftx
    rw [if_neg (by decide), show 11 / 10 ^ 2 = 0 by decide, dec_small (by decide)]
    rfl
  have E1 := Lib.hid e1; have E2 := Lib.hid e2; have T1 := Lib.hid t1; have T2 := Lib.hid t2
  have HT := Lib.hid htab
  clear e1 e2 t1 t2 htab
  have bb := Below.refl w.heap.size w
  go_enter Tryd.func21, Tryd.ntmps21
  have HC := Lib.hid (fof_c 1 2 w (by omega) (by omega) (by omega))
  go_wp2_with fail
  refine HC.out.mono ?_
  rintro e v1 ⟨a1, n1, c1, hn1, rfl, o1, k1⟩
  clear HC
  have L1 := o1.lst
  replace bb := Below.on bb k1 bb.size
  clear k1
  have HC := Lib.hid (fof_c 3 2 v1 (by omega) (by omega) (by omega))
  go_wp2_with fail
  refine HC.out.mono ?_
  rintro e v2 ⟨a2, n2, c2, hn2, rfl, o2, k2⟩
  clear HC
  have L2 := o2.lst
  replace L1 := L1.below k2
  replace bb := Below.on bb k2 bb.size
  clear k2
  have hd := fdiv_c _ _ _ _ _ _ _ _ 2 true v2 L1 L2 (by omega) (by omega) (by rw [val_limbs]; decide)
  rw [val_limbs, val_limbs, E1.out] at hd
  have HC := Lib.hid (hd)
  clear L1 L2
  go_wp2_with fail
  refine HC.out.mono ?_
  rintro e v3 ⟨a3, n3, c3, hn3, rfl, o3, k3⟩
  clear HC
  have L3 := o3.lst
  replace bb := Below.on bb k3 bb.size
  clear k3
  clear hd
  have hn3b : n3 ≤ 1 := by rw [← o3.len, limbs_pos (by decide), show 34 / 4294967296 = 0 by decide, limbs_zero]; decide
  have ht := ftext_c _ _ _ _ 2 v3 L3 (by omega) (by omega) (HT.out.below bb)
  rw [val_limbs, T1.out] at ht
  have HC := Lib.hid (ht)
  go_wp2_with fail
  refine HC.out.mono ?_
  rintro e v4 ⟨rfl, k4⟩
  clear HC
  replace L3 := L3.below k4
  replace bb := Below.on bb k4 bb.size
  clear k4
  clear ht
  have hm := fmul_c _ _ _ _ _ _ _ _ 2 false v4 L3 L3 (by omega) (by omega) (by omega)
  rw [val_limbs, E2.out] at hm
  have HC := Lib.hid (hm)
  clear L3
  go_wp2_with fail
  refine HC.out.mono ?_
  rintro e v5 ⟨a5, n5, c5, hn5, rfl, o5, k5⟩
  clear HC
  have L5 := o5.lst
  replace bb := Below.on bb k5 bb.size
  clear k5
  clear hm
  have hn5b : n5 ≤ 1 := by rw [← o5.len, limbs_pos (by decide), show 11 / 4294967296 = 0 by decide, limbs_zero]; decide
  have ht := ftext_c _ _ _ _ 2 v5 L5 (by omega) (by omega) (HT.out.below bb)
  rw [val_limbs, T2.out] at ht
  have HC := Lib.hid (ht)
  go_wp2_with fail
  refine HC.out.mono ?_
  rintro e v6 ⟨rfl, k6⟩
  clear HC
  replace L5 := L5.below k6
  replace bb := Below.on bb k6 bb.size
  clear k6
  clear ht
  go_wp2_with fail
  go_ret
  exact ⟨rfl, bb⟩
end Go.Proofs.YtmojcnlddfijjaaDoor
