/-
  The walk of FixedRatio.
-/
import Derived.Test.YtmojcnlddfijjaaDoorFixRef
import Derived.Test.YtmojcnlddfijjaaDoorFixNo
import Derived.Test.YtmojcnlddfijjaaDoorRatEq
import Derived.Test.YtmojcnlddfijjaaDoorRatOps
import Derived.Test.YtmojcnlddfijjaaDoorRatMath
import Derived.Deep.RegionHeld3
import Derived.Deep.DeepCutAuto
namespace Go.Proofs.YtmojcnlddfijjaaDoor
open Go.RowKit NatMath RatMath FixMath

/-- A block, carried along. -/
def BoxAt (w : World) (g : Nat) (t : TypeId) (cs : Array Value) : Prop := Blk w g t cs
theorem BoxAt.below {w w' : World} {g : Nat} {t : TypeId} {cs : Array Value} (h : BoxAt w g t cs) (hb : Below w.heap.size w w') : BoxAt w' g t cs := Blk.on h hb
theorem BoxAt.drewN {w : World} {g : Nat} {t : TypeId} {cs : Array Value} (h : BoxAt w g t cs) (q : Nat) : BoxAt (w.drewN q) g t cs := h
theorem pow10_of {D : Nat} (hD : D ≤ 6) : pow10 (D : Int) = 10 ^ D := by unfold pow10; rw [if_pos ⟨by omega, by omega⟩]; rfl
theorem rnd_bounds (X Y D : Nat) : rnd false (X * Y) (10 ^ D) = X * Y / 10 ^ D ∧ rnd false (X * Y) (10 ^ D) ≤ rnd true (X * Y) (10 ^ D) ∧ rnd true (X * Y) (10 ^ D) ≤ rnd false (X * Y) (10 ^ D) + 1 ∧ X * Y ≤ rnd true (X * Y) (10 ^ D) * 10 ^ D := by
  have e : rnd false (X * Y) (10 ^ D) = X * Y / 10 ^ D := by unfold rnd; rw [if_neg (by simp)]; rfl
  have h := Nat.div_add_mod (X * Y) (10 ^ D)
  have hlt := Nat.mod_lt (X * Y) (ten_pos D)
  rw [e]
  unfold rnd
  by_cases hr : X * Y % 10 ^ D = 0
  · rw [if_neg (fun hh => hh.2 hr), Nat.add_zero]
    refine ⟨rfl, Nat.le_refl _, by omega, ?_⟩
    rw [Nat.mul_comm (X * Y / 10 ^ D)]; omega
  · rw [if_pos ⟨rfl, hr⟩]
    refine ⟨rfl, by omega, by omega, ?_⟩
    rw [Nat.add_mul, Nat.one_mul, Nat.mul_comm (X * Y / 10 ^ D)]; omega

set_option maxHeartbeats 3200000 in
set_option maxRecDepth 100000 in
theorem fratioLaw_c (ao : Option Addr) (n c : Nat) (xs : List Int) (bo : Option Addr) (m d : Nat) (ys : List Int) (x : Int) (w : World) (h : Lst .u32 w ao n c xs) (k : Lst .u32 w bo m d ys) (htab : Tab w) :
    Calls Tryd.prog 6 #[.slice ao n c, .slice bo m d, .int .i64 x] w fun e w' => e = .returned (.bool true) ∧ Below w.heap.size w w' := by
  have HT := Lib.hid htab; clear htab
  go_enter Tryd.func6, Tryd.ntmps6
  go_wp2_with fail
  refine (short_c _ _ _ xs 2 _ h).mono ?_
  rintro e w' ⟨rfl, n1, hn1, rfl, La⟩
  go_wp2_with fail
  refine (short_c _ _ _ ys 2 _ k).mono ?_
  rintro e w' ⟨rfl, n2, hn2, rfl, Lb⟩
  go_wp2_with fail
  refine (in_c x _).mono ?_
  rintro e w' ⟨rfl, D, hD, rfl⟩
  clear h k
  obtain ⟨X, hX⟩ : ∃ X, Hid (X = xs.take 2) := ⟨_, rfl⟩
  obtain ⟨Y, hY⟩ : ∃ Y, Hid (Y = ys.take 2) := ⟨_, rfl⟩
  rw [← hX.out] at La
  rw [← hY.out] at Lb
  have BX := Lib.hid (val_lt_two La.ok La.len hn1)
  have BY := Lib.hid (val_lt_two Lb.ok Lb.len hn2)
  have bb := Below.refl w.heap.size w
  obtain ⟨z1, hz1⟩ : ∃ z, Hid (z = nf ⟨false, val X, 10 ^ D⟩) := ⟨_, rfl⟩
  obtain ⟨z2, hz2⟩ : ∃ z, Hid (z = nf ⟨false, val Y, 10 ^ D⟩) := ⟨_, rfl⟩
  obtain ⟨ze, hze⟩ : ∃ z, Hid (z = nf (ml z1 z2)) := ⟨_, rfl⟩
  obtain ⟨LO, hLO⟩ : ∃ l, Hid (l = rnd false (val X * val Y) (10 ^ D)) := ⟨_, rfl⟩
  obtain ⟨HI, hHI⟩ : ∃ l, Hid (l = rnd true (val X * val Y) (10 ^ D)) := ⟨_, rfl⟩
  obtain ⟨e1, e2, e3, e4⟩ := rnd_bounds (val X) (val Y) D
  rw [← hLO.out, ← hHI.out] at e2
  rw [← hLO.out, ← hHI.out] at e3
  rw [← hHI.out] at e4
  rw [← hLO.out] at e1
  have hgap : decide (cmpI ((HI - LO : Nat) : Int) ((Int.toNat 1 : Nat) : Int) ≤ 0) = true := by
    have h1 : HI - LO ≤ 1 := by omega
    rw [show Int.toNat 1 = 1 from rfl]
    unfold cmpI
    rcases (show HI - LO = 0 ∨ HI - LO = 1 by omega) with h | h <;> rw [h] <;> decide
  have c1 : RatMath.cmp (nf ⟨false, LO, 10 ^ D⟩) ze ≤ 0 := by rw [hze.out, hz1.out, hz2.out, e1]; exact fixed_low (ten_pos D)
  have c2 : RatMath.cmp ze (nf ⟨false, HI, 10 ^ D⟩) ≤ 0 := by rw [hze.out, hz1.out, hz2.out]; exact fixed_high (ten_pos D) e4
  obtain ⟨zl, hzl⟩ : ∃ z, Hid (z = nf ⟨false, LO, 10 ^ D⟩) := ⟨_, rfl⟩
  obtain ⟨zh, hzh⟩ : ∃ z, Hid (z = nf ⟨false, HI, 10 ^ D⟩) := ⟨_, rfl⟩
  rw [← hzl.out] at c1
  rw [← hzh.out] at c2
  have HGAP := Lib.hid hgap; have HC1 := Lib.hid c1; have HC2 := Lib.hid c2; have HLE := Lib.hid e2
  clear hgap c1 c2 e1 e2 e3 e4
  have hf := fratio_c _ _ _ X D w La (by omega) hD
  rw [← hz1.out] at hf
  have HC := Lib.hid (hf)
  go_wp2_with fail
  refine HC.out.mono ?_
  rintro e v1 ⟨t11, a11, n11, c11, b11, m11, d11, rfl, rfl, o11, q11, hn11, hm11, k1⟩
  clear HC
  have P11 := o11.lst
  have Q11 := q11.lst
  replace La := La.below k1; replace Lb := Lb.below k1
  replace bb := Below.on bb k1 bb.size
  clear k1
  clear hf
  have hp := pow10_c (D : Int) v1
  rw [pow10_of hD] at hp
  have HC := Lib.hid (hp)
  go_wp2_with fail
  refine HC.out.mono ?_
  rintro e v2 ⟨a12, n12, c12, hn12, rfl, o12, k2⟩
  clear HC
  have PT := o12.lst
  replace La := La.below k2; replace Lb := Lb.below k2; replace P11 := P11.below k2; replace Q11 := Q11.below k2
  replace bb := Below.on bb k2 bb.size
  clear k2
  clear hp
  have hk := make_c false _ _ _ _ _ _ X _ v2 La PT (by omega) (by omega)
  rw [val_limbs, ← hz1.out] at hk
  have HC := Lib.hid (hk)
  clear PT
  go_wp2_with fail
  refine HC.out.mono ?_
  rintro e v3 ⟨t13, a13, n13, c13, b13, m13, d13, rfl, rfl, o13, q13, hn13, hm13, k3⟩
  clear HC
  have P13 := o13.lst
  have Q13 := q13.lst
  replace La := La.below k3; replace Lb := Lb.below k3; replace P11 := P11.below k3; replace Q11 := Q11.below k3
  replace bb := Below.on bb k3 bb.size
  clear k3
  clear hk
  have he := eq2_c z1.s z1.s _ _ _ _ _ _ _ _ _ _ _ _ _ _ _ _ v3 P11 Q11 P13 Q13
  rw [decide_eq_true ⟨rfl, rfl, rfl⟩] at he
  have HC := Lib.hid (he)
  clear P11 Q11 P13 Q13
  go_wp2_with fail
  refine HC.out.mono ?_
  rintro e v4 ⟨rfl, k4⟩
  clear HC
  replace La := La.below k4; replace Lb := Lb.below k4
  replace bb := Below.on bb k4 bb.size
  clear k4
  clear he
  have hf := fratio_c _ _ _ X D v4 La (by omega) hD
  rw [← hz1.out] at hf
  have HC := Lib.hid (hf)
  go_wp2_with fail
  refine HC.out.mono ?_
  rintro e v5 ⟨t15, a15, n15, c15, b15, m15, d15, rfl, rfl, o15, q15, hn15, hm15, k5⟩
  clear HC
  have P15 := o15.lst
  have Q15 := q15.lst
  replace La := La.below k5; replace Lb := Lb.below k5
  replace bb := Below.on bb k5 bb.size
  clear k5
  clear hf
  have hf := fratio_c _ _ _ Y D v5 Lb (by omega) hD
  rw [← hz2.out] at hf
  have HC := Lib.hid (hf)
  go_wp2_with fail
  refine HC.out.mono ?_
  rintro e v6 ⟨t16, a16, n16, c16, b16, m16, d16, rfl, rfl, o16, q16, hn16, hm16, k6⟩
  clear HC
  have P16 := o16.lst
  have Q16 := q16.lst
  replace La := La.below k6; replace Lb := Lb.below k6; replace P15 := P15.below k6; replace Q15 := Q15.below k6
  replace bb := Below.on bb k6 bb.size
  clear k6
  clear hf
  have hm := rmul_c z1.s z2.s _ _ _ _ _ _ _ _ _ _ _ _ 64 _ _ _ _ v6 P15 Q15 P16 Q16 (by omega) (by omega) (by omega) (by omega) (by omega)
  rw [val_limbs, val_limbs, val_limbs, val_limbs, ← hze.out] at hm
  have HC := Lib.hid (hm)
  clear P15 Q15 P16 Q16
  go_wp2_with fail
  refine HC.out.mono ?_
  rintro e v7 ⟨t17, a17, n17, c17, b17, m17, d17, rfl, rfl, o17, q17, hn17, hm17, k7⟩
  clear HC
  have P17 := o17.lst
  have Q17 := q17.lst
  replace La := La.below k7; replace Lb := Lb.below k7
  replace bb := Below.on bb k7 bb.size
  clear k7
  clear hm
  go_wp2_with fail
  have kE : BoxAt (v7.alloc (.cells #[.bool ze.s, .slice a17 n17 c17, .slice b17 m17 d17] 25)) v7.heap.size 25 #[.bool ze.s, .slice a17 n17 c17, .slice b17 m17 d17] := Blk.new v7 _ _
  have bz := (Below.refl v7.heap.size v7).alloc (Nat.le_refl _) (.cells #[.bool ze.s, .slice a17 n17 c17, .slice b17 m17 d17] 25)
  replace La := La.below bz; replace Lb := Lb.below bz; replace P17 := P17.below bz; replace Q17 := Q17.below bz
  replace bb := Below.on bb bz bb.size
  clear bz
  obtain ⟨u, hu⟩ : ∃ u, u = v7.alloc (.cells #[.bool ze.s, .slice a17 n17 c17, .slice b17 m17 d17] 25) := ⟨_, rfl⟩
  obtain ⟨ge, hge⟩ : ∃ g, Hid (g = v7.heap.size) := ⟨_, rfl⟩
  rw [← hu, ← hge.out] at kE
  rw [← hu] at bb La Lb P17 Q17 ⊢
  rw [← hge.out]
  clear hu hge
  have hm := fmul_c _ _ _ _ _ _ X Y D false u La Lb (by omega) (by omega) hD
  rw [← hLO.out] at hm
  have HC := Lib.hid (hm)
  go_wp2_with fail
  refine HC.out.mono ?_
  rintro e v8 ⟨a18, n18, c18, hn18, rfl, o18, k8⟩
  clear HC
  have P18 := o18.lst
  replace La := La.below k8; replace Lb := Lb.below k8; replace P17 := P17.below k8; replace Q17 := Q17.below k8; replace kE := kE.below k8
  replace bb := Below.on bb k8 bb.size
  clear k8
  clear hm
  have hm := fmul_c _ _ _ _ _ _ X Y D true v8 La Lb (by omega) (by omega) hD
  rw [← hHI.out] at hm
  have HC := Lib.hid (hm)
  clear La Lb
  go_wp2_with fail
  refine HC.out.mono ?_
  rintro e v9 ⟨a19, n19, c19, hn19, rfl, o19, k9⟩
  clear HC
  have P19 := o19.lst
  replace P17 := P17.below k9; replace Q17 := Q17.below k9; replace kE := kE.below k9; replace P18 := P18.below k9
  replace bb := Below.on bb k9 bb.size
  clear k9
  clear hm
  have hs := sub_ge_c _ _ _ _ _ _ _ _ v9 P19 P18 (by omega) (by rw [val_limbs, val_limbs]; exact HLE.out)
  rw [val_limbs, val_limbs] at hs
  have HC := Lib.hid (hs)
  go_wp2_with fail
  refine HC.out.mono ?_
  rintro e v10 ⟨a20, n20, c20, hn20, rfl, o20, k10⟩
  clear HC
  have P20 := o20.lst
  replace P17 := P17.below k10; replace Q17 := Q17.below k10; replace kE := kE.below k10; replace P18 := P18.below k10; replace P19 := P19.below k10
  replace bb := Below.on bb k10 bb.size
  clear k10
  clear hs
  obtain ⟨gp, hgp⟩ : ∃ g, Hid (g = cmpI ((HI - LO : Nat) : Int) ((Int.toNat 1 : Nat) : Int)) := ⟨_, rfl⟩
  have hgpd : decide (gp ≤ 0) = true := by rw [hgp.out]; exact HGAP.out
  obtain ⟨g1, hg1⟩ : ∃ g, Hid (g = RatMath.cmp zl ze) := ⟨_, rfl⟩
  have hg1d : decide (g1 ≤ 0) = true := by rw [hg1.out]; simpa using HC1.out
  obtain ⟨g2, hg2⟩ : ∃ g, Hid (g = RatMath.cmp ze zh) := ⟨_, rfl⟩
  have hg2d : decide (g2 ≤ 0) = true := by rw [hg2.out]; simpa using HC2.out
  have D18 : Hid (Lst .u32 v10.drew a18 n18 c18 (limbs LO)) := P18.drewN 1
  have D19 : Hid (Lst .u32 v10.drew a19 n19 c19 (limbs HI)) := P19.drewN 1
  have D20 : Hid (Lst .u32 v10.drew a20 n20 c20 (limbs (HI - LO))) := P20.drewN 1
  have D17 : Hid (Lst .u32 v10.drew a17 n17 c17 (limbs ze.p)) := P17.drewN 1
  have DQ : Hid (Lst .u32 v10.drew b17 m17 d17 (limbs ze.q)) := Q17.drewN 1
  have DE : Hid (BoxAt v10.drew ge 25 #[.bool ze.s, .slice a17 n17 c17, .slice b17 m17 d17]) := kE.drewN 1
  have DB : Hid (Below w.heap.size w v10.drew) := bb.drew
  obtain ⟨j0, j1, j2⟩ := Blk.cells3 kE
  go_wp2_with fail
  go_region_held3 (fun w' => w'.cell? ⟨ge, 0, none⟩ = some (.bool ze.s) ∧ w'.cell? ⟨ge, 1, none⟩ = some (.slice a17 n17 c17) ∧ w'.cell? ⟨ge, 2, none⟩ = some (.slice b17 m17 d17)) (go_keep) (first
    | (go_at_call 21; refine (fawake_c v10.drew (HT.out.below DB.out)).mono ?_; rintro e r1 ⟨rfl, B1_⟩; have P18_1 := (D18.out).below B1_; have P19_1 := (D19.out).below B1_; have P20_1 := (D20.out).below B1_; have P17_1 := (D17.out).below B1_; have Q17_1 := (DQ.out).below B1_; have E_1 := (DE.out).below B1_; have bb_1 := (DB.out).trans (B1_.mono (DB.out).size); obtain ⟨cE1_0, cE1_1, cE1_2⟩ := Blk.cells3 E_1)
    | (go_at_call 32; refine (of_c 1 r1 (by omega) (by omega)).mono ?_; rintro e r2 ⟨a21, n21, c21, hn21, rfl, o21, B2_⟩; have P18_2 := (P18_1).below B2_; have P19_2 := (P19_1).below B2_; have P20_2 := (P20_1).below B2_; have P17_2 := (P17_1).below B2_; have Q17_2 := (Q17_1).below B2_; have E_2 := (E_1).below B2_; have bb_2 := (bb_1).trans (B2_.mono (bb_1).size); obtain ⟨cE2_0, cE2_1, cE2_2⟩ := Blk.cells3 E_2; have P21_2 := o21.lst)
    | (go_at_call 31; have hc := cmp_c _ _ _ _ _ _ _ _ r2 P20_2 P21_2; rw [val_limbs, val_limbs, ← hgp.out] at hc; refine (hc).mono ?_; rintro e w' ⟨rfl, q3_, rfl⟩; clear hc; have P18_3 := (P18_2).drewN q3_; have P19_3 := (P19_2).drewN q3_; have P17_3 := (P17_2).drewN q3_; have Q17_3 := (Q17_2).drewN q3_; have E_3 := (E_2).drewN q3_; have bb_3 := below_drewN (bb_2) q3_; obtain ⟨cE3_0, cE3_1, cE3_2⟩ := Blk.cells3 E_3)
    | (go_at_call_of 27 (Value.slice a18 n18 c18); have hf := fratio_c _ _ _ _ D (r2.drewN q3_) P18_3 (by omega) hD; rw [val_limbs, ← hzl.out] at hf; refine (hf).mono ?_; rintro e r4 ⟨t22, a22, n22, c22, b22, m22, d22, rfl, rfl, o22, q22, hn22, hm22, B4_⟩; clear hf; have P19_4 := (P19_3).below B4_; have P17_4 := (P17_3).below B4_; have Q17_4 := (Q17_3).below B4_; have E_4 := (E_3).below B4_; have bb_4 := (bb_3).trans (B4_.mono (bb_3).size); obtain ⟨cE4_0, cE4_1, cE4_2⟩ := Blk.cells3 E_4; have P22_4 := o22.lst; have Q22_4 := q22.lst)
    | (go_at_call_of 15 (Value.slice a22 n22 c22); have hc := rcmp_c zl.s ze.s _ _ _ _ _ _ _ _ _ _ _ _ 400 _ _ _ _ r4 P22_4 Q22_4 P17_4 Q17_4 (by omega) (by omega) (by omega) (by omega) (by omega); rw [val_limbs, val_limbs, val_limbs, val_limbs, ← hg1.out] at hc; refine (hc).mono ?_; rintro e r5 ⟨rfl, B5_⟩; clear hc; have P19_5 := (P19_4).below B5_; have P17_5 := (P17_4).below B5_; have Q17_5 := (Q17_4).below B5_; have E_5 := (E_4).below B5_; have bb_5 := (bb_4).trans (B5_.mono (bb_4).size); obtain ⟨cE5_0, cE5_1, cE5_2⟩ := Blk.cells3 E_5)
    | (go_at_call_of 27 (Value.slice a19 n19 c19); have hf := fratio_c _ _ _ _ D r5 P19_5 (by omega) hD; rw [val_limbs, ← hzh.out] at hf; refine (hf).mono ?_; rintro e r6 ⟨t23, a23, n23, c23, b23, m23, d23, rfl, rfl, o23, q23, hn23, hm23, B6_⟩; clear hf; have P17_6 := (P17_5).below B6_; have Q17_6 := (Q17_5).below B6_; have E_6 := (E_5).below B6_; have bb_6 := (bb_5).trans (B6_.mono (bb_5).size); obtain ⟨cE6_0, cE6_1, cE6_2⟩ := Blk.cells3 E_6; have P23_6 := o23.lst; have Q23_6 := q23.lst)
    | (go_at_call_of 15 (Value.slice a23 n23 c23); have hc := rcmp_c ze.s zh.s _ _ _ _ _ _ _ _ _ _ _ _ 400 _ _ _ _ r6 P17_6 Q17_6 P23_6 Q23_6 (by omega) (by omega) (by omega) (by omega) (by omega); rw [val_limbs, val_limbs, val_limbs, val_limbs, ← hg2.out] at hc; refine (hc).mono ?_; rintro e r7 ⟨rfl, B7_⟩; clear hc; have P17_7 := (P17_6).below B7_; have Q17_7 := (Q17_6).below B7_; have E_7 := (E_6).below B7_; have bb_7 := (bb_6).trans (B7_.mono (bb_6).size); obtain ⟨cE7_0, cE7_1, cE7_2⟩ := Blk.cells3 E_7))
  go_wp2_with fail
  go_ret
  exact ⟨rfl, bb_7⟩
end Go.Proofs.YtmojcnlddfijjaaDoor
