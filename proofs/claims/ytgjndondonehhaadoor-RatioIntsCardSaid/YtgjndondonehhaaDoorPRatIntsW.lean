import Derived.Test.YtgjndondonehhaaDoorPRatRef2
import Derived.Test.YtgjndondonehhaaDoorPk2
/-
  The walk of RatioInts.
-/
namespace Go.Proofs.YtgjndondonehhaaDoor
open Go.RowKit NatMath RatMath

theorem int_bound {t : Bool} {p q : Nat} (hp : p ≤ 9223372036854775808) (hq : q ≤ 9223372036854775808) : (nf ⟨t, p, q⟩).p < 2 ^ 64 ∧ (nf ⟨t, p, q⟩).q < 2 ^ 64 := by
  have h1 := nf_p_le ⟨t, p, q⟩
  have h2 := nf_q_le ⟨t, p, q⟩
  simp only at h1 h2
  have e : (2 : Nat) ^ 64 = 18446744073709551616 := by decide
  omega

set_option maxHeartbeats 6400000 in
set_option maxRecDepth 100000 in
theorem rints_c (x y : Int) (w : World) (x0 : -9223372036854775808 ≤ x) (x1 : x ≤ 9223372036854775807) (y0 : -9223372036854775808 ≤ y) (y1 : y ≤ 9223372036854775807) (htab : Tab w) :
    Calls Tryd.prog 12 #[.int .i64 x, .int .i64 y] w fun e w' => e = .returned (.bool true) ∧ Below w.heap.size w w' := by
  have HT := Lib.hid htab
  clear htab
  obtain ⟨zq, hzq⟩ : ∃ z, Hid (z = nf ⟨decide (x < 0) != decide (y < 0), x.natAbs, y.natAbs⟩) := ⟨_, rfl⟩
  have BX : Hid (∀ t, (nf ⟨t, x.natAbs, 1⟩).p < 2 ^ 64 ∧ (nf ⟨t, x.natAbs, 1⟩).q < 2 ^ 64) := fun t => int_bound (by omega) (by omega)
  have BY : Hid (∀ t, (nf ⟨t, y.natAbs, 1⟩).p < 2 ^ 64 ∧ (nf ⟨t, y.natAbs, 1⟩).q < 2 ^ 64) := fun t => int_bound (by omega) (by omega)
  have BQ : Hid (zq.p < 2 ^ 64 ∧ zq.q < 2 ^ 64) := by
    show _ ∧ _
    rw [hzq.out]
    exact int_bound (by omega) (by omega)
  have hdv : y ≠ 0 → nf (ml (nf ⟨decide (x < 0), x.natAbs, 1⟩) (inv (nf ⟨decide (y < 0), y.natAbs, 1⟩))) = zq := fun h => by
    rw [hzq.out, ← div_nf ⟨decide (x < 0), x.natAbs, 1⟩ (y := ⟨decide (y < 0), y.natAbs, 1⟩) (by show y.natAbs ≠ 0; omega) (by show 1 ≠ 0; omega)]
    congr 1
    show R.mk _ (x.natAbs * 1) (1 * y.natAbs) = _
    rw [Nat.mul_one, Nat.one_mul]
    rfl
  have HDV := Lib.hid hdv
  clear hdv
  go_enter Tryd.func12, Tryd.ntmps12
  go_wp2_with fail
  obtain ⟨zx, hzx⟩ : ∃ z, Hid (z = nf ⟨decide (x < 0), x.natAbs, 1⟩) := ⟨_, rfl⟩
  obtain ⟨zy, hzy⟩ : ∃ z, Hid (z = nf ⟨decide (y < 0), y.natAbs, 1⟩) := ⟨_, rfl⟩
  have hxc := of2_c x w x0 x1
  rw [← hzx.out] at hxc
  refine hxc.mono ?_
  rintro e w1 ⟨t1, a1, n1, c1, b1, m1, d1, rfl, rfl, o1, o2, B1⟩
  clear hxc
  go_wp2_with fail
  have hyc := of2_c y w1 y0 y1
  rw [← hzy.out] at hyc
  refine hyc.mono ?_
  rintro e w2 ⟨t2, a2, n2, c2, b2, m2, d2, rfl, rfl, o3, o4, B2⟩
  clear hyc
  have o1 := o1.kept B2
  have o2 := o2.kept B2
  have bb := B1.trans (B2.mono B1.size)
  obtain ⟨W2, hW2, kX, kY, b2x⟩ := boxed2 w2 50 #[.bool zx.s, .slice a1 n1 c1, .slice b1 m1 d1] #[.bool zy.s, .slice a2 n2 c2, .slice b2 m2 d2]
  have lx1 := o1.lst.below b2x
  have lx2 := o2.lst.below b2x
  have ly1 := o3.lst.below b2x
  have ly2 := o4.lst.below b2x
  have hn1 := o1.bound (k := 64) (by rw [hzx.out]; exact (BX.out _).1)
  have hm1 := o2.bound (k := 64) (by rw [hzx.out]; exact (BX.out _).2)
  replace bb := bb.trans (b2x.mono bb.size)
  obtain ⟨g1, hg1⟩ : ∃ g, Hid (g = w2.heap.size) := ⟨_, rfl⟩
  obtain ⟨g2, hg2⟩ : ∃ g, Hid (g = w2.heap.size + 1) := ⟨_, rfl⟩
  rw [← hg1.out] at kX
  rw [← hg2.out] at kY
  have HW2 := Lib.hid hW2
  clear o1 o2 o3 o4 B1 B2 b2x hW2
  go_wp2_with fail
  rw [← HW2.out, ← hg2.out, ← hg1.out]
  have hqc := of2_c 0 W2 (by omega) (by omega)
  rw [show nf ⟨decide ((0 : Int) < 0), (0 : Int).natAbs, 1⟩ = ⟨false, 0, 1⟩ by decide] at hqc
  refine hqc.mono ?_
  rintro e w3 ⟨t3, a3, n3, c3, b3, m3, d3, rfl, rfl, o5, o6, B3⟩
  clear hqc
  replace kX := kX.on B3
  replace kY := kY.on B3
  replace lx1 := lx1.below B3
  replace lx2 := lx2.below B3
  replace ly1 := ly1.below B3
  replace ly2 := ly2.below B3
  replace bb := bb.trans (B3.mono bb.size)
  have hws := bb.size
  have LW1 := Lib.hid lx1; have LW2 := Lib.hid lx2; have LV1 := Lib.hid ly1; have LV2 := Lib.hid ly2
  have kQ := Blk.new w3 50 #[.bool false, .slice a3 n3 c3, .slice b3 m3 d3]
  have b3x := (Below.refl w3.heap.size w3).alloc (Nat.le_refl _) (.cells #[.bool false, .slice a3 n3 c3, .slice b3 m3 d3] 50)
  have hn3 := o5.bound (k := 64) (by decide)
  have hm3 := o6.bound (k := 64) (by decide)
  have lq1 := o5.lst.below b3x
  have lq2 := o6.lst.below b3x
  have hgx := kX.lt
  have hgy := kY.lt
  replace kX := kX.on b3x
  replace kY := kY.on b3x
  replace lx1 := lx1.below b3x
  replace lx2 := lx2.below b3x
  replace ly1 := ly1.below b3x
  replace ly2 := ly2.below b3x
  replace bb := bb.trans (b3x.mono bb.size)
  obtain ⟨g3, hg3⟩ : ∃ g, Hid (g = w3.heap.size) := ⟨_, rfl⟩
  rw [← hg3.out] at kQ hgx hgy
  have HW := hg3
  have B3X := Lib.hid b3x
  clear b3x B3 o5 o6 HW2 hg1 hg2
  by_cases hy : y = 0
  · subst hy
    have hz : zq = ⟨false, 0, 1⟩ := by rw [hzq.out]; exact nf_zero (Or.inr rfl)
    have HZ := Lib.hid hz
    clear hz hgx hgy HDV BY
    go_wp2_with fail
    obtain ⟨W4, hW4⟩ : ∃ W, W = w3.alloc (.cells #[.bool false, .slice a3 n3 c3, .slice b3 m3 d3] 50) := ⟨_, rfl⟩
    rw [← hW4] at kX kQ lx1 lx2 lq1 lq2 bb ⊢
    rw [← hg3.out]
    obtain ⟨aq, nq, cq, bq, mq, dq, hq⟩ : ∃ aq nq cq bq mq dq, Hid ((aq, nq, cq, bq, mq, dq) = (a3, n3, c3, b3, m3, d3)) := ⟨_, _, _, _, _, _, rfl⟩
    have hq1 := hq.out
    simp only [Prod.mk.injEq] at hq1
    obtain ⟨rfl, rfl, rfl, rfl, rfl, rfl⟩ := hq1
    clear hW4 hq hg3 HW kY ly1 ly2
    replace kQ : Blk W4 g3 50 #[.bool zq.s, .slice aq nq cq, .slice bq mq dq] := by rw [HZ.out]; exact kQ
    replace lq1 : LstB W4 aq nq cq (bitsN zq.p) := by rw [HZ.out]; exact lq1
    replace lq2 : LstB W4 bq mq dq (bitsN zq.q) := by rw [HZ.out]; exact lq2
    have hnq : nq ≤ 64 := hn3
    have hmq : mq ≤ 64 := hm3
    clear HZ hn3 hm3
    have DX : Hid (Blk W4.drew g1 50 #[.bool zx.s, .slice a1 n1 c1, .slice b1 m1 d1]) := kX
    have DQ : Hid (Blk W4.drew g3 50 #[.bool zq.s, .slice aq nq cq, .slice bq mq dq]) := kQ
    have DB : Hid (Below w.heap.size w W4.drew) := bb.drew
    have DX1 : Hid (LstB W4.drew a1 n1 c1 (bitsN zx.p)) := lx1.drewN 1
    have DX2 : Hid (LstB W4.drew b1 m1 d1 (bitsN zx.q)) := lx2.drewN 1
    have DQ1 : Hid (LstB W4.drew aq nq cq (bitsN zq.p)) := lq1.drewN 1
    have DQ2 : Hid (LstB W4.drew bq mq dq (bitsN zq.q)) := lq2.drewN 1
    obtain ⟨u0, u1, u2⟩ := kX.cells3
    obtain ⟨uu0, uu1, uu2⟩ := kQ.cells3
    clear kX kQ bb lx1 lx2 lq1 lq2
    go_region_held3 (fun w' => w'.cell? ⟨g1, 0, none⟩ = some (.bool zx.s) ∧ w'.cell? ⟨g1, 1, none⟩ = some (.slice a1 n1 c1) ∧ w'.cell? ⟨g1, 2, none⟩ = some (.slice b1 m1 d1) ∧ w'.cell? ⟨g3, 0, none⟩ = some (.bool zq.s) ∧ w'.cell? ⟨g3, 1, none⟩ = some (.slice aq nq cq) ∧ w'.cell? ⟨g3, 2, none⟩ = some (.slice bq mq dq)) (go_keep) (first
      | (go_at_call 31; refine (awake2_c W4.drew (HT.out.below DB.out)).mono ?_; rintro e v1 ⟨rfl, B1⟩; have A1 := DX.out.on B1; have C1 := DQ.out.on B1; obtain ⟨z0, z1, z2⟩ := A1.cells3; obtain ⟨zz0, zz1, zz2⟩ := C1.cells3; have BB1 := DB.out.trans (B1.mono DB.out.size); have E1 := Lib.hid (DX1.out.below B1); have F1 := Lib.hid (DX2.out.below B1); have G1 := Lib.hid (DQ1.out.below B1); have H1 := Lib.hid (DQ2.out.below B1); clear B1)
      | (go_at_call 49; have hmk := rof_c x v1 x0 x1; rw [← hzx.out] at hmk; refine hmk.mono ?_; rintro e v2 ⟨s5, a5, n5, c5, b5, m5, d5, rfl, rfl, o5, o6, _, _, B2⟩; clear hmk; have A2 := A1.on B2; have C2 := C1.on B2; obtain ⟨k0, k1, k2⟩ := A2.cells3; obtain ⟨kk0, kk1, kk2⟩ := C2.cells3; have BB2 := BB1.trans (B2.mono BB1.size); have E2 := Lib.hid (E1.out.below B2); have F2 := Lib.hid (F1.out.below B2); have G2 := Lib.hid (G1.out.below B2); have H2 := Lib.hid (H1.out.below B2); have O5 := Lib.hid o5.lst; have O6 := Lib.hid o6.lst; clear o5 o6 B2)
      | (go_at_call_of 32 (Value.slice a1 n1 c1); have his := is2_c zx.s zx.s a5 b5 a1 b1 n5 c5 m5 d5 n1 c1 m1 d1 zx.p zx.q _ _ v2 O5.out O6.out E2.out F2.out (by omega) (by omega); rw [decide_eq_true ⟨rfl, rfl, rfl⟩] at his; refine his.mono ?_; rintro e v3 ⟨rfl, B3⟩; clear his; have A3 := A2.on B3; have C3 := C2.on B3; obtain ⟨l0, l1, l2⟩ := A3.cells3; obtain ⟨ll0, ll1, ll2⟩ := C3.cells3; have BB3 := BB2.trans (B3.mono BB2.size); have G3 := Lib.hid (G2.out.below B3); have H3 := Lib.hid (H2.out.below B3); clear B3)
      | (go_at_call 50; have hfr := frac_c x _ v3 x0 x1 y0 y1; rw [← hzq.out] at hfr; refine hfr.mono ?_; rintro e v4 ⟨s7, a7, n7, c7, b7, m7, d7, rfl, rfl, o7, o8, _, _, B4⟩; clear hfr; have A4 := A3.on B4; have C4 := C3.on B4; obtain ⟨i0, i1, i2⟩ := A4.cells3; obtain ⟨ii0, ii1, ii2⟩ := C4.cells3; have BB4 := BB3.trans (B4.mono BB3.size); have G4 := Lib.hid (G3.out.below B4); have H4 := Lib.hid (H3.out.below B4); have O7 := Lib.hid o7.lst; have O8 := Lib.hid o8.lst; clear o7 o8 B4)
      | (go_at_call 32; have his := is2_c zq.s zq.s a7 b7 aq bq n7 c7 m7 d7 nq cq mq dq zq.p zq.q _ _ v4 O7.out O8.out G4.out H4.out (by omega) (by omega); rw [decide_eq_true ⟨rfl, rfl, rfl⟩] at his; refine his.mono ?_; rintro e v5 ⟨rfl, B5⟩; clear his; have A5 := A4.on B5; have C5 := C4.on B5; obtain ⟨j0, j1, j2⟩ := A5.cells3; obtain ⟨jj0, jj1, jj2⟩ := C5.cells3; have BB5 := BB4.trans (B5.mono BB4.size); clear B5))
    go_wp2_with fail
    go_ret
    exact ⟨rfl, BB5⟩
  · have hyb : (y == 0) = false := by simpa using hy
    have HZ : Hid (nf (ml zx (inv zy)) = zq) := by
      show _ = _
      rw [hzx.out, hzy.out]
      exact HDV.out hy
    have Bx : Hid (zx.p < 2 ^ 64 ∧ zx.q < 2 ^ 64) := by show _ ∧ _; rw [hzx.out]; exact BX.out _
    have By : Hid (zy.p < 2 ^ 64 ∧ zy.q < 2 ^ 64) := by show _ ∧ _; rw [hzy.out]; exact BY.out _
    have hne1 : g1 ≠ g3 := by omega
    have hne2 : g2 ≠ g3 := by omega
    have hne3 : g3 ≠ g1 := by omega
    have hne4 : g3 ≠ g2 := by omega
    have hgw : w.heap.size ≤ g3 := by rw [hg3.out]; exact hws
    clear HDV BY BX hgx hgy
    obtain ⟨u0, u1, u2⟩ := kX.cells3
    obtain ⟨uu0, uu1, uu2⟩ := kY.cells3
    have hdv2 := div2_c zx.s zy.s a1 b1 a2 b2 n1 c1 m1 d1 n2 c2 m2 d2 zx.p zx.q zy.p zy.q 64 _ lx1 lx2 ly1 ly2 Bx.out.1 Bx.out.2 By.out.1 By.out.2 (by omega)
    rw [show nf (ml ⟨zx.s, zx.p, zx.q⟩ (inv ⟨zy.s, zy.p, zy.q⟩)) = zq from HZ.out] at hdv2
    have HD2 := Lib.hid hdv2
    have KX := Lib.hid kX; have KQ := Lib.hid kQ; have BB := Lib.hid bb
    clear hdv2 kX kY kQ lx1 lx2 ly1 ly2 lq1 lq2 bb Bx By HZ hws
    go_wp2_with fail
    refine HD2.out.mono ?_
    rintro e v4 ⟨t4, aq, nq, cq, bq, mq, dq, rfl, rfl, o7, o8, B4⟩
    have kX4 := KX.out.on B4
    have kQ4 := KQ.out.on B4
    have b4 := BB.out.trans (B4.mono BB.out.size)
    have r1 := o7.hi (g := g3) KQ.out.lt
    have r2 := o8.hi (g := g3) KQ.out.lt
    rw [hg3.out] at kQ4 r1 r2 hne1 hne3 hgw
    have hnq := o7.bound (k := 64) BQ.out.1
    have hmq := o8.bound (k := 64) BQ.out.2
    obtain ⟨q0, q1, q2, q3, q4, q5⟩ := kQ4.store3 (.bool zq.s) (.slice aq nq cq)
    have O7 := Lib.hid o7; have O8 := Lib.hid o8
    have KX4 := Lib.hid kX4; have KQ4 := Lib.hid kQ4; have BB4 := Lib.hid b4
    have BV := Lib.hid (B3X.out.trans (B4.mono (by simp)))
    clear HD2 B4 kX4 kQ4 b4 o7 o8 u0 u1 u2 uu0 uu1 uu2
    go_wp2_with fail
    have kQ := KQ4.out.put3 (.bool zq.s) (.slice aq nq cq) (.slice bq mq dq)
    have kX := put3_other (g := w3.heap.size) KX4.out hne1 (.bool zq.s) (.slice aq nq cq) (.slice bq mq dq)
    have bb := below_put3 BB4.out hgw (.bool zq.s) (.slice aq nq cq) (.slice bq mq dq)
    have bv := below_put3 BV.out (Nat.le_refl _) (.bool zq.s) (.slice aq nq cq) (.slice bq mq dq)
    have lq1 := (O7.out.put3 r1 (.bool zq.s) (.slice aq nq cq) (.slice bq mq dq)).lst
    have lq2 := (O8.out.put3 r2 (.bool zq.s) (.slice aq nq cq) (.slice bq mq dq)).lst
    have lx1 := LW1.out.below bv
    have lx2 := LW2.out.below bv
    change Code.wp _ _ _ _ (put3 v4 w3.heap.size (.bool zq.s) (.slice aq nq cq) (.slice bq mq dq))
    obtain ⟨W4, hW4⟩ : ∃ W, W = put3 v4 w3.heap.size (.bool zq.s) (.slice aq nq cq) (.slice bq mq dq) := ⟨_, rfl⟩
    rw [← hW4] at kX kQ lx1 lx2 lq1 lq2 bb ⊢
    rw [← hg3.out] at kQ ⊢
    clear hW4 bv q0 q1 q2 q3 q4 q5 r1 r2 hn3 hm3
    have DX : Hid (Blk W4.drew g1 50 #[.bool zx.s, .slice a1 n1 c1, .slice b1 m1 d1]) := kX
    have DQ : Hid (Blk W4.drew g3 50 #[.bool zq.s, .slice aq nq cq, .slice bq mq dq]) := kQ
    have DB : Hid (Below w.heap.size w W4.drew) := bb.drew
    have DX1 : Hid (LstB W4.drew a1 n1 c1 (bitsN zx.p)) := lx1.drewN 1
    have DX2 : Hid (LstB W4.drew b1 m1 d1 (bitsN zx.q)) := lx2.drewN 1
    have DQ1 : Hid (LstB W4.drew aq nq cq (bitsN zq.p)) := lq1.drewN 1
    have DQ2 : Hid (LstB W4.drew bq mq dq (bitsN zq.q)) := lq2.drewN 1
    obtain ⟨u0, u1, u2⟩ := kX.cells3
    obtain ⟨uu0, uu1, uu2⟩ := kQ.cells3
    clear kX kQ bb lx1 lx2 lq1 lq2
    go_region_held3 (fun w' => w'.cell? ⟨g1, 0, none⟩ = some (.bool zx.s) ∧ w'.cell? ⟨g1, 1, none⟩ = some (.slice a1 n1 c1) ∧ w'.cell? ⟨g1, 2, none⟩ = some (.slice b1 m1 d1) ∧ w'.cell? ⟨g3, 0, none⟩ = some (.bool zq.s) ∧ w'.cell? ⟨g3, 1, none⟩ = some (.slice aq nq cq) ∧ w'.cell? ⟨g3, 2, none⟩ = some (.slice bq mq dq)) (go_keep) (first
      | (go_at_call 31; refine (awake2_c W4.drew (HT.out.below DB.out)).mono ?_; rintro e v1 ⟨rfl, B1⟩; have A1 := DX.out.on B1; have C1 := DQ.out.on B1; obtain ⟨z0, z1, z2⟩ := A1.cells3; obtain ⟨zz0, zz1, zz2⟩ := C1.cells3; have BB1 := DB.out.trans (B1.mono DB.out.size); have E1 := Lib.hid (DX1.out.below B1); have F1 := Lib.hid (DX2.out.below B1); have G1 := Lib.hid (DQ1.out.below B1); have H1 := Lib.hid (DQ2.out.below B1); clear B1)
      | (go_at_call 49; have hmk := rof_c x v1 x0 x1; rw [← hzx.out] at hmk; refine hmk.mono ?_; rintro e v2 ⟨s5, a5, n5, c5, b5, m5, d5, rfl, rfl, o5, o6, _, _, B2⟩; clear hmk; have A2 := A1.on B2; have C2 := C1.on B2; obtain ⟨k0, k1, k2⟩ := A2.cells3; obtain ⟨kk0, kk1, kk2⟩ := C2.cells3; have BB2 := BB1.trans (B2.mono BB1.size); have E2 := Lib.hid (E1.out.below B2); have F2 := Lib.hid (F1.out.below B2); have G2 := Lib.hid (G1.out.below B2); have H2 := Lib.hid (H1.out.below B2); have O5 := Lib.hid o5.lst; have O6 := Lib.hid o6.lst; clear o5 o6 B2)
      | (go_at_call_of 32 (Value.slice a1 n1 c1); have his := is2_c zx.s zx.s a5 b5 a1 b1 n5 c5 m5 d5 n1 c1 m1 d1 zx.p zx.q _ _ v2 O5.out O6.out E2.out F2.out (by omega) (by omega); rw [decide_eq_true ⟨rfl, rfl, rfl⟩] at his; refine his.mono ?_; rintro e v3 ⟨rfl, B3⟩; clear his; have A3 := A2.on B3; have C3 := C2.on B3; obtain ⟨l0, l1, l2⟩ := A3.cells3; obtain ⟨ll0, ll1, ll2⟩ := C3.cells3; have BB3 := BB2.trans (B3.mono BB2.size); have G3 := Lib.hid (G2.out.below B3); have H3 := Lib.hid (H2.out.below B3); clear B3)
      | (go_at_call 50; have hfr := frac_c x _ v3 x0 x1 y0 y1; rw [← hzq.out] at hfr; refine hfr.mono ?_; rintro e v4 ⟨s7, a7, n7, c7, b7, m7, d7, rfl, rfl, o7, o8, _, _, B4⟩; clear hfr; have A4 := A3.on B4; have C4 := C3.on B4; obtain ⟨i0, i1, i2⟩ := A4.cells3; obtain ⟨ii0, ii1, ii2⟩ := C4.cells3; have BB4 := BB3.trans (B4.mono BB3.size); have G4 := Lib.hid (G3.out.below B4); have H4 := Lib.hid (H3.out.below B4); have O7 := Lib.hid o7.lst; have O8 := Lib.hid o8.lst; clear o7 o8 B4)
      | (go_at_call 32; have his := is2_c zq.s zq.s a7 b7 aq bq n7 c7 m7 d7 nq cq mq dq zq.p zq.q _ _ v4 O7.out O8.out G4.out H4.out (by omega) (by omega); rw [decide_eq_true ⟨rfl, rfl, rfl⟩] at his; refine his.mono ?_; rintro e v5 ⟨rfl, B5⟩; clear his; have A5 := A4.on B5; have C5 := C4.on B5; obtain ⟨j0, j1, j2⟩ := A5.cells3; obtain ⟨jj0, jj1, jj2⟩ := C5.cells3; have BB5 := BB4.trans (B5.mono BB4.size); clear B5))
    go_wp2_with fail
    go_ret
    exact ⟨rfl, BB5⟩
end Go.Proofs.YtgjndondonehhaaDoor
