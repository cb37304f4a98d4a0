/-
  ratio.Sub, ratio.Min, ratio.Max.
-/
import Derived.Test.YtmojcnlddfijjaaGreatDoorRatOps
namespace Go.Proofs.YtmojcnlddfijjaaGreatDoor
open Go.RowKit NatMath RatMath

set_option maxHeartbeats 3200000 in
set_option maxRecDepth 100000 in
theorem rsub_c (s1 s2 : Bool) (a1 b1 a2 b2 : Option Addr) (n1 c1 m1 d1 n2 c2 m2 d2 K : Nat) (xs1 ys1 xs2 ys2 : List Int) (w : World)
    (h1 : Lst .u32 w a1 n1 c1 xs1) (k1 : Lst .u32 w b1 m1 d1 ys1) (h2 : Lst .u32 w a2 n2 c2 xs2) (k2 : Lst .u32 w b2 m2 d2 ys2) (hn1 : n1 ≤ K) (hm1 : m1 ≤ K) (hn2 : n2 ≤ K) (hm2 : m2 ≤ K) (hK : K ≤ 400000) :
    Calls Tryz.prog 12 #[.agg #[.bool s1, .slice a1 n1 c1, .slice b1 m1 d1], .agg #[.bool s2, .slice a2 n2 c2, .slice b2 m2 d2]] w fun e w' => ∃ s a n c b m d, e = .returned (.agg #[.bool s, .slice a n c, .slice b m d]) ∧ s = (nf (sm (dv ⟨s1, val xs1, val ys1⟩) (dv (ng ⟨s2, val xs2, val ys2⟩)))).s ∧ Own 66 .u32 w.heap.size w' a n c (limbs (nf (sm (dv ⟨s1, val xs1, val ys1⟩) (dv (ng ⟨s2, val xs2, val ys2⟩)))).p) ∧ Own 66 .u32 w.heap.size w' b m d (limbs (nf (sm (dv ⟨s1, val xs1, val ys1⟩) (dv (ng ⟨s2, val xs2, val ys2⟩)))).q) ∧ n ≤ 2 * K + 4 ∧ m ≤ 2 * K + 5 ∧ Below w.heap.size w w' := by
  have HS := fun w1 (hb : Below w.heap.size w w1) => sum_c s1 (!s2) a1 b1 a2 b2 n1 c1 m1 d1 n2 c2 m2 d2 K xs1 ys1 xs2 ys2 w1 (h1.below hb) (k1.below hb) (h2.below hb) (k2.below hb) hn1 hm1 hn2 hm2 hK
  obtain ⟨z, hz⟩ : ∃ z, Hid (z = sm (dv ⟨s1, val xs1, val ys1⟩) (dv ⟨!s2, val xs2, val ys2⟩)) := ⟨_, rfl⟩
  rw [← hz.out] at HS
  rw [show sm (dv ⟨s1, val xs1, val ys1⟩) (dv (ng ⟨s2, val xs2, val ys2⟩)) = z from hz.out.symm]
  have HS := Lib.hid HS
  clear h1 k1 h2 k2
  go_enter Tryz.func12, Tryz.ntmps12
  go_wp2_with fail
  obtain ⟨W0, hW0, kA, kB, kZ, bb⟩ := boxed3 w 25 #[.bool s1, .slice a1 n1 c1, .slice b1 m1 d1] #[.bool s2, .slice a2 n2 c2, .slice b2 m2 d2] #[.bool false, .slice none 0 0, .slice none 0 0]
  rw [← hW0]
  obtain ⟨g2, hg2⟩ : ∃ g2, g2 = w.heap.size + 1 + 1 := ⟨_, rfl⟩
  rw [← hg2] at kZ ⊢
  have hge : w.heap.size ≤ g2 := by omega
  have hne0 : w.heap.size ≠ g2 := by omega
  have hne1 : w.heap.size + 1 ≠ g2 := by omega
  have hne2 : g2 ≠ w.heap.size := by omega
  have hne3 : g2 ≠ w.heap.size + 1 := by omega
  clear hg2
  have DA : Hid (Blk W0.drew w.heap.size 25 #[.bool s1, .slice a1 n1 c1, .slice b1 m1 d1]) := kA
  have DC : Hid (Blk W0.drew (w.heap.size + 1) 25 #[.bool s2, .slice a2 n2 c2, .slice b2 m2 d2]) := kB
  have DZ : Hid (Blk W0.drew g2 25 #[.bool false, .slice none 0 0, .slice none 0 0]) := kZ
  have DB : Hid (Below w.heap.size w W0.drew) := bb.drew
  obtain ⟨y0, y1, y2⟩ := kA.cells3
  obtain ⟨yy0, yy1, yy2⟩ := kB.cells3
  clear kA kB kZ bb hW0
  go_region_held3 (fun w' => w'.cell? ⟨w.heap.size, 0, none⟩ = some (.bool s1) ∧ w'.cell? ⟨w.heap.size, 1, none⟩ = some (.slice a1 n1 c1) ∧ w'.cell? ⟨w.heap.size, 2, none⟩ = some (.slice b1 m1 d1) ∧ w'.cell? ⟨w.heap.size + 1, 0, none⟩ = some (.bool s2) ∧ w'.cell? ⟨w.heap.size + 1, 1, none⟩ = some (.slice a2 n2 c2) ∧ w'.cell? ⟨w.heap.size + 1, 2, none⟩ = some (.slice b2 m2 d2)) (go_keep) (first
    | (go_at_call 38; refine (negate_c s2 a2 b2 n2 c2 m2 d2 W0.drew).mono ?_; rintro e w1 ⟨rfl, B1⟩; have A1 := DA.out.on B1; have C1 := DC.out.on B1; obtain ⟨z0, z1, z2⟩ := A1.cells3; obtain ⟨zz0, zz1, zz2⟩ := C1.cells3; have BB1 := Lib.hid (DB.out.trans (B1.mono DB.out.size)); have Z1 := DZ.out.on B1)
    | (go_at_call 33; refine (HS.out w1 BB1.out).mono ?_; rintro e w2 ⟨s, a, n, c, b, m, d, rfl, rfl, o1, o2, hn, hm, bb2⟩; have A2 := A1.on bb2; have C2 := C1.on bb2; obtain ⟨k0, k1, k2⟩ := A2.cells3; obtain ⟨kk0, kk1, kk2⟩ := C2.cells3; have BB2 := Lib.hid (BB1.out.trans (bb2.mono BB1.out.size)); have Z2 := Z1.on bb2)
    | (go_at_call 32; have hmk := make_c z.s a b n c m d (limbs z.p) (limbs z.q) w2 o1.lst o2.lst (by omega) (by omega); rw [val_limbs, val_limbs] at hmk; refine hmk.mono ?_; rintro e w3 ⟨s3, a3, n3, c3, b3, m3, d3, rfl, hs3, o3, o4, hn3, hm3, bb3⟩; clear hmk; have A3 := A2.on bb3; have C3 := C2.on bb3; obtain ⟨l0, l1, l2⟩ := A3.cells3; obtain ⟨ll0, ll1, ll2⟩ := C3.cells3; have K3 := Z2.on bb3; have BB3 := BB2.out.trans (bb3.mono BB2.out.size); have h3 := o3.hi (g := g2) Z2.lt; have h4 := o4.hi (g := g2) Z2.lt; have O3 := Lib.hid (o3.low BB2.out.size); have O4 := Lib.hid (o4.low BB2.out.size); obtain ⟨q0, q1, q2, q3, q4, q5⟩ := K3.store3 (.bool s3) (.slice a3 n3 c3); have HS3 := Lib.hid hs3; clear hs3 bb3 o3 o4))
  go_wp2_with fail
  have pbox := K3.put3 (.bool s3) (.slice a3 n3 c3) (.slice b3 m3 d3)
  have pbel := below_put3 BB3 hge (.bool s3) (.slice a3 n3 c3) (.slice b3 m3 d3)
  have p3 := O3.out.put3 h3 (.bool s3) (.slice a3 n3 c3) (.slice b3 m3 d3)
  have p4 := O4.out.put3 h4 (.bool s3) (.slice a3 n3 c3) (.slice b3 m3 d3)
  obtain ⟨W, hW⟩ : ∃ W, W = put3 w3 g2 (.bool s3) (.slice a3 n3 c3) (.slice b3 m3 d3) := ⟨_, rfl⟩
  change bodyPost _ _ _ _ _ (put3 w3 g2 (.bool s3) (.slice a3 n3 c3) (.slice b3 m3 d3))
  rw [← hW] at pbox pbel p3 p4 ⊢
  obtain ⟨r0, r1, r2⟩ := pbox.cells3
  refine bodyPost_ret (v := .agg #[.bool s3, .slice a3 n3 c3, .slice b3 m3 d3]) (by simp [results, Tryz.results12, go_sem, r0, r1, r2]) rfl ?_
  exact ⟨s3, a3, n3, c3, b3, m3, d3, rfl, HS3.out, p3, p4, by omega, by omega, pbel⟩

set_option maxHeartbeats 3200000 in
set_option maxRecDepth 100000 in
theorem rmin_c (s1 s2 : Bool) (a1 b1 a2 b2 : Option Addr) (n1 c1 m1 d1 n2 c2 m2 d2 K : Nat) (xs1 ys1 xs2 ys2 : List Int) (w : World)
    (h1 : Lst .u32 w a1 n1 c1 xs1) (k1 : Lst .u32 w b1 m1 d1 ys1) (h2 : Lst .u32 w a2 n2 c2 xs2) (k2 : Lst .u32 w b2 m2 d2 ys2) (hn1 : n1 ≤ K) (hm1 : m1 ≤ K) (hn2 : n2 ≤ K) (hm2 : m2 ≤ K) (hK : K ≤ 400000) (z : R)
    (hz : z = nf (if 0 < RatMath.cmp ⟨s1, val xs1, val ys1⟩ ⟨s2, val xs2, val ys2⟩ then ⟨s2, val xs2, val ys2⟩ else ⟨s1, val xs1, val ys1⟩)) :
    Calls Tryz.prog 22 #[.agg #[.bool s1, .slice a1 n1 c1, .slice b1 m1 d1], .agg #[.bool s2, .slice a2 n2 c2, .slice b2 m2 d2]] w fun e w' => ∃ s a n c b m d, e = .returned (.agg #[.bool s, .slice a n c, .slice b m d]) ∧ s = z.s ∧ Own 66 .u32 w.heap.size w' a n c (limbs z.p) ∧ Own 66 .u32 w.heap.size w' b m d (limbs z.q) ∧ n ≤ K ∧ m ≤ K + 1 ∧ Below w.heap.size w w' := by
  have HC := fun w1 (hb : Below w.heap.size w w1) => rcmp_c s1 s2 a1 b1 a2 b2 n1 c1 m1 d1 n2 c2 m2 d2 K xs1 ys1 xs2 ys2 w1 (h1.below hb) (k1.below hb) (h2.below hb) (k2.below hb) hn1 hm1 hn2 hm2 hK
  have HN1 := fun w1 (hb : Below w.heap.size w w1) => normal_c s1 a1 b1 n1 c1 m1 d1 xs1 ys1 w1 (h1.below hb) (k1.below hb) (by omega) (by omega)
  have HN2 := fun w1 (hb : Below w.heap.size w w1) => normal_c s2 a2 b2 n2 c2 m2 d2 xs2 ys2 w1 (h2.below hb) (k2.below hb) (by omega) (by omega)
  obtain ⟨g, hg⟩ : ∃ g, Hid (g = RatMath.cmp ⟨s1, val xs1, val ys1⟩ ⟨s2, val xs2, val ys2⟩) := ⟨_, rfl⟩
  rw [← hg.out] at HC hz
  have HC := Lib.hid HC
  clear h1 k1 h2 k2
  go_enter Tryz.func22, Tryz.ntmps22
  go_wp2_with fail
  obtain ⟨W0, hW0, kA, kB, kZ, bb⟩ := boxed3 w 25 #[.bool s1, .slice a1 n1 c1, .slice b1 m1 d1] #[.bool s2, .slice a2 n2 c2, .slice b2 m2 d2] #[.bool false, .slice none 0 0, .slice none 0 0]
  rw [← hW0]
  obtain ⟨g2, hg2⟩ : ∃ g2, g2 = w.heap.size + 1 + 1 := ⟨_, rfl⟩
  rw [← hg2] at kZ ⊢
  have hge : w.heap.size ≤ g2 := by omega
  have hne0 : w.heap.size ≠ g2 := by omega
  have hne1 : w.heap.size + 1 ≠ g2 := by omega
  have hne2 : g2 ≠ w.heap.size := by omega
  have hne3 : g2 ≠ w.heap.size + 1 := by omega
  clear hg2
  obtain ⟨y0, y1, y2⟩ := kA.cells3
  obtain ⟨yy0, yy1, yy2⟩ := kB.cells3
  refine (HC.out W0 bb).mono ?_
  rintro e w1 ⟨rfl, B1⟩
  have A1 := kA.on B1
  have C1 := kB.on B1
  have KZ1 := Lib.hid (kZ.on B1)
  have BB1 := Lib.hid (bb.trans (B1.mono bb.size))
  obtain ⟨x0, x1, x2⟩ := A1.cells3
  obtain ⟨xx0, xx1, xx2⟩ := C1.cells3
  clear kA kB kZ bb hW0 y0 y1 y2 yy0 yy1 yy2 B1 HC
  by_cases ht : 0 < g
  · have hd : decide (0 < g) = true := by simpa using ht
    rw [if_pos ht] at hz
    rw [← hz] at HN2
    have HN2 := Lib.hid HN2
    obtain ⟨q0, q1, q2, q3, q4, q5⟩ := A1.store3 (.bool s2) (.slice a2 n2 c2)
    have HA1 := Lib.hid A1
    clear hz ht HN1 A1 C1
    go_wp2_with fail
    have KZ2 := Lib.hid (put3_other (g := w.heap.size) KZ1.out hne2 (.bool s2) (.slice a2 n2 c2) (.slice b2 m2 d2))
    have BB2 := Lib.hid (below_put3 BB1.out (Nat.le_refl _) (.bool s2) (.slice a2 n2 c2) (.slice b2 m2 d2))
    change Calls _ _ _ (put3 w1 w.heap.size (.bool s2) (.slice a2 n2 c2) (.slice b2 m2 d2)) _
    obtain ⟨W1, hW1⟩ : ∃ W, W = put3 w1 w.heap.size (.bool s2) (.slice a2 n2 c2) (.slice b2 m2 d2) := ⟨_, rfl⟩
    rw [← hW1] at KZ2 BB2 ⊢
    clear hW1 q0 q1 q2 q3 q4 q5 x0 x1 x2 xx0 xx1 xx2
    refine (HN2.out _ BB2.out).mono ?_
    rintro e w3 ⟨s3, a3, n3, c3, b3, m3, d3, rfl, hs3, o3, o4, hn3, hm3, bb3⟩
    have K3 := KZ2.out.on bb3
    have BB3 := BB2.out.trans (bb3.mono BB2.out.size)
    have h3 := o3.hi (g := g2) KZ2.out.lt
    have h4 := o4.hi (g := g2) KZ2.out.lt
    have O3 := Lib.hid (o3.low BB2.out.size)
    have O4 := Lib.hid (o4.low BB2.out.size)
    obtain ⟨q0, q1, q2, q3, q4, q5⟩ := K3.store3 (.bool s3) (.slice a3 n3 c3)
    have HS3 := Lib.hid hs3
    clear hs3 bb3 o3 o4
    go_wp2_with fail
    have pbox := K3.put3 (.bool s3) (.slice a3 n3 c3) (.slice b3 m3 d3)
    have pbel := below_put3 BB3 hge (.bool s3) (.slice a3 n3 c3) (.slice b3 m3 d3)
    have p3 := O3.out.put3 h3 (.bool s3) (.slice a3 n3 c3) (.slice b3 m3 d3)
    have p4 := O4.out.put3 h4 (.bool s3) (.slice a3 n3 c3) (.slice b3 m3 d3)
    obtain ⟨W, hW⟩ : ∃ W, W = put3 w3 g2 (.bool s3) (.slice a3 n3 c3) (.slice b3 m3 d3) := ⟨_, rfl⟩
    change bodyPost _ _ _ _ _ (put3 w3 g2 (.bool s3) (.slice a3 n3 c3) (.slice b3 m3 d3))
    rw [← hW] at pbox pbel p3 p4 ⊢
    obtain ⟨r0, r1, r2⟩ := pbox.cells3
    refine bodyPost_ret (v := .agg #[.bool s3, .slice a3 n3 c3, .slice b3 m3 d3]) (by simp [results, Tryz.results22, go_sem, r0, r1, r2]) rfl ?_
    exact ⟨s3, a3, n3, c3, b3, m3, d3, rfl, HS3.out, p3, p4, by omega, by omega, pbel⟩
  · have hd : decide (0 < g) = false := by simpa using ht
    rw [if_neg ht] at hz
    rw [← hz] at HN1
    have HN1 := Lib.hid HN1
    clear hz ht HN2 A1 C1
    go_wp2_with fail
    refine (HN1.out _ BB1.out).mono ?_
    rintro e w3 ⟨s3, a3, n3, c3, b3, m3, d3, rfl, hs3, o3, o4, hn3, hm3, bb3⟩
    have K3 := KZ1.out.on bb3
    have BB3 := BB1.out.trans (bb3.mono BB1.out.size)
    have h3 := o3.hi (g := g2) KZ1.out.lt
    have h4 := o4.hi (g := g2) KZ1.out.lt
    have O3 := Lib.hid (o3.low BB1.out.size)
    have O4 := Lib.hid (o4.low BB1.out.size)
    obtain ⟨q0, q1, q2, q3, q4, q5⟩ := K3.store3 (.bool s3) (.slice a3 n3 c3)
    have HS3 := Lib.hid hs3
    clear hs3 bb3 o3 o4
    go_wp2_with fail
    have pbox := K3.put3 (.bool s3) (.slice a3 n3 c3) (.slice b3 m3 d3)
    have pbel := below_put3 BB3 hge (.bool s3) (.slice a3 n3 c3) (.slice b3 m3 d3)
    have p3 := O3.out.put3 h3 (.bool s3) (.slice a3 n3 c3) (.slice b3 m3 d3)
    have p4 := O4.out.put3 h4 (.bool s3) (.slice a3 n3 c3) (.slice b3 m3 d3)
    obtain ⟨W, hW⟩ : ∃ W, W = put3 w3 g2 (.bool s3) (.slice a3 n3 c3) (.slice b3 m3 d3) := ⟨_, rfl⟩
    change bodyPost _ _ _ _ _ (put3 w3 g2 (.bool s3) (.slice a3 n3 c3) (.slice b3 m3 d3))
    rw [← hW] at pbox pbel p3 p4 ⊢
    obtain ⟨r0, r1, r2⟩ := pbox.cells3
    refine bodyPost_ret (v := .agg #[.bool s3, .slice a3 n3 c3, .slice b3 m3 d3]) (by simp [results, Tryz.results22, go_sem, r0, r1, r2]) rfl ?_
    exact ⟨s3, a3, n3, c3, b3, m3, d3, rfl, HS3.out, p3, p4, by omega, by omega, pbel⟩

set_option maxHeartbeats 3200000 in
set_option maxRecDepth 100000 in
theorem rmax_c (s1 s2 : Bool) (a1 b1 a2 b2 : Option Addr) (n1 c1 m1 d1 n2 c2 m2 d2 K : Nat) (xs1 ys1 xs2 ys2 : List Int) (w : World)
    (h1 : Lst .u32 w a1 n1 c1 xs1) (k1 : Lst .u32 w b1 m1 d1 ys1) (h2 : Lst .u32 w a2 n2 c2 xs2) (k2 : Lst .u32 w b2 m2 d2 ys2) (hn1 : n1 ≤ K) (hm1 : m1 ≤ K) (hn2 : n2 ≤ K) (hm2 : m2 ≤ K) (hK : K ≤ 400000) (z : R)
    (hz : z = nf (if RatMath.cmp ⟨s1, val xs1, val ys1⟩ ⟨s2, val xs2, val ys2⟩ < 0 then ⟨s2, val xs2, val ys2⟩ else ⟨s1, val xs1, val ys1⟩)) :
    Calls Tryz.prog 23 #[.agg #[.bool s1, .slice a1 n1 c1, .slice b1 m1 d1], .agg #[.bool s2, .slice a2 n2 c2, .slice b2 m2 d2]] w fun e w' => ∃ s a n c b m d, e = .returned (.agg #[.bool s, .slice a n c, .slice b m d]) ∧ s = z.s ∧ Own 66 .u32 w.heap.size w' a n c (limbs z.p) ∧ Own 66 .u32 w.heap.size w' b m d (limbs z.q) ∧ n ≤ K ∧ m ≤ K + 1 ∧ Below w.heap.size w w' := by
  have HC := fun w1 (hb : Below w.heap.size w w1) => rcmp_c s1 s2 a1 b1 a2 b2 n1 c1 m1 d1 n2 c2 m2 d2 K xs1 ys1 xs2 ys2 w1 (h1.below hb) (k1.below hb) (h2.below hb) (k2.below hb) hn1 hm1 hn2 hm2 hK
  have HN1 := fun w1 (hb : Below w.heap.size w w1) => normal_c s1 a1 b1 n1 c1 m1 d1 xs1 ys1 w1 (h1.below hb) (k1.below hb) (by omega) (by omega)
  have HN2 := fun w1 (hb : Below w.heap.size w w1) => normal_c s2 a2 b2 n2 c2 m2 d2 xs2 ys2 w1 (h2.below hb) (k2.below hb) (by omega) (by omega)
  obtain ⟨g, hg⟩ : ∃ g, Hid (g = RatMath.cmp ⟨s1, val xs1, val ys1⟩ ⟨s2, val xs2, val ys2⟩) := ⟨_, rfl⟩
  rw [← hg.out] at HC hz
  have HC := Lib.hid HC
  clear h1 k1 h2 k2
  go_enter Tryz.func23, Tryz.ntmps23
  go_wp2_with fail
  obtain ⟨W0, hW0, kA, kB, kZ, bb⟩ := boxed3 w 25 #[.bool s1, .slice a1 n1 c1, .slice b1 m1 d1] #[.bool s2, .slice a2 n2 c2, .slice b2 m2 d2] #[.bool false, .slice none 0 0, .slice none 0 0]
  rw [← hW0]
  obtain ⟨g2, hg2⟩ : ∃ g2, g2 = w.heap.size + 1 + 1 := ⟨_, rfl⟩
  rw [← hg2] at kZ ⊢
  have hge : w.heap.size ≤ g2 := by omega
  have hne0 : w.heap.size ≠ g2 := by omega
  have hne1 : w.heap.size + 1 ≠ g2 := by omega
  have hne2 : g2 ≠ w.heap.size := by omega
  have hne3 : g2 ≠ w.heap.size + 1 := by omega
  clear hg2
  obtain ⟨y0, y1, y2⟩ := kA.cells3
  obtain ⟨yy0, yy1, yy2⟩ := kB.cells3
  refine (HC.out W0 bb).mono ?_
  rintro e w1 ⟨rfl, B1⟩
  have A1 := kA.on B1
  have C1 := kB.on B1
  have KZ1 := Lib.hid (kZ.on B1)
  have BB1 := Lib.hid (bb.trans (B1.mono bb.size))
  obtain ⟨x0, x1, x2⟩ := A1.cells3
  obtain ⟨xx0, xx1, xx2⟩ := C1.cells3
  clear kA kB kZ bb hW0 y0 y1 y2 yy0 yy1 yy2 B1 HC
  by_cases ht : g < 0
  · have hd : decide (g < 0) = true := by simpa using ht
    rw [if_pos ht] at hz
    rw [← hz] at HN2
    have HN2 := Lib.hid HN2
    obtain ⟨q0, q1, q2, q3, q4, q5⟩ := A1.store3 (.bool s2) (.slice a2 n2 c2)
    have HA1 := Lib.hid A1
    clear hz ht HN1 A1 C1
    go_wp2_with fail
    have KZ2 := Lib.hid (put3_other (g := w.heap.size) KZ1.out hne2 (.bool s2) (.slice a2 n2 c2) (.slice b2 m2 d2))
    have BB2 := Lib.hid (below_put3 BB1.out (Nat.le_refl _) (.bool s2) (.slice a2 n2 c2) (.slice b2 m2 d2))
    change Calls _ _ _ (put3 w1 w.heap.size (.bool s2) (.slice a2 n2 c2) (.slice b2 m2 d2)) _
    obtain ⟨W1, hW1⟩ : ∃ W, W = put3 w1 w.heap.size (.bool s2) (.slice a2 n2 c2) (.slice b2 m2 d2) := ⟨_, rfl⟩
    rw [← hW1] at KZ2 BB2 ⊢
    clear hW1 q0 q1 q2 q3 q4 q5 x0 x1 x2 xx0 xx1 xx2
    refine (HN2.out _ BB2.out).mono ?_
    rintro e w3 ⟨s3, a3, n3, c3, b3, m3, d3, rfl, hs3, o3, o4, hn3, hm3, bb3⟩
    have K3 := KZ2.out.on bb3
    have BB3 := BB2.out.trans (bb3.mono BB2.out.size)
    have h3 := o3.hi (g := g2) KZ2.out.lt
    have h4 := o4.hi (g := g2) KZ2.out.lt
    have O3 := Lib.hid (o3.low BB2.out.size)
    have O4 := Lib.hid (o4.low BB2.out.size)
    obtain ⟨q0, q1, q2, q3, q4, q5⟩ := K3.store3 (.bool s3) (.slice a3 n3 c3)
    have HS3 := Lib.hid hs3
    clear hs3 bb3 o3 o4
    go_wp2_with fail
    have pbox := K3.put3 (.bool s3) (.slice a3 n3 c3) (.slice b3 m3 d3)
    have pbel := below_put3 BB3 hge (.bool s3) (.slice a3 n3 c3) (.slice b3 m3 d3)
    have p3 := O3.out.put3 h3 (.bool s3) (.slice a3 n3 c3) (.slice b3 m3 d3)
    have p4 := O4.out.put3 h4 (.bool s3) (.slice a3 n3 c3) (.slice b3 m3 d3)
    obtain ⟨W, hW⟩ : ∃ W, W = put3 w3 g2 (.bool s3) (.slice a3 n3 c3) (.slice b3 m3 d3) := ⟨_, rfl⟩
    change bodyPost _ _ _ _ _ (put3 w3 g2 (.bool s3) (.slice a3 n3 c3) (.slice b3 m3 d3))
    rw [← hW] at pbox pbel p3 p4 ⊢
    obtain ⟨r0, r1, r2⟩ := pbox.cells3
    refine bodyPost_ret (v := .agg #[.bool s3, .slice a3 n3 c3, .slice b3 m3 d3]) (by simp [results, Tryz.results23, go_sem, r0, r1, r2]) rfl ?_
    exact ⟨s3, a3, n3, c3, b3, m3, d3, rfl, HS3.out, p3, p4, by omega, by omega, pbel⟩
  · have hd : decide (g < 0) = false := by simpa using ht
    rw [if_neg ht] at hz
    rw [← hz] at HN1
    have HN1 := Lib.hid HN1
    clear hz ht HN2 A1 C1
    go_wp2_with fail
    refine (HN1.out _ BB1.out).mono ?_
    rintro e w3 ⟨s3, a3, n3, c3, b3, m3, d3, rfl, hs3, o3, o4, hn3, hm3, bb3⟩
    have K3 := KZ1.out.on bb3
    have BB3 := BB1.out.trans (bb3.mono BB1.out.size)
    have h3 := o3.hi (g := g2) KZ1.out.lt
    have h4 := o4.hi (g := g2) KZ1.out.lt
    have O3 := Lib.hid (o3.low BB1.out.size)
    have O4 := Lib.hid (o4.low BB1.out.size)
    obtain ⟨q0, q1, q2, q3, q4, q5⟩ := K3.store3 (.bool s3) (.slice a3 n3 c3)
    have HS3 := Lib.hid hs3
    clear hs3 bb3 o3 o4
    go_wp2_with fail
    have pbox := K3.put3 (.bool s3) (.slice a3 n3 c3) (.slice b3 m3 d3)
    have pbel := below_put3 BB3 hge (.bool s3) (.slice a3 n3 c3) (.slice b3 m3 d3)
    have p3 := O3.out.put3 h3 (.bool s3) (.slice a3 n3 c3) (.slice b3 m3 d3)
    have p4 := O4.out.put3 h4 (.bool s3) (.slice a3 n3 c3) (.slice b3 m3 d3)
    obtain ⟨W, hW⟩ : ∃ W, W = put3 w3 g2 (.bool s3) (.slice a3 n3 c3) (.slice b3 m3 d3) := ⟨_, rfl⟩
    change bodyPost _ _ _ _ _ (put3 w3 g2 (.bool s3) (.slice a3 n3 c3) (.slice b3 m3 d3))
    rw [← hW] at pbox pbel p3 p4 ⊢
    obtain ⟨r0, r1, r2⟩ := pbox.cells3
    refine bodyPost_ret (v := .agg #[.bool s3, .slice a3 n3 c3, .slice b3 m3 d3]) (by simp [results, Tryz.results23, go_sem, r0, r1, r2]) rfl ?_
    exact ⟨s3, a3, n3, c3, b3, m3, d3, rfl, HS3.out, p3, p4, by omega, by omega, pbel⟩
end Go.Proofs.YtmojcnlddfijjaaGreatDoor
