/-
  ratio.sum.
-/
import Derived.Test.YtmojcnlddfijjaaGreatDoorRatBase
import Derived.Deep.RegionHeld3
import Derived.Deep.RegionWith
import Derived.Deep.DeepCutAuto
namespace Go.Proofs.YtmojcnlddfijjaaGreatDoor
open Go.RowKit NatMath RatMath

/-- A Ratio with this value lies in block g. -/
def RatAt (w : World) (g : Nat) (x : R) (K : Nat) : Prop := ∃ (t : Bool) (e : Option Addr) (p f : Nat) (h : Option Addr) (q i : Nat) (us vs : List Int),
  Blk w g 25 #[.bool t, .slice e p f, .slice h q i] ∧ R.mk t (val us) (val vs) = x ∧ Lst .u32 w e p f us ∧ Lst .u32 w h q i vs ∧ p ≤ K ∧ q ≤ K

set_option maxHeartbeats 3200000 in
set_option maxRecDepth 100000 in
theorem sum_c (s1 s2 : Bool) (a1 b1 a2 b2 : Option Addr) (n1 c1 m1 d1 n2 c2 m2 d2 K : Nat) (xs1 ys1 xs2 ys2 : List Int) (w : World)
    (h1 : Lst .u32 w a1 n1 c1 xs1) (k1 : Lst .u32 w b1 m1 d1 ys1) (h2 : Lst .u32 w a2 n2 c2 xs2) (k2 : Lst .u32 w b2 m2 d2 ys2) (hn1 : n1 ≤ K) (hm1 : m1 ≤ K) (hn2 : n2 ≤ K) (hm2 : m2 ≤ K) (hK : K ≤ 400000) :
    Calls Tryz.prog 33 #[.agg #[.bool s1, .slice a1 n1 c1, .slice b1 m1 d1], .agg #[.bool s2, .slice a2 n2 c2, .slice b2 m2 d2]] w fun e w' => ∃ s a n c b m d, e = .returned (.tuple #[.bool s, .slice a n c, .slice b m d]) ∧ s = (sm (dv ⟨s1, val xs1, val ys1⟩) (dv ⟨s2, val xs2, val ys2⟩)).s ∧
      Own 66 .u32 w.heap.size w' a n c (limbs (sm (dv ⟨s1, val xs1, val ys1⟩) (dv ⟨s2, val xs2, val ys2⟩)).p) ∧ Own 66 .u32 w.heap.size w' b m d (limbs (sm (dv ⟨s1, val xs1, val ys1⟩) (dv ⟨s2, val xs2, val ys2⟩)).q) ∧ n ≤ 2 * K + 4 ∧ m ≤ 2 * K + 4 ∧ Below w.heap.size w w' := by
  obtain ⟨x, hx⟩ : ∃ x, Hid (x = dv ⟨s1, val xs1, val ys1⟩) := ⟨_, rfl⟩
  obtain ⟨y, hy⟩ : ∃ y, Hid (y = dv ⟨s2, val xs2, val ys2⟩) := ⟨_, rfl⟩
  have D1 := fun w1 (hb : Below w.heap.size w w1) => divisible_c s1 a1 b1 n1 c1 m1 d1 xs1 ys1 w1 (h1.below hb) (k1.below hb) (by omega) (by omega)
  have D2 := fun w1 (hb : Below w.heap.size w w1) => divisible_c s2 a2 b2 n2 c2 m2 d2 xs2 ys2 w1 (h2.below hb) (k2.below hb) (by omega) (by omega)
  rw [← hx.out] at D1 ⊢
  rw [← hy.out] at D2 ⊢
  have D1 := Lib.hid D1; have D2 := Lib.hid D2
  have N1 := Lib.hid h1.block; have N2 := Lib.hid k1.block; have N3 := Lib.hid h2.block; have N4 := Lib.hid k2.block
  clear h1 k1 h2 k2
  go_enter Tryz.func33, Tryz.ntmps33
  go_wp2_with fail
  have A0 := (Blk.new w 25 #[.bool s1, .slice a1 n1 c1, .slice b1 m1 d1]).alloc (.cells #[.bool s2, .slice a2 n2 c2, .slice b2 m2 d2] 25)
  have C0 := Blk.new (w.alloc (.cells #[.bool s1, .slice a1 n1 c1, .slice b1 m1 d1] 25)) 25 #[.bool s2, .slice a2 n2 c2, .slice b2 m2 d2]
  rw [show (w.alloc (.cells #[.bool s1, .slice a1 n1 c1, .slice b1 m1 d1] 25)).heap.size = w.heap.size + 1 by simp] at C0
  have bb : Below w.heap.size w ((w.alloc (.cells #[.bool s1, .slice a1 n1 c1, .slice b1 m1 d1] 25)).alloc (.cells #[.bool s2, .slice a2 n2 c2, .slice b2 m2 d2] 25)) := ((Below.refl w.heap.size w).alloc (Nat.le_refl _) _).alloc (by simp) _
  obtain ⟨W0, hW0⟩ : ∃ W0, W0 = ((w.alloc (.cells #[.bool s1, .slice a1 n1 c1, .slice b1 m1 d1] 25)).alloc (.cells #[.bool s2, .slice a2 n2 c2, .slice b2 m2 d2] 25)) := ⟨_, rfl⟩
  rw [← hW0] at A0 C0 bb ⊢
  obtain ⟨x0, x1, x2⟩ := A0.cells3
  obtain ⟨y0, y1, y2⟩ := C0.cells3
  have BB : Hid (Below w.heap.size w W0.drew) := bb.drew
  have AA : Hid (Blk W0.drew w.heap.size 25 #[.bool s1, .slice a1 n1 c1, .slice b1 m1 d1]) := A0
  have CC : Hid (Blk W0.drew (w.heap.size + 1) 25 #[.bool s2, .slice a2 n2 c2, .slice b2 m2 d2]) := C0
  clear hW0 A0 C0 bb
  go_cut [14] (fun s14 wx => RatAt wx w.heap.size x (K + 1) ∧ RatAt wx (w.heap.size + 1) y (K + 1) ∧ Below w.heap.size w wx)
  case first =>
    go_region_with ((first
      | (go_at_call_of 59 (Value.agg #[Value.bool s1, Value.slice a1 n1 c1, Value.slice b1 m1 d1]); refine (D1.out W0.drew BB.out).mono ?_; rintro e v1 ⟨t1, e1, p1, f1, g1, q1, i1, us1, vs1, rfl, hx1, L1, M1, hp1, hq1, aw1, aw2, B1⟩; have A1 := AA.out.on B1; have C1 := CC.out.on B1; have B1' := BB.out.trans (B1.mono BB.out.size); obtain ⟨z0, z1, z2⟩ := C1.cells3)
      | (go_at_call 59; refine (D2.out v1 B1').mono ?_; rintro e v2 ⟨t2, e2, p2, f2, g2, q2, i2, us2, vs2, rfl, hy2, L2, M2, hp2, hq2, aw3, aw4, B2⟩; have A2 := A1.on B2; have C2 := C1.on B2; have B2' := B1'.trans (B2.mono B1'.size); obtain ⟨k0, k1, k2, k3, k4, k5⟩ := A2.store3 (.bool t1) (.slice e1 p1 f1); obtain ⟨j0, j1, j2, j3, j4, j5⟩ := (put3_other (g := w.heap.size) C2 (by omega) (.bool t1) (.slice e1 p1 f1) (.slice g1 q1 i1)).store3 (.bool t2) (.slice e2 p2 f2); unfold put3 at j0 j1 j2 j3 j4 j5)))
    all_goals
      go_wp2_with fail
      go_meet
      have hw0 : W0.drew.heap.size = W0.heap.size := rfl
      have hs0 := AA.out.lt
      have hs1 := CC.out.lt
      have hs2 := B1.size
      have X1 := ((L1.below B2).put3 (aw1 w.heap.size hs0 (fun j hj => by have := N1.out j hj; omega)) (.bool t1) (.slice e1 p1 f1) (.slice g1 q1 i1)).put3 (aw1 (w.heap.size + 1) hs1 (fun j hj => by have := N1.out j hj; omega)) (.bool t2) (.slice e2 p2 f2) (.slice g2 q2 i2)
      have X2 := ((M1.below B2).put3 (aw2 w.heap.size hs0 (fun j hj => by have := N2.out j hj; omega)) (.bool t1) (.slice e1 p1 f1) (.slice g1 q1 i1)).put3 (aw2 (w.heap.size + 1) hs1 (fun j hj => by have := N2.out j hj; omega)) (.bool t2) (.slice e2 p2 f2) (.slice g2 q2 i2)
      have X3 := (L2.put3 (aw3 w.heap.size (by omega) (fun j hj => by have := N3.out j hj; omega)) (.bool t1) (.slice e1 p1 f1) (.slice g1 q1 i1)).put3 (aw3 (w.heap.size + 1) (by omega) (fun j hj => by have := N3.out j hj; omega)) (.bool t2) (.slice e2 p2 f2) (.slice g2 q2 i2)
      have X4 := (M2.put3 (aw4 w.heap.size (by omega) (fun j hj => by have := N4.out j hj; omega)) (.bool t1) (.slice e1 p1 f1) (.slice g1 q1 i1)).put3 (aw4 (w.heap.size + 1) (by omega) (fun j hj => by have := N4.out j hj; omega)) (.bool t2) (.slice e2 p2 f2) (.slice g2 q2 i2)
      have Y1 := put3_other (g := w.heap.size + 1) (A2.put3 (.bool t1) (.slice e1 p1 f1) (.slice g1 q1 i1)) (by omega) (.bool t2) (.slice e2 p2 f2) (.slice g2 q2 i2)
      have Y2 := (put3_other (g := w.heap.size) C2 (by omega) (.bool t1) (.slice e1 p1 f1) (.slice g1 q1 i1)).put3 (.bool t2) (.slice e2 p2 f2) (.slice g2 q2 i2)
      have Y3 := below_put3 (g := w.heap.size + 1) (below_put3 (g := w.heap.size) B2' (Nat.le_refl _) (.bool t1) (.slice e1 p1 f1) (.slice g1 q1 i1)) (Nat.le_succ _) (.bool t2) (.slice e2 p2 f2) (.slice g2 q2 i2)
      exact ⟨⟨t1, e1, p1, f1, g1, q1, i1, us1, vs1, Y1, hx1, X1, X2, by omega, by omega⟩, ⟨t2, e2, p2, f2, g2, q2, i2, us2, vs2, Y2, hy2, X3, X4, by omega, by omega⟩, Y3⟩
  case rest =>
    obtain ⟨⟨t1, e1, p1, f1, g1, q1, i1, us1, vs1, A, hx1, L1, M1, hp1, hq1⟩, ⟨t2, e2, p2, f2, g2, q2, i2, us2, vs2, C, hy2, L2, M2, hp2, hq2⟩, bb⟩ := hcut
    obtain ⟨x0, x1, x2⟩ := A.cells3
    obtain ⟨y0, y1, y2⟩ := C.cells3
    go_wp2_with fail
    have DL1 : Hid (Lst .u32 wc.drew e1 p1 f1 us1) := L1.drewN 1
    have DM1 : Hid (Lst .u32 wc.drew g1 q1 i1 vs1) := M1.drewN 1
    have DL2 : Hid (Lst .u32 wc.drew e2 p2 f2 us2) := L2.drewN 1
    have DM2 : Hid (Lst .u32 wc.drew g2 q2 i2 vs2) := M2.drewN 1
    have DA : Hid (Blk wc.drew w.heap.size 25 #[.bool t1, .slice e1 p1 f1, .slice g1 q1 i1]) := A
    have DC : Hid (Blk wc.drew (w.heap.size + 1) 25 #[.bool t2, .slice e2 p2 f2, .slice g2 q2 i2]) := C
    have DB : Hid (Below w.heap.size w wc.drew) := bb.drew
    clear L1 M1 L2 M2 A C bb
    go_region_held3 (fun w' => w'.cell? ⟨w.heap.size, 0, none⟩ = some (.bool t1) ∧ w'.cell? ⟨w.heap.size, 1, none⟩ = some (.slice e1 p1 f1) ∧ w'.cell? ⟨w.heap.size, 2, none⟩ = some (.slice g1 q1 i1) ∧ w'.cell? ⟨w.heap.size + 1, 0, none⟩ = some (.bool t2) ∧ w'.cell? ⟨w.heap.size + 1, 1, none⟩ = some (.slice e2 p2 f2) ∧ w'.cell? ⟨w.heap.size + 1, 2, none⟩ = some (.slice g2 q2 i2)) (go_keep) (first
      | (go_at_call_of 41 (Value.slice e1 p1 f1); refine (mul_c _ _ _ _ _ _ us1 vs2 wc.drew DL1.out DM2.out (by omega) (by omega)).mono ?_; rintro e v1 ⟨a3, n3, c3, rfl, hn3, o3, B1⟩; have A1 := DA.out.on B1; have C1 := DC.out.on B1; obtain ⟨z0, z1, z2⟩ := A1.cells3; obtain ⟨zz0, zz1, zz2⟩ := C1.cells3)
      | (go_at_call 41; refine (mul_c _ _ _ _ _ _ us2 vs1 v1 (DL2.out.below B1) (DM1.out.below B1) (by omega) (by omega)).mono ?_; rintro e v2 ⟨a4, n4, c4, rfl, hn4, o4, B2⟩; have A2 := A1.on B2; have C2 := C1.on B2; obtain ⟨k0, k1, k2⟩ := A2.cells3; obtain ⟨kk0, kk1, kk2⟩ := C2.cells3))
    have EL1 := Lib.hid ((DL1.out.below B1).below B2)
    have EM1 := Lib.hid ((DM1.out.below B1).below B2)
    have EL2 := Lib.hid ((DL2.out.below B1).below B2)
    have EM2 := Lib.hid ((DM2.out.below B1).below B2)
    have EX := Lib.hid (o3.kept B2)
    have EY := Lib.hid o4
    have B12 : Below wc.drew.heap.size wc.drew v2 := B1.trans (B2.mono B1.size)
    have BB2 := Lib.hid (DB.out.trans (B12.mono DB.out.size))
    have A3 := A2
    have hsz : Hid (wc.drew.heap.size ≤ v1.heap.size ∧ w.heap.size ≤ wc.drew.heap.size) := ⟨B1.size, DB.out.size⟩
    clear A1 C1 z0 z1 z2 zz0 zz1 zz2 o3 o4 B1 B2 B12 DL1 DM1 DL2 DM2 DA DC DB
    go_wp2_with fail
    refine (mul_c _ _ _ _ _ _ vs1 vs2 v2 EM1.out EM2.out (by omega) (by omega)).mono ?_
    rintro e v3 ⟨a5, n5, c5, rfl, hn5, o5, B3⟩
    have F1 := Lib.hid ((EX.out.kept B3).low hsz.out.2)
    have F2 := Lib.hid ((EY.out.kept B3).low (Nat.le_trans hsz.out.2 hsz.out.1))
    have F3 := Lib.hid (o5.low BB2.out.size)
    have BB3 := Lib.hid (BB2.out.trans (B3.mono BB2.out.size))
    have A4 := A2.on B3
    have C4 := C2.on B3
    obtain ⟨k0, k1, k2⟩ := A4.cells3
    obtain ⟨kk0, kk1, kk2⟩ := C4.cells3
    clear A2 C2 A3 EX EY o5 B3 EL1 EM1 EL2 EM2
    obtain ⟨P, hP⟩ : ∃ P, Hid (P = val us1 * val vs2) := ⟨_, rfl⟩
    obtain ⟨S, hS⟩ : ∃ S, Hid (S = val us2 * val vs1) := ⟨_, rfl⟩
    obtain ⟨D, hD⟩ : ∃ D, Hid (D = val vs1 * val vs2) := ⟨_, rfl⟩
    rw [← hP.out] at F1
    rw [← hS.out] at F2
    rw [← hD.out] at F3
    by_cases hs : t1 = t2
    · subst hs
      have hsm : sm x y = ⟨t1, P + S, D⟩ := by
        rw [← hx1, ← hy2, hP.out, hS.out, hD.out]
        unfold sm
        rw [if_pos rfl]
      have HSM := Lib.hid hsm
      clear hsm
      have hbeq : (t1 == t1) = true := by simp
      have H1 : Hid (Lst .u32 v3.drew a3 n3 c3 (limbs P)) := F1.out.lst.drewN 1
      have H2 : Hid (Lst .u32 v3.drew a4 n4 c4 (limbs S)) := F2.out.lst.drewN 1
      have H3 : Hid (Own 66 .u32 w.heap.size v3.drew a5 n5 c5 (limbs D)) := F3.out.drewN 1
      have HB : Hid (Below w.heap.size w v3.drew) := BB3.out.drew
      have HA : Hid (Blk v3.drew w.heap.size 25 #[.bool t1, .slice e1 p1 f1, .slice g1 q1 i1]) := A4
      have HC : Hid (Blk v3.drew (w.heap.size + 1) 25 #[.bool t1, .slice e2 p2 f2, .slice g2 q2 i2]) := C4
      clear A4 C4
      go_wp2_with fail
      go_region_held3 (fun w' => w'.cell? ⟨w.heap.size, 0, none⟩ = some (.bool t1) ∧ w'.cell? ⟨w.heap.size + 1, 0, none⟩ = some (.bool t1)) (go_keep) (first
        | (go_at_call 60; refine (add_c _ _ _ _ _ _ _ _ v3.drew H1.out H2.out (by omega) (by omega)).mono ?_; rintro e v4 ⟨a6, n6, c6, rfl, hn6, o6, B4⟩; have A5 := HA.out.on B4; have C5 := HC.out.on B4; obtain ⟨l0, l1, l2⟩ := A5.cells3; obtain ⟨ll0, ll1, ll2⟩ := C5.cells3))
      go_wp2_with fail
      go_ret3
      rw [val_limbs, val_limbs] at o6
      rw [HSM.out]
      exact ⟨t1, a6, n6, c6, a5, n5, c5, rfl, rfl, o6.low HB.out.size, H3.out.kept B4, by omega, by omega, HB.out.trans (B4.mono HB.out.size)⟩
    · have hbeq : (t1 == t2) = false := by simpa using hs
      have HSU := sub_c a3 a4 n3 c3 n4 c4 (limbs P) (limbs S) v3 F1.out.lst F2.out.lst (by omega)
      rw [val_limbs, val_limbs] at HSU
      by_cases hle : S ≤ P
      · have hd : decide (S ≤ P) = true := by simpa using hle
        rw [hd] at HSU
        have hsm : sm x y = ⟨t1, P - S, D⟩ := by
          rw [← hx1, ← hy2, hP.out, hS.out, hD.out]
          unfold sm
          rw [if_neg hs, if_pos (by rw [hP.out, hS.out] at hle; exact hle)]
        have HSM := Lib.hid hsm
        have HSU := Lib.hid HSU
        clear hsm hd hle hs
        go_wp2_with fail
        refine HSU.out.mono ?_
        rintro e v4 ⟨a6, n6, c6, rfl, o6, B4⟩
        have A5 := A4.on B4
        have C5 := C4.on B4
        obtain ⟨l0, l1, l2⟩ := A5.cells3
        obtain ⟨ll0, ll1, ll2⟩ := C5.cells3
        have hn6 : n6 ≤ n3 := by rw [← o6.len, ← F1.out.len]; exact limbs_len_mono (Nat.sub_le _ _)
        have O6 := Lib.hid (o6.low BB3.out.size)
        have O5 := Lib.hid (F3.out.kept B4)
        have BB4 := Lib.hid (BB3.out.trans (B4.mono BB3.out.size))
        clear A4 C4 k0 k1 k2 kk0 kk1 kk2 o6 B4 HSU
        go_wp2_with fail
        go_ret3
        rw [HSM.out]
        exact ⟨t1, a6, n6, c6, a5, n5, c5, rfl, rfl, O6.out, O5.out, by omega, by omega, BB4.out⟩
      · have hd : decide (S ≤ P) = false := by simpa using hle
        rw [hd] at HSU
        have hsm : sm x y = ⟨t2, S - P, D⟩ := by
          rw [← hx1, ← hy2, hP.out, hS.out, hD.out]
          unfold sm
          rw [if_neg hs, if_neg (by rw [hP.out, hS.out] at hle; exact hle)]
        have HSM := Lib.hid hsm
        have HSU := Lib.hid HSU
        clear hsm hd hle hs
        go_wp2_with fail
        refine HSU.out.mono ?_
        rintro e v4 ⟨a6, n6, c6, rfl, o6, B4⟩
        have A5 := A4.on B4
        have C5 := C4.on B4
        obtain ⟨l0, l1, l2⟩ := A5.cells3
        obtain ⟨ll0, ll1, ll2⟩ := C5.cells3
        have BB4 := Lib.hid (BB3.out.trans (B4.mono BB3.out.size))
        have HS2 := sub_c a4 a3 n4 c4 n3 c3 (limbs S) (limbs P) v4 (F2.out.kept B4).lst (F1.out.kept B4).lst (by omega)
        rw [val_limbs, val_limbs] at HS2
        obtain ⟨bq, hbq⟩ : ∃ bq, Hid (bq = decide (P ≤ S)) := ⟨_, rfl⟩
        rw [← hbq.out] at HS2
        have HS2 := Lib.hid HS2
        have O5 := Lib.hid (F3.out.kept B4)
        have AA5 := Lib.hid A5
        have CC5 := Lib.hid C5
        clear A4 C4 k0 k1 k2 kk0 kk1 kk2 o6 B4 HSU A5 C5
        go_wp2_with fail
        refine HS2.out.mono ?_
        rintro e v5 ⟨a7, n7, c7, rfl, o7, B5⟩
        have A6 := AA5.out.on B5
        have C6 := CC5.out.on B5
        obtain ⟨i0, i1', i2'⟩ := A6.cells3
        obtain ⟨ii0, ii1, ii2⟩ := C6.cells3
        have hn7 : n7 ≤ n4 := by rw [← o7.len, ← F2.out.len]; exact limbs_len_mono (Nat.sub_le _ _)
        have O7 := Lib.hid (o7.low BB4.out.size)
        have O8 := Lib.hid (O5.out.kept B5)
        have BB5 := Lib.hid (BB4.out.trans (B5.mono BB4.out.size))
        clear A6 C6 l0 l1 l2 ll0 ll1 ll2 o7 B5 HS2
        go_wp2_with fail
        go_ret3
        rw [HSM.out]
        exact ⟨t2, a7, n7, c7, a5, n5, c5, rfl, rfl, O7.out, O8.out, by omega, by omega, BB5.out⟩
end Go.Proofs.YtmojcnlddfijjaaGreatDoor

/-
  ratio.Add, ratio.Mul, ratio.Div, ratio.Cmp, ratio.Floor.
-/
namespace Go.Proofs.YtmojcnlddfijjaaGreatDoor
open Go.RowKit NatMath RatMath

set_option maxHeartbeats 3200000 in
set_option maxRecDepth 100000 in
theorem radd_c (s1 s2 : Bool) (a1 b1 a2 b2 : Option Addr) (n1 c1 m1 d1 n2 c2 m2 d2 K : Nat) (xs1 ys1 xs2 ys2 : List Int) (w : World)
    (h1 : Lst .u32 w a1 n1 c1 xs1) (k1 : Lst .u32 w b1 m1 d1 ys1) (h2 : Lst .u32 w a2 n2 c2 xs2) (k2 : Lst .u32 w b2 m2 d2 ys2) (hn1 : n1 ≤ K) (hm1 : m1 ≤ K) (hn2 : n2 ≤ K) (hm2 : m2 ≤ K) (hK : K ≤ 400000) :
    Calls Tryz.prog 10 #[.agg #[.bool s1, .slice a1 n1 c1, .slice b1 m1 d1], .agg #[.bool s2, .slice a2 n2 c2, .slice b2 m2 d2]] w fun e w' => ∃ s a n c b m d, e = .returned (.agg #[.bool s, .slice a n c, .slice b m d]) ∧ s = (nf (sm (dv ⟨s1, val xs1, val ys1⟩) (dv ⟨s2, val xs2, val ys2⟩))).s ∧ Own 66 .u32 w.heap.size w' a n c (limbs (nf (sm (dv ⟨s1, val xs1, val ys1⟩) (dv ⟨s2, val xs2, val ys2⟩))).p) ∧ Own 66 .u32 w.heap.size w' b m d (limbs (nf (sm (dv ⟨s1, val xs1, val ys1⟩) (dv ⟨s2, val xs2, val ys2⟩))).q) ∧ n ≤ 2 * K + 4 ∧ m ≤ 2 * K + 5 ∧ Below w.heap.size w w' := by
  have HS := fun w1 (hb : Below w.heap.size w w1) => sum_c s1 s2 a1 b1 a2 b2 n1 c1 m1 d1 n2 c2 m2 d2 K xs1 ys1 xs2 ys2 w1 (h1.below hb) (k1.below hb) (h2.below hb) (k2.below hb) hn1 hm1 hn2 hm2 hK
  obtain ⟨z, hz⟩ : ∃ z, Hid (z = sm (dv ⟨s1, val xs1, val ys1⟩) (dv ⟨s2, val xs2, val ys2⟩)) := ⟨_, rfl⟩
  rw [← hz.out] at HS ⊢
  have HS := Lib.hid HS
  clear h1 k1 h2 k2
  go_enter Tryz.func10, Tryz.ntmps10
  go_wp2_with fail
  obtain ⟨W0, hW0, kA, kB, kZ, bb⟩ := boxed3 w 25 #[.bool s1, .slice a1 n1 c1, .slice b1 m1 d1] #[.bool s2, .slice a2 n2 c2, .slice b2 m2 d2] #[.bool false, .slice none 0 0, .slice none 0 0]
  rw [← hW0]
  refine (HS.out W0 bb).mono ?_
  rintro e w2 ⟨s, a, n, c, b, m, d, rfl, hs, o1, o2, hn, hm, bb2⟩
  have kZ2 := kZ.on bb2
  have BB2 := bb.trans (bb2.mono bb.size)
  have hmk := make_c s a b n c m d (limbs z.p) (limbs z.q) w2 o1.lst o2.lst (by omega) (by omega)
  rw [val_limbs, val_limbs, hs] at hmk
  have HM := Lib.hid hmk
  subst hs
  clear hmk o1 o2 bb2 kA kB kZ bb hW0 HS
  go_wp2_with fail
  refine HM.out.mono ?_
  rintro e w3 ⟨s3, a3, n3, c3, b3, m3, d3, rfl, hs3, o3, o4, hn3, hm3, bb3⟩
  have K3 := kZ2.on bb3
  have BB3 := BB2.trans (bb3.mono BB2.size)
  have h3 := o3.hi (g := w.heap.size + 1 + 1) kZ2.lt
  have h4 := o4.hi (g := w.heap.size + 1 + 1) kZ2.lt
  have O3 := Lib.hid (o3.low BB2.size)
  have O4 := Lib.hid (o4.low BB2.size)
  obtain ⟨q0, q1, q2, q3, q4, q5⟩ := K3.store3 (.bool s3) (.slice a3 n3 c3)
  have HS3 := Lib.hid hs3
  clear hs3 bb3 o3 o4
  go_wp2_with fail
  have pbox := K3.put3 (.bool s3) (.slice a3 n3 c3) (.slice b3 m3 d3)
  have pbel := below_put3 BB3 (show w.heap.size ≤ w.heap.size + 1 + 1 by omega) (.bool s3) (.slice a3 n3 c3) (.slice b3 m3 d3)
  have p3 := O3.out.put3 h3 (.bool s3) (.slice a3 n3 c3) (.slice b3 m3 d3)
  have p4 := O4.out.put3 h4 (.bool s3) (.slice a3 n3 c3) (.slice b3 m3 d3)
  obtain ⟨W, hW⟩ : ∃ W, W = put3 w3 (w.heap.size + 1 + 1) (.bool s3) (.slice a3 n3 c3) (.slice b3 m3 d3) := ⟨_, rfl⟩
  change bodyPost _ _ _ _ _ (put3 w3 (w.heap.size + 1 + 1) (.bool s3) (.slice a3 n3 c3) (.slice b3 m3 d3))
  rw [← hW] at pbox pbel p3 p4 ⊢
  obtain ⟨r0, r1, r2⟩ := pbox.cells3
  refine bodyPost_ret (v := .agg #[.bool s3, .slice a3 n3 c3, .slice b3 m3 d3]) (by simp [results, Tryz.results10, go_sem, r0, r1, r2]) rfl ?_
  exact ⟨s3, a3, n3, c3, b3, m3, d3, rfl, HS3.out, p3, p4, by omega, by omega, pbel⟩

set_option maxHeartbeats 6400000 in
set_option maxRecDepth 100000 in
theorem rmul_c (s1 s2 : Bool) (a1 b1 a2 b2 : Option Addr) (n1 c1 m1 d1 n2 c2 m2 d2 K : Nat) (xs1 ys1 xs2 ys2 : List Int) (w : World)
    (h1 : Lst .u32 w a1 n1 c1 xs1) (k1 : Lst .u32 w b1 m1 d1 ys1) (h2 : Lst .u32 w a2 n2 c2 xs2) (k2 : Lst .u32 w b2 m2 d2 ys2) (hn1 : n1 ≤ K) (hm1 : m1 ≤ K) (hn2 : n2 ≤ K) (hm2 : m2 ≤ K) (hK : K ≤ 400000) :
    Calls Tryz.prog 16 #[.agg #[.bool s1, .slice a1 n1 c1, .slice b1 m1 d1], .agg #[.bool s2, .slice a2 n2 c2, .slice b2 m2 d2]] w fun e w' => ∃ s a n c b m d, e = .returned (.agg #[.bool s, .slice a n c, .slice b m d]) ∧ s = (nf (ml ⟨s1, val xs1, val ys1⟩ ⟨s2, val xs2, val ys2⟩)).s ∧ Own 66 .u32 w.heap.size w' a n c (limbs (nf (ml ⟨s1, val xs1, val ys1⟩ ⟨s2, val xs2, val ys2⟩)).p) ∧ Own 66 .u32 w.heap.size w' b m d (limbs (nf (ml ⟨s1, val xs1, val ys1⟩ ⟨s2, val xs2, val ys2⟩)).q) ∧ n ≤ 2 * K + 4 ∧ m ≤ 2 * K + 5 ∧ Below w.heap.size w w' := by
  have HX := fun w1 (hb : Below w.heap.size w w1) => mul_c a1 a2 n1 c1 n2 c2 xs1 xs2 w1 (h1.below hb) (h2.below hb) (by omega) (by omega)
  have HY := fun w1 (hb : Below w.heap.size w w1) => mul_c b1 b2 m1 d1 m2 d2 ys1 ys2 w1 (k1.below hb) (k2.below hb) (by omega) (by omega)
  have HX := Lib.hid HX; have HY := Lib.hid HY
  clear h1 k1 h2 k2
  go_enter Tryz.func16, Tryz.ntmps16
  go_wp2_with fail
  obtain ⟨W0, hW0, kA, kB, kZ, bb⟩ := boxed3 w 25 #[.bool s1, .slice a1 n1 c1, .slice b1 m1 d1] #[.bool s2, .slice a2 n2 c2, .slice b2 m2 d2] #[.bool false, .slice none 0 0, .slice none 0 0]
  rw [← hW0]
  obtain ⟨g2, hg2⟩ : ∃ g2, g2 = w.heap.size + 1 + 1 := ⟨_, rfl⟩
  rw [← hg2] at kZ ⊢
  have hge : w.heap.size ≤ g2 := by omega
  have hne0 : w.heap.size ≠ g2 := by omega
  have hne1 : w.heap.size + 1 ≠ g2 := by omega
  have hne2 : g2 ≠ w.heap.size := by omega
  have hne3 : g2 ≠ w.heap.size + 1 := by omega
  have HG2 := Lib.hid hg2
  clear hg2
  have DA : Hid (Blk W0.drew w.heap.size 25 #[.bool s1, .slice a1 n1 c1, .slice b1 m1 d1]) := kA
  have DC : Hid (Blk W0.drew (w.heap.size + 1) 25 #[.bool s2, .slice a2 n2 c2, .slice b2 m2 d2]) := kB
  have DZ : Hid (Blk W0.drew g2 25 #[.bool false, .slice none 0 0, .slice none 0 0]) := kZ
  have DB : Hid (Below w.heap.size w W0.drew) := bb.drew
  obtain ⟨y0, y1, y2⟩ := kA.cells3
  obtain ⟨yy0, yy1, yy2⟩ := kB.cells3
  clear kA kB kZ bb hW0
  go_region_held3 (fun w' => w'.cell? ⟨w.heap.size, 0, none⟩ = some (.bool s1) ∧ w'.cell? ⟨w.heap.size, 1, none⟩ = some (.slice a1 n1 c1) ∧ w'.cell? ⟨w.heap.size, 2, none⟩ = some (.slice b1 m1 d1) ∧ w'.cell? ⟨w.heap.size + 1, 0, none⟩ = some (.bool s2) ∧ w'.cell? ⟨w.heap.size + 1, 1, none⟩ = some (.slice a2 n2 c2) ∧ w'.cell? ⟨w.heap.size + 1, 2, none⟩ = some (.slice b2 m2 d2)) (go_keep) (first
    | (go_at_call_of 41 (Value.slice a1 n1 c1); refine (HX.out W0.drew DB.out).mono ?_; rintro e v1 ⟨a3, n3, c3, rfl, hn3, o3, B1⟩; have A1 := DA.out.on B1; have C1 := DC.out.on B1; obtain ⟨z0, z1, z2⟩ := A1.cells3; obtain ⟨zz0, zz1, zz2⟩ := C1.cells3; have Z1 := DZ.out.on B1; have BB1 := DB.out.trans (B1.mono DB.out.size))
    | (go_at_call 41; refine (HY.out v1 BB1).mono ?_; rintro e v2 ⟨a4, n4, c4, rfl, hn4, o4, B2⟩; have A2 := A1.on B2; have C2 := C1.on B2; obtain ⟨k0, k1, k2⟩ := A2.cells3; obtain ⟨kk0, kk1, kk2⟩ := C2.cells3; have Z2 := Z1.on B2; have BB2 := BB1.trans (B2.mono BB1.size); have o3' := o3.kept B2)
    | (go_at_call 32; refine (make_c _ _ _ _ _ _ _ _ _ v2 o3'.lst o4.lst (by omega) (by omega)).mono ?_; rintro e v3 ⟨s5, a5, n5, c5, b5, m5, d5, rfl, hs5, o5, o6, hn5, hm5, B3⟩; have A3 := A2.on B3; have C3 := C2.on B3; obtain ⟨l0, l1, l2⟩ := A3.cells3; obtain ⟨ll0, ll1, ll2⟩ := C3.cells3; have Z3 := Z2.on B3; have BB3 := BB2.trans (B3.mono BB2.size); obtain ⟨q0, q1, q2, q3, q4, q5⟩ := Z3.store3 (.bool s5) (.slice a5 n5 c5); have HS5 := Lib.hid hs5; clear hs5))
  go_wp2_with fail
  have h3 := o5.hi (g := g2) Z2.lt
  have h4 := o6.hi (g := g2) Z2.lt
  have O3 := o5.low BB2.size
  have O4 := o6.low BB2.size
  have hs5 := HS5.out
  rw [val_limbs, val_limbs] at O3 O4 hs5
  have pbox := Z3.put3 (.bool s5) (.slice a5 n5 c5) (.slice b5 m5 d5)
  have pbel := below_put3 BB3 hge (.bool s5) (.slice a5 n5 c5) (.slice b5 m5 d5)
  have p3 := O3.put3 h3 (.bool s5) (.slice a5 n5 c5) (.slice b5 m5 d5)
  have p4 := O4.put3 h4 (.bool s5) (.slice a5 n5 c5) (.slice b5 m5 d5)
  obtain ⟨W, hW⟩ : ∃ W, W = put3 v3 g2 (.bool s5) (.slice a5 n5 c5) (.slice b5 m5 d5) := ⟨_, rfl⟩
  change bodyPost _ _ _ _ _ (put3 v3 g2 (.bool s5) (.slice a5 n5 c5) (.slice b5 m5 d5))
  rw [← hW] at pbox pbel p3 p4 ⊢
  obtain ⟨r0, r1, r2⟩ := pbox.cells3
  refine bodyPost_ret (v := .agg #[.bool s5, .slice a5 n5 c5, .slice b5 m5 d5]) (by simp [results, Tryz.results16, go_sem, r0, r1, r2]) rfl ?_
  exact ⟨s5, a5, n5, c5, b5, m5, d5, rfl, hs5, p3, p4, by omega, by omega, pbel⟩
end Go.Proofs.YtmojcnlddfijjaaGreatDoor

/-
  ratio.Cmp, ratio.Div, ratio.Floor.
-/
namespace Go.Proofs.YtmojcnlddfijjaaGreatDoor
open Go.RowKit NatMath RatMath

set_option maxHeartbeats 3200000 in
set_option maxRecDepth 100000 in
theorem rcmp_c (s1 s2 : Bool) (a1 b1 a2 b2 : Option Addr) (n1 c1 m1 d1 n2 c2 m2 d2 K : Nat) (xs1 ys1 xs2 ys2 : List Int) (w : World)
    (h1 : Lst .u32 w a1 n1 c1 xs1) (k1 : Lst .u32 w b1 m1 d1 ys1) (h2 : Lst .u32 w a2 n2 c2 xs2) (k2 : Lst .u32 w b2 m2 d2 ys2) (hn1 : n1 ≤ K) (hm1 : m1 ≤ K) (hn2 : n2 ≤ K) (hm2 : m2 ≤ K) (hK : K ≤ 400000) :
    Calls Tryz.prog 21 #[.agg #[.bool s1, .slice a1 n1 c1, .slice b1 m1 d1], .agg #[.bool s2, .slice a2 n2 c2, .slice b2 m2 d2]] w fun e w' => e = .returned (.int .i64 (RatMath.cmp ⟨s1, val xs1, val ys1⟩ ⟨s2, val xs2, val ys2⟩)) ∧ Below w.heap.size w w' := by
  have HS := fun w1 (hb : Below w.heap.size w w1) => sum_c s1 (!s2) a1 b1 a2 b2 n1 c1 m1 d1 n2 c2 m2 d2 K xs1 ys1 xs2 ys2 w1 (h1.below hb) (k1.below hb) (h2.below hb) (k2.below hb) hn1 hm1 hn2 hm2 hK
  obtain ⟨z, hz⟩ : ∃ z, Hid (z = sm (dv ⟨s1, val xs1, val ys1⟩) (dv ⟨!s2, val xs2, val ys2⟩)) := ⟨_, rfl⟩
  have hcmp : RatMath.cmp ⟨s1, val xs1, val ys1⟩ ⟨s2, val xs2, val ys2⟩ = if z.p = 0 then 0 else if z.s then -1 else 1 := by rw [hz.out]; rfl
  rw [← hz.out] at HS
  have HS := Lib.hid HS
  have HC := Lib.hid hcmp
  obtain ⟨g, hg⟩ : ∃ g, Hid (g = RatMath.cmp ⟨s1, val xs1, val ys1⟩ ⟨s2, val xs2, val ys2⟩) := ⟨_, rfl⟩
  rw [← hg.out] at HC ⊢
  clear h1 k1 h2 k2 hcmp
  go_enter Tryz.func21, Tryz.ntmps21
  go_wp2_with fail
  obtain ⟨W0, hW0, kA, kB, bb⟩ := boxed2 w 25 #[.bool s1, .slice a1 n1 c1, .slice b1 m1 d1] #[.bool s2, .slice a2 n2 c2, .slice b2 m2 d2]
  rw [← hW0]
  have DA : Hid (Blk W0.drew w.heap.size 25 #[.bool s1, .slice a1 n1 c1, .slice b1 m1 d1]) := kA
  have DC : Hid (Blk W0.drew (w.heap.size + 1) 25 #[.bool s2, .slice a2 n2 c2, .slice b2 m2 d2]) := kB
  have DB : Hid (Below w.heap.size w W0.drew) := bb.drew
  obtain ⟨y0, y1, y2⟩ := kA.cells3
  obtain ⟨yy0, yy1, yy2⟩ := kB.cells3
  clear kA kB bb hW0
  go_region_held3 (fun w' => w'.cell? ⟨w.heap.size, 0, none⟩ = some (.bool s1) ∧ w'.cell? ⟨w.heap.size, 1, none⟩ = some (.slice a1 n1 c1) ∧ w'.cell? ⟨w.heap.size, 2, none⟩ = some (.slice b1 m1 d1) ∧ w'.cell? ⟨w.heap.size + 1, 0, none⟩ = some (.bool s2) ∧ w'.cell? ⟨w.heap.size + 1, 1, none⟩ = some (.slice a2 n2 c2) ∧ w'.cell? ⟨w.heap.size + 1, 2, none⟩ = some (.slice b2 m2 d2)) (go_keep) (first
    | (go_at_call 38; refine (negate_c s2 a2 b2 n2 c2 m2 d2 W0.drew).mono ?_; rintro e w1 ⟨rfl, B1⟩; have A1 := DA.out.on B1; have C1 := DC.out.on B1; obtain ⟨z0, z1, z2⟩ := A1.cells3; obtain ⟨zz0, zz1, zz2⟩ := C1.cells3; have BB1 := Lib.hid (DB.out.trans (B1.mono DB.out.size)))
    | (go_at_call 33; refine (HS.out w1 BB1.out).mono ?_; rintro e w2 ⟨s, a, n, c, b, m, d, rfl, hs, o1, o2, hn, hm, bb2⟩; have A2 := A1.on bb2; have C2 := C1.on bb2; obtain ⟨k0, k1, k2⟩ := A2.cells3; obtain ⟨kk0, kk1, kk2⟩ := C2.cells3; have HSS := Lib.hid hs; clear hs))
  have hs := HSS.out
  have BB2 := Lib.hid (BB1.out.trans (bb2.mono BB1.out.size))
  have HZ := isZero_c a n c (limbs z.p) w2 o1.lst (by omega)
  rw [val_limbs] at HZ
  by_cases hp : z.p = 0
  · have hd : decide (z.p = 0) = true := by simpa using hp
    rw [hd] at HZ
    have e0 : g = 0 := by rw [HC.out, if_pos hp]
    have HZ := Lib.hid HZ
    clear hd hp o1 o2 bb2 hs
    subst e0
    go_wp2_with fail
    refine HZ.out.mono ?_
    rintro e w' ⟨rfl, rfl⟩
    go_wp2_with fail
    go_ret
    exact ⟨rfl, BB2.out⟩
  · have hd : decide (z.p = 0) = false := by simpa using hp
    rw [hd] at HZ
    have HZ := Lib.hid HZ
    have e0 : g = if s then -1 else 1 := by rw [HC.out, if_neg hp, hs]
    clear hd hp o1 o2 bb2 hs
    cases s with
    | true =>
      have e1 : g = -1 := e0
      subst e1
      clear e0
      go_wp2_with fail
      refine HZ.out.mono ?_
      rintro e w' ⟨rfl, rfl⟩
      go_wp2_with fail
      go_ret
      exact ⟨rfl, BB2.out⟩
    | false =>
      have e1 : g = 1 := e0
      subst e1
      clear e0
      go_wp2_with fail
      refine HZ.out.mono ?_
      rintro e w' ⟨rfl, rfl⟩
      go_wp2_with fail
      go_ret
      exact ⟨rfl, BB2.out⟩

set_option maxHeartbeats 3200000 in
set_option maxRecDepth 100000 in
theorem rdiv_zero_c (s1 s2 : Bool) (a1 b1 a2 b2 : Option Addr) (n1 c1 m1 d1 n2 c2 m2 d2 K : Nat) (xs1 ys1 xs2 ys2 : List Int) (w : World)
    (_h1 : Lst .u32 w a1 n1 c1 xs1) (_k1 : Lst .u32 w b1 m1 d1 ys1) (h2 : Lst .u32 w a2 n2 c2 xs2) (k2 : Lst .u32 w b2 m2 d2 ys2) (_hn1 : n1 ≤ K) (_hm1 : m1 ≤ K) (hn2 : n2 ≤ K) (hm2 : m2 ≤ K) (hK : K ≤ 400000) (hz : val xs2 = 0 ∨ val ys2 = 0) :
    Calls Tryz.prog 14 #[.agg #[.bool s1, .slice a1 n1 c1, .slice b1 m1 d1], .agg #[.bool s2, .slice a2 n2 c2, .slice b2 m2 d2]] w fun e w' => e = .returned (.tuple #[.agg #[.bool false, .slice none 0 0, .slice none 0 0], .bool false]) ∧ Below w.heap.size w w' := by
  have HX := Lib.hid (fun w1 (hb : Below w.heap.size w w1) => isZero_c a2 n2 c2 xs2 w1 (h2.below hb) (by omega))
  have HY := Lib.hid (fun w1 (hb : Below w.heap.size w w1) => isZero_c b2 m2 d2 ys2 w1 (k2.below hb) (by omega))
  clear h2 k2
  go_enter Tryz.func14, Tryz.ntmps14
  go_wp2_with fail
  obtain ⟨W0, hW0, kA, kB, kZ, bb⟩ := boxed3 w 25 #[.bool s1, .slice a1 n1 c1, .slice b1 m1 d1] #[.bool s2, .slice a2 n2 c2, .slice b2 m2 d2] #[.bool false, .slice none 0 0, .slice none 0 0]
  rw [← hW0]
  obtain ⟨yy0, yy1, yy2⟩ := kB.cells3
  obtain ⟨q0, q1, q2, q3, q4, q5⟩ := kZ.store3 (.bool false) (.slice none 0 0)
  refine (HX.out W0 bb).mono ?_
  rintro e w' ⟨rfl, rfl⟩
  clear hW0
  rcases Nat.eq_zero_or_pos (val xs2) with h0 | h0
  · have hd : decide (val xs2 = 0) = true := by simpa using h0
    clear hz h0
    go_wp2_with fail
    have pbox := kZ.put3 (.bool false) (.slice none 0 0) (.slice none 0 0)
    have pbel := below_put3 bb (show w.heap.size ≤ w.heap.size + 1 + 1 by omega) (.bool false) (.slice none 0 0) (.slice none 0 0)
    obtain ⟨W, hW⟩ : ∃ W, W = put3 W0 (w.heap.size + 1 + 1) (.bool false) (.slice none 0 0) (.slice none 0 0) := ⟨_, rfl⟩
    change bodyPost _ _ _ _ _ (put3 W0 (w.heap.size + 1 + 1) (.bool false) (.slice none 0 0) (.slice none 0 0))
    rw [← hW] at pbox pbel  ⊢
    obtain ⟨r0, r1, r2⟩ := pbox.cells3
    refine bodyPost_ret (v := .tuple #[.agg #[.bool false, .slice none 0 0, .slice none 0 0], .bool false]) (by simp [results, Tryz.results14, go_sem, r0, r1, r2]) rfl ?_
    exact ⟨rfl, pbel⟩
  · have hd : decide (val xs2 = 0) = false := by simp; omega
    have hd2 : decide (val ys2 = 0) = true := by rcases hz with h | h; omega; simpa using h
    clear hz h0
    go_wp2_with fail
    refine (HY.out _ bb).mono ?_
    rintro e w' ⟨rfl, rfl⟩
    go_wp2_with fail
    have pbox := kZ.put3 (.bool false) (.slice none 0 0) (.slice none 0 0)
    have pbel := below_put3 bb (show w.heap.size ≤ w.heap.size + 1 + 1 by omega) (.bool false) (.slice none 0 0) (.slice none 0 0)
    obtain ⟨W, hW⟩ : ∃ W, W = put3 W0 (w.heap.size + 1 + 1) (.bool false) (.slice none 0 0) (.slice none 0 0) := ⟨_, rfl⟩
    change bodyPost _ _ _ _ _ (put3 W0 (w.heap.size + 1 + 1) (.bool false) (.slice none 0 0) (.slice none 0 0))
    rw [← hW] at pbox pbel  ⊢
    obtain ⟨r0, r1, r2⟩ := pbox.cells3
    refine bodyPost_ret (v := .tuple #[.agg #[.bool false, .slice none 0 0, .slice none 0 0], .bool false]) (by simp [results, Tryz.results14, go_sem, r0, r1, r2]) rfl ?_
    exact ⟨rfl, pbel⟩

set_option maxHeartbeats 6400000 in
set_option maxRecDepth 100000 in
theorem rdiv_c (s1 s2 : Bool) (a1 b1 a2 b2 : Option Addr) (n1 c1 m1 d1 n2 c2 m2 d2 K : Nat) (xs1 ys1 xs2 ys2 : List Int) (w : World)
    (h1 : Lst .u32 w a1 n1 c1 xs1) (k1 : Lst .u32 w b1 m1 d1 ys1) (h2 : Lst .u32 w a2 n2 c2 xs2) (k2 : Lst .u32 w b2 m2 d2 ys2) (hn1 : n1 ≤ K) (hm1 : m1 ≤ K) (hn2 : n2 ≤ K) (hm2 : m2 ≤ K) (hK : K ≤ 400000) (hp : val xs2 ≠ 0) (hq : val ys2 ≠ 0) :
    Calls Tryz.prog 14 #[.agg #[.bool s1, .slice a1 n1 c1, .slice b1 m1 d1], .agg #[.bool s2, .slice a2 n2 c2, .slice b2 m2 d2]] w fun e w' => ∃ s a n c b m d, e = .returned (.tuple #[.agg #[.bool s, .slice a n c, .slice b m d], .bool true]) ∧ s = (nf (ml ⟨s1, val xs1, val ys1⟩ (inv ⟨s2, val xs2, val ys2⟩))).s ∧ Own 66 .u32 w.heap.size w' a n c (limbs (nf (ml ⟨s1, val xs1, val ys1⟩ (inv ⟨s2, val xs2, val ys2⟩))).p) ∧ Own 66 .u32 w.heap.size w' b m d (limbs (nf (ml ⟨s1, val xs1, val ys1⟩ (inv ⟨s2, val xs2, val ys2⟩))).q) ∧ n ≤ 2 * K + 4 ∧ m ≤ 2 * K + 5 ∧ Below w.heap.size w w' := by
  have HX := Lib.hid (fun w1 (hb : Below w.heap.size w w1) => isZero_c a2 n2 c2 xs2 w1 (h2.below hb) (by omega))
  have HY := Lib.hid (fun w1 (hb : Below w.heap.size w w1) => isZero_c b2 m2 d2 ys2 w1 (k2.below hb) (by omega))
  have HM := Lib.hid (fun w1 (hb : Below w.heap.size w w1) => rmul_c s1 s2 a1 b1 b2 a2 n1 c1 m1 d1 m2 d2 n2 c2 K xs1 ys1 ys2 xs2 w1 (h1.below hb) (k1.below hb) (k2.below hb) (h2.below hb) hn1 hm1 hm2 hn2 hK)
  have hd : decide (val xs2 = 0) = false := by simpa using hp
  have hd2 : decide (val ys2 = 0) = false := by simpa using hq
  clear h1 k1 h2 k2
  go_enter Tryz.func14, Tryz.ntmps14
  go_wp2_with fail
  obtain ⟨W0, hW0, kA, kB, kZ, bb⟩ := boxed3 w 25 #[.bool s1, .slice a1 n1 c1, .slice b1 m1 d1] #[.bool s2, .slice a2 n2 c2, .slice b2 m2 d2] #[.bool false, .slice none 0 0, .slice none 0 0]
  rw [← hW0]
  obtain ⟨y0, y1, y2⟩ := kA.cells3
  obtain ⟨yy0, yy1, yy2⟩ := kB.cells3
  clear hW0 hp hq
  refine (HX.out W0 bb).mono ?_
  rintro e w' ⟨rfl, rfl⟩
  go_wp2_with fail
  refine (HY.out _ bb).mono ?_
  rintro e w' ⟨rfl, rfl⟩
  go_wp2_with fail
  refine (HM.out W0 bb).mono ?_
  rintro e w3 ⟨s3, a3, n3, c3, b3, m3, d3, rfl, hs3, o3, o4, hn3, hm3, bb3⟩
  have K3 := kZ.on bb3
  have BB3 := bb.trans (bb3.mono bb.size)
  have h3 := o3.hi (g := w.heap.size + 1 + 1) kZ.lt
  have h4 := o4.hi (g := w.heap.size + 1 + 1) kZ.lt
  have O3 := Lib.hid (o3.low bb.size)
  have O4 := Lib.hid (o4.low bb.size)
  obtain ⟨q0, q1, q2, q3, q4, q5⟩ := K3.store3 (.bool s3) (.slice a3 n3 c3)
  have HS3 := Lib.hid hs3
  clear hs3 bb3 o3 o4
  go_wp2_with fail
  have pbox := K3.put3 (.bool s3) (.slice a3 n3 c3) (.slice b3 m3 d3)
  have pbel := below_put3 BB3 (show w.heap.size ≤ w.heap.size + 1 + 1 by omega) (.bool s3) (.slice a3 n3 c3) (.slice b3 m3 d3)
  have p3 := O3.out.put3 h3 (.bool s3) (.slice a3 n3 c3) (.slice b3 m3 d3)
  have p4 := O4.out.put3 h4 (.bool s3) (.slice a3 n3 c3) (.slice b3 m3 d3)
  obtain ⟨W, hW⟩ : ∃ W, W = put3 w3 (w.heap.size + 1 + 1) (.bool s3) (.slice a3 n3 c3) (.slice b3 m3 d3) := ⟨_, rfl⟩
  change bodyPost _ _ _ _ _ (put3 w3 (w.heap.size + 1 + 1) (.bool s3) (.slice a3 n3 c3) (.slice b3 m3 d3))
  rw [← hW] at pbox pbel p3 p4 ⊢
  obtain ⟨r0, r1, r2⟩ := pbox.cells3
  refine bodyPost_ret (v := .tuple #[.agg #[.bool s3, .slice a3 n3 c3, .slice b3 m3 d3], .bool true]) (by simp [results, Tryz.results14, go_sem, r0, r1, r2]) rfl ?_
  exact ⟨s3, a3, n3, c3, b3, m3, d3, rfl, HS3.out, p3, p4, hn3, hm3, pbel⟩
end Go.Proofs.YtmojcnlddfijjaaGreatDoor
