/-
  The walk of RankingPrefs.
-/
import Derived.Test.YtjpkbaidgddhnaaRkShort
import Derived.Test.YtjpkbaidgddhnaaRkAwake
namespace Go.Proofs.Ytjpkbaidgddhnaa
open Go.RowKit Rk

set_option maxHeartbeats 6400000 in
set_option maxRecDepth 100000 in
theorem prefsLaw_c (nm : ByteArray) (co : Option Addr) (n cc : Nat) (me se rk dg ti ov sk vt : Int) (ro : Option Addr) (rn rc : Nat) (ls : List (List Int)) (w : World) (hcc : n ≤ cc) (hcc2 : cc ≤ 9223372036854775807) (h : Rks w ro rn rc ls) :
    Calls Try.prog 3 #[.agg #[.string nm, .slice co n cc, .int .i64 me, .int .i64 se, .int .i64 rk, .int .i64 dg, .int .i64 ti, .int .i64 ov, .int .i64 sk], .agg #[.int .i64 vt, .slice ro rn rc]] w fun e w' => e = .returned (.bool true) ∧ Below w.heap.size w w' := by
  obtain ⟨V, e1, AV, BV, zz1⟩ := new_box w 24 [.string nm, .slice co n cc, .int .i64 me, .int .i64 se, .int .i64 rk, .int .i64 dg, .int .i64 ti, .int .i64 ov, .int .i64 sk]
  obtain ⟨U, e2, AU, BU, zz2⟩ := new_box V 27 [.int .i64 vt, .slice ro rn rc]
  have AV1 := AV.kept BU
  have hzz : w.heap.size ≠ V.heap.size := by omega
  have hzl : w.heap.size ≤ V.heap.size := by omega
  have BU0 : Below w.heap.size w U := BV.trans (BU.mono BV.size)
  have HS := Lib.hid (short_c nm co n cc me se rk dg ti ov sk vt ro rn rc ls w U h BU0 hcc hcc2)
  have HA : Hid (∀ W, Calls Try.prog 9 #[] W fun e w' => e = .returned (.bool true) ∧ Below W.heap.size W w') := fun W => awake_c W
  have y0 : U.cell? ⟨w.heap.size, 0, none⟩ = some (.string nm) := AV1.cell 0
  have y1 : U.cell? ⟨w.heap.size, 1, none⟩ = some (.slice co n cc) := AV1.cell 1
  have y2 : U.cell? ⟨w.heap.size, 2, none⟩ = some (.int .i64 me) := AV1.cell 2
  have y3 : U.cell? ⟨w.heap.size, 3, none⟩ = some (.int .i64 se) := AV1.cell 3
  have y4 : U.cell? ⟨w.heap.size, 4, none⟩ = some (.int .i64 rk) := AV1.cell 4
  have y5 : U.cell? ⟨w.heap.size, 5, none⟩ = some (.int .i64 dg) := AV1.cell 5
  have y6 : U.cell? ⟨w.heap.size, 6, none⟩ = some (.int .i64 ti) := AV1.cell 6
  have y7 : U.cell? ⟨w.heap.size, 7, none⟩ = some (.int .i64 ov) := AV1.cell 7
  have y8 : U.cell? ⟨w.heap.size, 8, none⟩ = some (.int .i64 sk) := AV1.cell 8
  have u0 : U.cell? ⟨V.heap.size, 0, none⟩ = some (.int .i64 vt) := AU.cell 0
  have u1 : U.cell? ⟨V.heap.size, 1, none⟩ = some (.slice ro rn rc) := AU.cell 1
  clear zz1 zz2 AV BV BU
  go_enter Try.func3, Try.ntmps3
  go_upto_region 1 with fail
  go_wp2_with (first
    | (go_at_call 8; (with_reducible refine HS.out.mono ?_); rintro e w1 ⟨n', rk', qo, qn, qc, ms, rfl, hn7, hncc, hr7, hq8, ⟨us, OR, hus⟩, B1⟩; obtain ⟨Z0, Z1, Z2, Z3, Z4, Z5, Z6, Z7, Z8, f0, f1, f2, f3, f4, f5, f6, f7, f8, A3, G3, L3, c0, r0, c1, r1, c2, r2, c3, r3, c4, r4, c5, r5, c6, r6, c7, r7, c8, r8⟩ := box_let9 (AV1.kept B1) (.string nm) (.slice co n' cc) (.int .i64 me) (.int .i64 se) (.int .i64 rk') (.int .i64 dg) (.int .i64 ti) (.int .i64 ov) (.int .i64 sk); have AU3 := (AU.kept B1).grownBy G3 (Ne.symm hzz); obtain ⟨P0, P1, g0, g1, A4, G4, L4, p0, q0, p1, q1⟩ := box_let2 AU3 (.int .i64 vt) (.slice qo qn qc); have A3e := A3.grownBy G4 hzz; have OR3 := World.ownsRow.kept (row := some w.heap.size) OR G3 (Or.inr (row_ne_arr OR (AV1.kept B1) (by decide))); have OR4 := World.ownsRow.kept (row := some V.heap.size) OR3 G4 (Or.inr (row_ne_arr OR3 AU3 (by decide))); have BP : Below w.heap.size w P1 := L4 _ _ (L3 _ _ (BU0.trans (B1.mono BU0.size)) (Nat.le_refl _)) hzl; have LR := rks_own OR4 (LsV.below BP hus); clear OR OR3 OR4 hus AV1 AU AU3 A3 G3 L3 G4 L4 BU0)
    | fail)
  clear f0 f1 f2 f3 f4 f5 f6 f7 f8 c0 r0 c1 r1 c2 r2 c3 r3 c4 r4 c5 r5 c6 r6 c7 r7 c8 r8 p0 q0 p1 q1 g0 g1 y0 y1 y2 y3 y4 y5 y6 y7 y8 u0 u1 e1 e2 B1 HS
  have HC : Hid (∀ W, Below P1.heap.size P1 W → W.cell? ⟨w.heap.size, 0, none⟩ = some (.string nm) ∧ W.cell? ⟨w.heap.size, 1, none⟩ = some (.slice co n' cc) ∧ W.cell? ⟨w.heap.size, 2, none⟩ = some (.int .i64 me) ∧ W.cell? ⟨w.heap.size, 3, none⟩ = some (.int .i64 se) ∧ W.cell? ⟨w.heap.size, 4, none⟩ = some (.int .i64 rk') ∧ W.cell? ⟨w.heap.size, 5, none⟩ = some (.int .i64 dg) ∧ W.cell? ⟨w.heap.size, 6, none⟩ = some (.int .i64 ti) ∧ W.cell? ⟨w.heap.size, 7, none⟩ = some (.int .i64 ov) ∧ W.cell? ⟨w.heap.size, 8, none⟩ = some (.int .i64 sk) ∧ W.cell? ⟨V.heap.size, 0, none⟩ = some (.int .i64 vt) ∧ W.cell? ⟨V.heap.size, 1, none⟩ = some (.slice qo qn qc)) := fun W hb => ⟨cell_keep (A3e.cell 0) hb, cell_keep (A3e.cell 1) hb, cell_keep (A3e.cell 2) hb, cell_keep (A3e.cell 3) hb, cell_keep (A3e.cell 4) hb, cell_keep (A3e.cell 5) hb, cell_keep (A3e.cell 6) hb, cell_keep (A3e.cell 7) hb, cell_keep (A3e.cell 8) hb, cell_keep (A4.cell 0) hb, cell_keep (A4.cell 1) hb⟩
  have HBP := Lib.hid BP
  obtain ⟨T, hT⟩ : ∃ T, rank n' rk' ov sk ms = T := ⟨_, rfl⟩
  have H1 : Hid (∀ W, Below P1.heap.size P1 W → Calls Try.prog 11 #[.agg #[.string nm, .slice co n' cc, .int .i64 me, .int .i64 se, .int .i64 rk', .int .i64 dg, .int .i64 ti, .int .i64 ov, .int .i64 sk], .agg #[.int .i64 vt, .slice qo qn qc]] W fun e w' => ∃ ao m d, e = .returned (.slice ao m d) ∧ Own 3 .i64 W.heap.size w' ao m d T ∧ Below W.heap.size W w') := fun W hb => by
    rw [← hT]
    exact prefs_c nm co n' cc me se rk' dg ti ov sk vt qo qn qc ms W (LR.below hb) (by omega) (by omega) hncc
  have H2 : Hid (∀ W, Below P1.heap.size P1 W → Calls Try.prog 12 #[.agg #[.string nm, .slice co n' cc, .int .i64 me, .int .i64 se, .int .i64 rk', .int .i64 dg, .int .i64 ti, .int .i64 ov, .int .i64 sk], .agg #[.int .i64 vt, .slice qo qn qc]] W fun e w' => ∃ ao m d, e = .returned (.slice ao m d) ∧ Own 3 .i64 W.heap.size w' ao m d T ∧ Below W.heap.size W w') := fun W hb => by
    rw [← hT]
    exact refPrefs_c nm co n' cc me se rk' dg ti ov sk vt qo qn qc ms W (LR.below hb) (by omega) (by omega) hncc
  have HE : Hid (∀ (ao bo : Option Addr) (k c d : Nat) (W : World), Lst .i64 W ao k c T → Lst .i64 W bo k d T → Calls Try.prog 10 #[.slice ao k c, .slice bo k d] W fun e w' => e = .returned (.bool true) ∧ Below W.heap.size W w') := fun ao bo k c d W h1 h2 => eqI_c ao bo k c d T W h1 h2
  obtain ⟨k0, k1, k2, k3, k4, k5, k6, k7, k8, k9, k10⟩ := HC.out P1.drew (Below.refl _ _).drew
  have BD : Below P1.heap.size P1 P1.drew := (Below.refl _ _).drew
  clear A3e A4 BP LR hT
  go_wp2_with fail
  go_region_held3 (fun W => W.cell? ⟨w.heap.size, 0, none⟩ = some (.string nm) ∧ W.cell? ⟨w.heap.size, 1, none⟩ = some (.slice co n' cc) ∧ W.cell? ⟨w.heap.size, 2, none⟩ = some (.int .i64 me) ∧ W.cell? ⟨w.heap.size, 3, none⟩ = some (.int .i64 se) ∧ W.cell? ⟨w.heap.size, 4, none⟩ = some (.int .i64 rk') ∧ W.cell? ⟨w.heap.size, 5, none⟩ = some (.int .i64 dg) ∧ W.cell? ⟨w.heap.size, 6, none⟩ = some (.int .i64 ti) ∧ W.cell? ⟨w.heap.size, 7, none⟩ = some (.int .i64 ov) ∧ W.cell? ⟨w.heap.size, 8, none⟩ = some (.int .i64 sk) ∧ W.cell? ⟨V.heap.size, 0, none⟩ = some (.int .i64 vt) ∧ W.cell? ⟨V.heap.size, 1, none⟩ = some (.slice qo qn qc)) (go_keep) (first
    | (go_at_call 9; (with_reducible refine (HA.out _).mono ?_); rintro e v1 ⟨rfl, C1⟩; have D1 : Below P1.heap.size P1 v1 := BD.trans (C1.mono BD.size); obtain ⟨a0, a1, a2, a3, a4, a5, a6, a7, a8, a9, a10⟩ := HC.out v1 D1; clear C1)
    | (go_at_call 11; (with_reducible refine (H1.out _ D1).mono ?_); rintro e v2 ⟨ao, m, d, rfl, O2, C2⟩; have D2 : Below P1.heap.size P1 v2 := D1.trans (C2.mono D1.size); obtain ⟨b0, b1, b2, b3, b4, b5, b6, b7, b8, b9, b10⟩ := HC.out v2 D2; clear C2)
    | (go_at_call 12; (with_reducible refine (H2.out _ D2).mono ?_); rintro e v3 ⟨bo, m3, d3, rfl, O3, C3⟩; have D3 : Below P1.heap.size P1 v3 := D2.trans (C3.mono D2.size); obtain ⟨x0, x1, x2, x3, x4, x5, x6, x7, x8, x9, x10⟩ := HC.out v3 D3; obtain rfl : m3 = m := (by rw [← O3.len, ← O2.len]); have LX := (O2.kept C3).lst; have LY := O3.lst; clear C3 O2 O3)
    | (go_at_call 10; (with_reducible refine (HE.out _ _ _ _ _ _ LX LY).mono ?_); rintro e v4 ⟨rfl, C4⟩; have D4 : Below P1.heap.size P1 v4 := D3.trans (C4.mono D3.size); obtain ⟨z0, z1, z2, z3, z4, z5, z6, z7, z8, z9, z10⟩ := HC.out v4 D4; have D5 := Lib.hid (HBP.out.trans (D4.mono HBP.out.size)); clear C4)
    | fail)
  all_goals
    go_wp2_with fail
    go_ret
    exact ⟨by rfl, D5.out⟩
end Go.Proofs.Ytjpkbaidgddhnaa
