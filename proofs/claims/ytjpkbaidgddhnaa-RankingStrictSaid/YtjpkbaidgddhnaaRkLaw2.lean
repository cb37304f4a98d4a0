/-
  The walk of RankingStrict.
-/
import Derived.Test.YtjpkbaidgddhnaaRkShort
import Derived.Test.YtjpkbaidgddhnaaRkAwake
namespace Go.Proofs.Ytjpkbaidgddhnaa
open Go.RowKit Rk

theorem pre_take {A B : List Int} (h : A <+: B) {a b : Nat} (ha : A.length = a) (hb : B.length = b) : a ≤ b ∧ B.take a = A := by
  refine ⟨by rw [← ha, ← hb]; exact h.length_le, ?_⟩
  rw [← ha]
  exact (List.prefix_iff_eq_take.1 h).symm
set_option maxHeartbeats 6400000 in
set_option maxRecDepth 100000 in
theorem strictLaw_c (nm : ByteArray) (co : Option Addr) (n cc : Nat) (me se rk dg ti ov sk vt : Int) (ro : Option Addr) (rn rc : Nat) (ls : List (List Int)) (w : World) (hcc : n ≤ cc) (hcc2 : cc ≤ 9223372036854775807) (h : Rks w ro rn rc ls) :
    Calls Try.prog 6 #[.agg #[.string nm, .slice co n cc, .int .i64 me, .int .i64 se, .int .i64 rk, .int .i64 dg, .int .i64 ti, .int .i64 ov, .int .i64 sk], .agg #[.int .i64 vt, .slice ro rn rc]] w fun e w' => e = .returned (.bool true) ∧ Below w.heap.size w w' := by
  have HH : Hid (∀ (n' : Nat) (rk' : Int) (qo : Option Addr) (qn qc B : Nat) (ms : List (List Int)) (us : List Value) (s : Int) (W : World), n' ≤ 7 → n' ≤ cc → rk' ≤ 7 → LsV w ms us → W.ownsRow B 32 1 (.slice qo qn qc) qn us → Below w.heap.size w W →
      Calls Try.prog 11 #[.agg #[.string nm, .slice co n' cc, .int .i64 me, .int .i64 se, .int .i64 rk', .int .i64 dg, .int .i64 ti, .int .i64 ov, .int .i64 s], .agg #[.int .i64 vt, .slice qo qn qc]] W fun e w' => ∃ ao m d, e = .returned (.slice ao m d) ∧ Own 3 .i64 W.heap.size w' ao m d (rank n' rk' ov s ms) ∧ Below W.heap.size W w') := fun n' rk' qo qn qc B ms us s W h1 h2 h3 h4 h5 h6 =>
    prefs_c nm co n' cc me se rk' dg ti ov s vt qo qn qc ms W (rks_own h5 (LsV.below h6 h4)) (by omega) (by omega) h2
  obtain ⟨V, e1, AV, BV, zz1⟩ := new_box w 24 [.string nm, .slice co n cc, .int .i64 me, .int .i64 se, .int .i64 rk, .int .i64 dg, .int .i64 ti, .int .i64 ov, .int .i64 sk]
  obtain ⟨U, e2, AU, BU, zz2⟩ := new_box V 27 [.int .i64 vt, .slice ro rn rc]
  have AV1 := AV.kept BU
  have hzz : w.heap.size ≠ V.heap.size := by omega
  have hzl : w.heap.size ≤ V.heap.size := by omega
  have BU0 : Below w.heap.size w U := BV.trans (BU.mono BV.size)
  have HS := Lib.hid (short_c nm co n cc me se rk dg ti ov sk vt ro rn rc ls w U h BU0 hcc hcc2)
  have HA : Hid (∀ W, Calls Try.prog 9 #[] W fun e w' => e = .returned (.bool true) ∧ Below W.heap.size W w') := fun W => awake_c W
  have y0 : U.cell? ⟨w.heap.size, 0, none⟩ = some (.string nm) := AV1.cell 0
  have y1 : U.cell? ⟨w.heap.size, 1, none⟩ = some (.slice co n cc) := AV1.cell 1
  have y2 : U.cell? ⟨w.heap.size, 2, none⟩ = some (.int .i64 me) := AV1.cell 2
  have y3 : U.cell? ⟨w.heap.size, 3, none⟩ = some (.int .i64 se) := AV1.cell 3
  have y4 : U.cell? ⟨w.heap.size, 4, none⟩ = some (.int .i64 rk) := AV1.cell 4
  have y5 : U.cell? ⟨w.heap.size, 5, none⟩ = some (.int .i64 dg) := AV1.cell 5
  have y6 : U.cell? ⟨w.heap.size, 6, none⟩ = some (.int .i64 ti) := AV1.cell 6
  have y7 : U.cell? ⟨w.heap.size, 7, none⟩ = some (.int .i64 ov) := AV1.cell 7
  have y8 : U.cell? ⟨w.heap.size, 8, none⟩ = some (.int .i64 sk) := AV1.cell 8
  have u0 : U.cell? ⟨V.heap.size, 0, none⟩ = some (.int .i64 vt) := AU.cell 0
  have u1 : U.cell? ⟨V.heap.size, 1, none⟩ = some (.slice ro rn rc) := AU.cell 1
  clear zz1 zz2 AV BV BU
  go_enter Try.func6, Try.ntmps6
  go_upto_region 1 with fail
  go_wp2_with (first
    | (go_at_call 8; (with_reducible refine HS.out.mono ?_); rintro e w1 ⟨n', rk', qo, qn, qc, ms, rfl, hn7, hncc, hr7, hq8, ⟨us, OR, hus⟩, B1⟩; obtain ⟨Z0, Z1, Z2, Z3, Z4, Z5, Z6, Z7, Z8, f0, f1, f2, f3, f4, f5, f6, f7, f8, A3, G3, L3, c0, r0, c1, r1, c2, r2, c3, r3, c4, r4, c5, r5, c6, r6, c7, r7, c8, r8⟩ := box_let9 (AV1.kept B1) (.string nm) (.slice co n' cc) (.int .i64 me) (.int .i64 se) (.int .i64 rk') (.int .i64 dg) (.int .i64 ti) (.int .i64 ov) (.int .i64 sk); have AU3 := (AU.kept B1).grownBy G3 (Ne.symm hzz); obtain ⟨P0, P1, g0, g1, A4, G4, L4, p0, q0, p1, q1⟩ := box_let2 AU3 (.int .i64 vt) (.slice qo qn qc); have A3e := A3.grownBy G4 hzz; have OR3 := World.ownsRow.kept (row := some w.heap.size) OR G3 (Or.inr (row_ne_arr OR (AV1.kept B1) (by decide))); have OR4 := World.ownsRow.kept (row := some V.heap.size) OR3 G4 (Or.inr (row_ne_arr OR3 AU3 (by decide))); have BP : Below w.heap.size w P1 := L4 _ _ (L3 _ _ (BU0.trans (B1.mono BU0.size)) (Nat.le_refl _)) hzl; have LR := rks_own OR4 (LsV.below BP hus); have stS1 := A3e.cell 8; have fzS1 : P1.frozen? ⟨w.heap.size, 8, none⟩ = false := A3e.frozen 8; obtain ⟨S1, eqS1⟩ : ∃ S, P1.setCell ⟨w.heap.size, 8, none⟩ (.int .i64 2) = S := ⟨_, rfl⟩; have AS1 : Arr S1 w.heap.size 24 [.string nm, .slice co n' cc, .int .i64 me, .int .i64 se, .int .i64 rk', .int .i64 dg, .int .i64 ti, .int .i64 ov, .int .i64 2] := (by rw [← eqS1]; exact A3e.set 8 _); have BS1 : Arr S1 V.heap.size 27 [.int .i64 vt, .slice qo qn qc] := (by rw [← eqS1]; exact A4.off (Ne.symm hzz) _); have OS1 : S1.ownsRow U.heap.size 32 1 (.slice qo qn qc) qn us := (by rw [← eqS1]; exact row_set OR4 A3e (by decide) _); have PS1 : Below w.heap.size w S1 := (by rw [← eqS1]; exact BP.setCell (p := ⟨w.heap.size, 8, none⟩) (Nat.le_refl _) _); have k0 : S1.cell? ⟨w.heap.size, 0, none⟩ = some (.string nm) := AS1.cell 0; have k1 : S1.cell? ⟨w.heap.size, 1, none⟩ = some (.slice co n' cc) := AS1.cell 1; have k2 : S1.cell? ⟨w.heap.size, 2, none⟩ = some (.int .i64 me) := AS1.cell 2; have k3 : S1.cell? ⟨w.heap.size, 3, none⟩ = some (.int .i64 se) := AS1.cell 3; have k4 : S1.cell? ⟨w.heap.size, 4, none⟩ = some (.int .i64 rk') := AS1.cell 4; have k5 : S1.cell? ⟨w.heap.size, 5, none⟩ = some (.int .i64 dg) := AS1.cell 5; have k6 : S1.cell? ⟨w.heap.size, 6, none⟩ = some (.int .i64 ti) := AS1.cell 6; have k7 : S1.cell? ⟨w.heap.size, 7, none⟩ = some (.int .i64 ov) := AS1.cell 7; have k8 : S1.cell? ⟨w.heap.size, 8, none⟩ = some (.int .i64 2) := AS1.cell 8; have k9 : S1.cell? ⟨V.heap.size, 0, none⟩ = some (.int .i64 vt) := BS1.cell 0; have k10 : S1.cell? ⟨V.heap.size, 1, none⟩ = some (.slice qo qn qc) := BS1.cell 1; clear OR OR3 AV1 AU AU3 A3 G3 L3 G4 L4 BU0)
    | fail)
  clear f0 f1 f2 f3 f4 f5 f6 f7 f8 c0 r0 c1 r1 c2 r2 c3 r3 c4 r4 c5 r5 c6 r6 c7 r7 c8 r8 p0 q0 p1 q1 g0 g1 y0 y1 y2 y3 y4 y5 y6 y7 y8 u0 u1 e1 e2 B1 HS eqS1 stS1 fzS1 A3e A4 OR4 BP LR
  obtain ⟨T2, hT2⟩ : ∃ T, rank n' rk' ov 2 ms = T := ⟨_, rfl⟩
  obtain ⟨T3, hT3⟩ : ∃ T, rank n' rk' ov 3 ms = T := ⟨_, rfl⟩
  obtain ⟨T1, hT1⟩ : ∃ T, rank n' rk' ov 1 ms = T := ⟨_, rfl⟩
  have hp23 : Hid (T2 <+: T3) := by show _ <+: _; rw [← hT2, ← hT3]; exact goR_strict (fun b b' hb => by simp [ends] at hb) _ _ _ _ good_nil
  have hp31 : Hid (T3 <+: T1) := by show _ <+: _; rw [← hT3, ← hT1]; exact goR_strict (fun b b' _ => by simp [ends]) _ _ _ _ good_nil
  have K2 := HH.out n' rk' qo qn qc U.heap.size ms us 2 S1 hn7 hncc hr7 hus OS1 PS1
  rw [hT2] at K2
  refine K2.mono ?_
  rintro e v1 ⟨ao2, m2, d2, rfl, O2, C2⟩
  have PV1 := PS1.trans (C2.mono PS1.size)
  have AV1 := AS1.kept C2
  have BV1 := BS1.kept C2
  have OV1 := ownsRow_keep OS1 C2
  have M2 := O2.lower PS1.size
  have stS2 := AV1.cell 8
  have fzS2 : v1.frozen? ⟨w.heap.size, 8, none⟩ = false := AV1.frozen 8
  obtain ⟨S2, eqS2⟩ : ∃ S, v1.setCell ⟨w.heap.size, 8, none⟩ (.int .i64 3) = S := ⟨_, rfl⟩
  have AS2 : Arr S2 w.heap.size 24 [.string nm, .slice co n' cc, .int .i64 me, .int .i64 se, .int .i64 rk', .int .i64 dg, .int .i64 ti, .int .i64 ov, .int .i64 3] := (by rw [← eqS2]; exact AV1.set 8 _)
  have BS2 : Arr S2 V.heap.size 27 [.int .i64 vt, .slice qo qn qc] := (by rw [← eqS2]; exact BV1.off (Ne.symm hzz) _)
  have OS2 : S2.ownsRow U.heap.size 32 1 (.slice qo qn qc) qn us := (by rw [← eqS2]; exact row_set OV1 AV1 (by decide) _)
  have PS2 : Below w.heap.size w S2 := (by rw [← eqS2]; exact PV1.setCell (p := ⟨w.heap.size, 8, none⟩) (Nat.le_refl _) _)
  have N2 : Lst .i64 S2 ao2 m2 d2 T2 := (by rw [← eqS2]; exact (Own.lst ⟨row_set M2.1 AV1 (by decide) _, M2.2⟩))
  have N2O : Own 3 .i64 w.heap.size S2 ao2 m2 d2 T2 := (by rw [← eqS2]; exact ⟨row_set M2.1 AV1 (by decide) _, M2.2⟩)
  have l0 : S2.cell? ⟨w.heap.size, 0, none⟩ = some (.string nm) := AS2.cell 0
  have l1 : S2.cell? ⟨w.heap.size, 1, none⟩ = some (.slice co n' cc) := AS2.cell 1
  have l2 : S2.cell? ⟨w.heap.size, 2, none⟩ = some (.int .i64 me) := AS2.cell 2
  have l3 : S2.cell? ⟨w.heap.size, 3, none⟩ = some (.int .i64 se) := AS2.cell 3
  have l4 : S2.cell? ⟨w.heap.size, 4, none⟩ = some (.int .i64 rk') := AS2.cell 4
  have l5 : S2.cell? ⟨w.heap.size, 5, none⟩ = some (.int .i64 dg) := AS2.cell 5
  have l6 : S2.cell? ⟨w.heap.size, 6, none⟩ = some (.int .i64 ti) := AS2.cell 6
  have l7 : S2.cell? ⟨w.heap.size, 7, none⟩ = some (.int .i64 ov) := AS2.cell 7
  have l8 : S2.cell? ⟨w.heap.size, 8, none⟩ = some (.int .i64 3) := AS2.cell 8
  have l9 : S2.cell? ⟨V.heap.size, 0, none⟩ = some (.int .i64 vt) := BS2.cell 0
  have l10 : S2.cell? ⟨V.heap.size, 1, none⟩ = some (.slice qo qn qc) := BS2.cell 1
  clear k0 k1 k2 k3 k4 k5 k6 k7 k8 k9 k10 K2 C2 O2 AS1 BS1 OS1 PS1
  go_wp2_with fail
  clear eqS2 stS2 fzS2 AV1 BV1 OV1 PV1
  have K3 := HH.out n' rk' qo qn qc U.heap.size ms us 3 S2 hn7 hncc hr7 hus OS2 PS2
  rw [hT3] at K3
  refine K3.mono ?_
  rintro e v2 ⟨ao3, m3, d3, rfl, O3, C3⟩
  have PV2 := PS2.trans (C3.mono PS2.size)
  have AV2 := AS2.kept C3
  have BV2 := BS2.kept C3
  have OV2 := ownsRow_keep OS2 C3
  have M3 := O3.lower PS2.size
  have M2b := N2O.kept C3
  have stS3 := AV2.cell 8
  have fzS3 : v2.frozen? ⟨w.heap.size, 8, none⟩ = false := AV2.frozen 8
  obtain ⟨S3, eqS3⟩ : ∃ S, v2.setCell ⟨w.heap.size, 8, none⟩ (.int .i64 1) = S := ⟨_, rfl⟩
  have AS3 : Arr S3 w.heap.size 24 [.string nm, .slice co n' cc, .int .i64 me, .int .i64 se, .int .i64 rk', .int .i64 dg, .int .i64 ti, .int .i64 ov, .int .i64 1] := (by rw [← eqS3]; exact AV2.set 8 _)
  have BS3 : Arr S3 V.heap.size 27 [.int .i64 vt, .slice qo qn qc] := (by rw [← eqS3]; exact BV2.off (Ne.symm hzz) _)
  have OS3 : S3.ownsRow U.heap.size 32 1 (.slice qo qn qc) qn us := (by rw [← eqS3]; exact row_set OV2 AV2 (by decide) _)
  have PS3 : Below w.heap.size w S3 := (by rw [← eqS3]; exact PV2.setCell (p := ⟨w.heap.size, 8, none⟩) (Nat.le_refl _) _)
  have N2b : Lst .i64 S3 ao2 m2 d2 T2 := (by rw [← eqS3]; exact (Own.lst ⟨row_set M2b.1 AV2 (by decide) _, M2b.2⟩))
  have N2bO : Own 3 .i64 w.heap.size S3 ao2 m2 d2 T2 := (by rw [← eqS3]; exact ⟨row_set M2b.1 AV2 (by decide) _, M2b.2⟩)
  have N3 : Lst .i64 S3 ao3 m3 d3 T3 := (by rw [← eqS3]; exact (Own.lst ⟨row_set M3.1 AV2 (by decide) _, M3.2⟩))
  have N3O : Own 3 .i64 w.heap.size S3 ao3 m3 d3 T3 := (by rw [← eqS3]; exact ⟨row_set M3.1 AV2 (by decide) _, M3.2⟩)
  have x0 : S3.cell? ⟨w.heap.size, 0, none⟩ = some (.string nm) := AS3.cell 0
  have x1 : S3.cell? ⟨w.heap.size, 1, none⟩ = some (.slice co n' cc) := AS3.cell 1
  have x2 : S3.cell? ⟨w.heap.size, 2, none⟩ = some (.int .i64 me) := AS3.cell 2
  have x3 : S3.cell? ⟨w.heap.size, 3, none⟩ = some (.int .i64 se) := AS3.cell 3
  have x4 : S3.cell? ⟨w.heap.size, 4, none⟩ = some (.int .i64 rk') := AS3.cell 4
  have x5 : S3.cell? ⟨w.heap.size, 5, none⟩ = some (.int .i64 dg) := AS3.cell 5
  have x6 : S3.cell? ⟨w.heap.size, 6, none⟩ = some (.int .i64 ti) := AS3.cell 6
  have x7 : S3.cell? ⟨w.heap.size, 7, none⟩ = some (.int .i64 ov) := AS3.cell 7
  have x8 : S3.cell? ⟨w.heap.size, 8, none⟩ = some (.int .i64 1) := AS3.cell 8
  have x9 : S3.cell? ⟨V.heap.size, 0, none⟩ = some (.int .i64 vt) := BS3.cell 0
  have x10 : S3.cell? ⟨V.heap.size, 1, none⟩ = some (.slice qo qn qc) := BS3.cell 1
  clear l0 l1 l2 l3 l4 l5 l6 l7 l8 l9 l10 K3 C3 O3 AS2 BS2 OS2 PS2 N2 N2O M2
  go_wp2_with fail
  clear eqS3 stS3 fzS3 AV2 BV2 OV2 PV2
  have K1 := HH.out n' rk' qo qn qc U.heap.size ms us 1 S3 hn7 hncc hr7 hus OS3 PS3
  rw [hT1] at K1
  refine K1.mono ?_
  rintro e v3 ⟨ao1, m1, d1, rfl, O1, C1⟩
  have PV3 := Lib.hid (PS3.trans (C1.mono PS3.size))
  have L2 := (N2bO.kept C1).lst
  have L3 := (N3O.kept C1).lst
  have L1 := O1.lst
  obtain ⟨h23, t23⟩ := pre_take hp23.out L2.len L3.len
  obtain ⟨h31, t31⟩ := pre_take hp31.out L3.len L1.len
  have h23' : (m2 : Int) ≤ (m3 : Int) := by omega
  have h31' : (m3 : Int) ≤ (m1 : Int) := by omega
  have hc3 := L3.cap
  have hc1 := L1.cap
  have hc3' := L3.room
  have hc1' := L1.room
  have hd3 : (m2 : Int) ≤ (d3 : Int) := by omega
  have hd1 : (m3 : Int) ≤ (d1 : Int) := by omega
  have i23 : ¬ (m3 : Int) < (m2 : Int) := by omega
  have i31 : ¬ (m1 : Int) < (m3 : Int) := by omega
  have E1 : Hid (∀ W, Below v3.heap.size v3 W → Calls Try.prog 10 #[.slice ao3 m2 d3, .slice ao2 m2 d2] W fun e w' => e = .returned (.bool true) ∧ Below W.heap.size W w') := fun W hb => eqI_c _ _ _ _ _ T2 W (by rw [← t23]; exact (L3.take h23).below hb) (L2.below hb)
  have E2 : Hid (∀ W, Below v3.heap.size v3 W → Calls Try.prog 10 #[.slice ao1 m3 d1, .slice ao3 m3 d3] W fun e w' => e = .returned (.bool true) ∧ Below W.heap.size W w') := fun W hb => eqI_c _ _ _ _ _ T3 W (by rw [← t31]; exact (L1.take h31).below hb) (L3.below hb)
  clear x0 x1 x2 x3 x4 x5 x6 x7 x8 x9 x10 K1 C1 O1 AS3 BS3 OS3 PS3 N2b N2bO N3 N3O M2b M3 L1 L2 L3 t23 t31 hT1 hT2 hT3
  go_wp2_with (first
    | (go_at_call 9; (with_reducible refine (HA.out _).mono ?_); rintro e v4 ⟨rfl, D1⟩)
    | (go_at_call 10; (with_reducible refine (E1.out _ D1).mono ?_); rintro e v5 ⟨rfl, D2⟩; have D3 := D1.trans (D2.mono D1.size))
    | (go_at_call 10; (with_reducible refine (E2.out _ D3).mono ?_); rintro e v6 ⟨rfl, D4⟩; have D5 := D3.trans (D4.mono D3.size))
    | fail)
  go_ret
  exact ⟨rfl, PV3.out.trans (D5.mono PV3.out.size)⟩
end Go.Proofs.Ytjpkbaidgddhnaa
