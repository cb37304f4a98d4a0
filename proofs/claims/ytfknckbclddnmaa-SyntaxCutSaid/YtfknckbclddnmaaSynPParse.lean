/-
  syntax.Parse.
-/
import Derived.Test.YtfknckbclddnmaaSynPDef
import Derived.Test.YtfknckbclddnmaaSynOut
namespace Go.Proofs.Ytfknckbclddnmaa
open Go.RowKit Lx

set_option maxHeartbeats 6400000 in
set_option maxRecDepth 100000 in
theorem pParse_c (s : ByteArray) (w : World) (hs : s.size ≤ 1000000) :
    Calls Try.prog 9 #[.string s] w fun e w' => ParseOut (parseS s) w' e ∧ Below w.heap.size w w' := by
  obtain ⟨V, e1, AV, BV, hz⟩ := new_box w 24 [.string ⟨#[]⟩, .slice none 0 0]
  obtain ⟨U, e2, AU, BU, hz2⟩ := new_box V 27 [.int .i64 0, .int .i64 0]
  have AV := AV.kept BU
  obtain ⟨b, hb⟩ : ∃ b, w.heap.size = b := ⟨_, rfl⟩
  rw [hb] at AV BV hz
  rw [hz] at AU hz2
  have HB : Hid (Below b w U) := BV.trans (BU.mono (by omega))
  have HA := Lib.hid (all_c s U hs)
  have AV := Lib.hid AV
  have AU := Lib.hid AU
  have hz2' := Lib.hid hz2
  clear BV BU hz2
  rcases parseS_cases s with ⟨ts, m, hall, hpar, he, hsz, hts⟩ | ⟨E, L, hE, ho, hr⟩
  · rw [hpar]
    obtain ⟨P, hP⟩ : ∃ P, Hid (sourceP (ts ++ [(⟨5, [], m⟩ : Tok)]) = P) := ⟨_, rfl⟩
    rw [hP.out]
    have hall := Lib.hid hall
    clear hpar
    go_enter Try.func9, Try.ntmps9
    go_wp2_with fail
    refine HA.out.mono ?_
    rintro e w1 ⟨hO, B1⟩
    rw [hall.out] at hO
    obtain ⟨ao, c, rfl, O⟩ := hO.ok
    obtain ⟨nn, hnn⟩ : ∃ nn, ts.length + 1 = nn := ⟨_, rfl⟩
    rw [hnn] at O ⊢
    rcases O.cases with ⟨_, h0, _⟩ | ⟨gt, rfl, hgt1, hgt2, hnc, hcm⟩
    · omega
    obtain ⟨X0, X, e3, e4, AX, BX, hz3, f0, f1, f2, f3⟩ := new_put2 w1 27 (.int .i64 0) (.int .i64 0) (.int .i64 0) (.int .i64 0)
    obtain ⟨Y, e5, AY, BY, hz4⟩ := new_box X 50 [.slice (some ⟨gt, 0, none⟩) nn c]
    have OY := (O.keep BX).keep BY
    have hat : AtP Y X.heap.size gt nn c (ts ++ [(⟨5, [], m⟩ : Tok)]) (ts ++ [(⟨5, [], m⟩ : Tok)]) := ⟨0, ⟨AY, OY.lower (Nat.zero_le _), by omega, by omega, hnc, hcm⟩, rfl⟩
    have HD := Lib.hid (pDef_c Y X.heap.size gt nn c _ _ hat he hsz hts)
    rw [hP.out] at HD
    have q0 : X.cell? ⟨w1.heap.size, 0, none⟩ = some (.int .i64 0) := AX.cell 0
    have AV1 := Lib.hid (((AV.out.below B1 (by rw [hz2'.out]; omega)).kept BX).kept BY)
    have AU1 := Lib.hid (((AU.out.below B1 (by rw [hz2'.out]; omega)).kept BX).kept BY)
    have hw1 : U.heap.size ≤ w1.heap.size := B1.size
    have HB1 : Hid (Below b w Y) := HB.out.trans (((B1.trans (BX.mono hw1)).trans (BY.mono (by omega))).mono (by rw [hz2'.out]; omega))
    obtain ⟨g, hg⟩ : ∃ g, X.heap.size = g := ⟨_, rfl⟩
    have hgtb : Hid (b + 1 < gt) := by show _ < _; have := hz2'.out; omega
    have hgb : Hid (b + 1 < g) := by show _ < _; have := hz2'.out; omega
    have hYg : Hid (Y.heap.size = g + 1) := by show _ = _; omega
    rw [hg] at HD hat AY
    clear hO B1 O OY hgt1 hgt2 hnc hcm AX BX BY hz4 hz3 hat hnn HA AY
    go_wp2_with fail
    clear e1 e2 e3 e4 e5 f0 f1 f2 f3 q0
    refine HD.out.mono ?_
    rintro e w2 ⟨hO, hG⟩
    have AV2 := AV1.out.grown hG (by have := hgb.out; omega)
    have AU2 := AU1.out.grown hG (by have := hgb.out; omega)
    have hw2 : Y.heap.size ≤ w2.heap.size := hG.size
    have HB2 : Below b w w2 := HB1.out.trans (below_grown hG (by have := hgb.out; omega) (by have := hgb.out; have := hYg.out; omega))
    cases P with
    | ok x r =>
      obtain ⟨ao, m', d, rfl, BL⟩ := hO
      obtain ⟨X0, X1, e3, e4, AX, BX, hz3, f0, f1, f2, f3⟩ := new_put2 w2 24 (.string ⟨#[]⟩) (.slice none 0 0) (.string (stg x.title)) (.slice ao m' d)
      have BL := BL.keep (stable_own _ _) (keeps_below _ BX)
      have AV3 := AV2.kept BX
      have AU3 := AU2.kept BX
      have p0 : X1.cell? ⟨w2.heap.size, 0, none⟩ = some (.string (stg x.title)) := AX.cell 0
      have p1 : X1.cell? ⟨w2.heap.size, 1, none⟩ = some (.slice ao m' d) := AX.cell 1
      obtain ⟨Z, e5, hZ, AZ, k0, k1, k2, k3⟩ := put_box2 AV3 (.string (stg x.title)) (.slice ao m' d)
      have AUZ := AU3.off2 (b := b) (by omega) (.string (stg x.title)) (.slice ao m' d)
      rw [← hZ.out] at AUZ
      obtain ⟨Z2, e6, hZ2, AZ2, j0, j1, j2, j3⟩ := put_box2 AUZ (.int .i64 0) (.int .i64 0)
      have AZf := AZ.off2 (b := b + 1) (by omega) (.int .i64 0) (.int .i64 0)
      rw [← hZ2.out] at AZf
      have r0 : Z2.cell? ⟨b, 0, none⟩ = some (.string (stg x.title)) := AZf.cell 0
      have r1 : Z2.cell? ⟨b, 1, none⟩ = some (.slice ao m' d) := AZf.cell 1
      have r2 : Z2.cell? ⟨b + 1, 0, none⟩ = some (.int .i64 0) := AZ2.cell 0
      have r3 : Z2.cell? ⟨b + 1, 1, none⟩ = some (.int .i64 0) := AZ2.cell 1
      have HB3 : Hid (Below b w Z2) := by
        show Below _ _ _
        rw [hZ2.out, hZ.out]
        exact below_put2 (below_put2 (HB2.trans (BX.mono (by have := hgb.out; have := hYg.out; omega))) (Nat.le_refl _) _ _) (Nat.le_succ _) _ _
      have BLf : Hid (BlkL true anyF Z2 ao m' d x.blks) := by
        show BlkL _ _ _ _ _ _ _
        rw [hZ2.out]
        refine ((BL.keep (stable_own _ _) ?_).keep (stable_own _ _) (keeps_put2 AUZ (by decide) _ _)).mono (fun _ _ => trivial)
        rw [hZ.out]
        exact keeps_put2 AV3 (by decide) _ _
      clear hG HD AV2 AU2 HB2 AX BX BL AV3 AU3 AZ AUZ AZ2 AZf
      go_wp2_with fail
      refine bodyPost_ret (v := .tuple #[.agg #[.string (stg x.title), .slice ao m' d], .agg #[.int .i64 0, .int .i64 0]]) (by simp [results, Try.results9, go_sem, r0, r1, r2, r3]) rfl ?_
      exact ⟨⟨ao, m', d, rfl, BLf.out⟩, by rw [hb]; exact HB3.out⟩
    | bad ln =>
      obtain ⟨⟨S, ao, m', d, rfl⟩, l', hAt, hln⟩ := hO
      obtain ⟨X0, X1, e3, e4, AX, BX, hz3, f0, f1, f2, f3⟩ := new_put2 w2 24 (.string ⟨#[]⟩) (.slice none 0 0) (.string S) (.slice ao m' d)
      obtain ⟨i, t, rr, hPs, ht, hl, _⟩ := hAt.head
      have hPs := (hPs.keep BX).keep (Below.drew (Below.refl _ _))
      have AV3 := (AV2.kept BX).drew
      have AU3 := (AU2.kept BX).drew
      have HB3 := HB2.trans (BX.mono (by have := hgb.out; have := hYg.out; omega))
      have HB3 := HB3.drew
      obtain ⟨W, hW⟩ : ∃ W, X1.drew = W := ⟨_, rfl⟩
      rw [hW] at hPs AV3 AU3 HB3
      obtain ⟨_, _, a3⟩ := hPs.at t ht
      have y0 : W.cell? ⟨g, 0, none⟩ = some (.slice (some ⟨gt, 3 * i, none⟩) (nn - i) (c - i)) := hPs.arr.cell 0
      have x0 := ix_tok gt i nn c hPs.lt
      have hln' : t.line = ln := by rw [hl] at hln; exact hln
      rw [hln'] at a3
      have k0 : W.cell? ⟨b, 0, none⟩ = some (.string ⟨#[]⟩) := AV3.cell 0
      have k1 : W.cell? ⟨b, 1, none⟩ = some (.slice none 0 0) := AV3.cell 1
      have k2 := AV3.frozen 0
      have k3 := AV3.frozen 1
      have j0 : W.cell? ⟨b + 1, 0, none⟩ = some (.int .i64 0) := AU3.cell 0
      have j1 : W.cell? ⟨b + 1, 1, none⟩ = some (.int .i64 0) := AU3.cell 1
      have j2 := AU3.frozen 0
      have j3 := AU3.frozen 1
      have n1 : b ≠ g := by have := hgb.out; omega
      have n2 : b + 1 ≠ g := by have := hgb.out; omega
      have n3 : b ≠ gt := by have := hgtb.out; omega
      have n4 : b + 1 ≠ gt := by have := hgtb.out; omega
      have AV3 := Lib.hid AV3
      have AU3 := Lib.hid AU3
      have HB3 := Lib.hid HB3
      clear hG HD AV2 AU2 HB2 AX BX hPs hAt hl hln ht
      go_wp2_with fail
      go_region
      go_wp2_with fail
      obtain ⟨r0, r1, r2, r3, hZ⟩ := parse_end (E := 1) (L := (ln : Int)) (r := some (.err ln)) AV3.out AU3.out HB3.out rfl
      unfold put2 at r0 r1 r2 r3
      refine bodyPost_ret (v := .tuple #[.agg #[.string ⟨#[]⟩, .slice none 0 0], .agg #[.int .i64 1, .int .i64 (ln : Int)]]) (by simp [results, Try.results9, go_sem, r0, r1, r2, r3]) rfl ?_
      rw [hb]
      exact hZ
  · have ho := Lib.hid ho
    have hr := Lib.hid hr
    have hE' : (E != 0) = true := by rw [bne, hE]; rfl
    go_enter Try.func9, Try.ntmps9
    go_wp2_with fail
    refine HA.out.mono ?_
    rintro e w1 ⟨hO, B1⟩
    obtain ⟨ao, nn, c, rfl, _⟩ := hO.view
    rw [hr.out]
    obtain ⟨X0, X, e3, e4, AX, BX, hz3, f0, f1, f2, f3⟩ := new_put2 w1 27 (.int .i64 0) (.int .i64 0) (.int .i64 E) (.int .i64 L)
    have AV3 := ((AV.out.below B1 (by rw [hz2'.out]; omega)).kept BX).drew
    have AU3 := ((AU.out.below B1 (by rw [hz2'.out]; omega)).kept BX).drew
    have HB3 := (HB.out.trans ((B1.trans (BX.mono B1.size)).mono (by rw [hz2'.out]; omega))).drew
    have q0 : X.cell? ⟨w1.heap.size, 0, none⟩ = some (.int .i64 E) := AX.cell 0
    have AXd := AX.drew
    obtain ⟨W, hW⟩ : ∃ W, X.drew = W := ⟨_, rfl⟩
    rw [hW] at AV3 AU3 HB3 AXd
    have y0 : W.cell? ⟨w1.heap.size, 0, none⟩ = some (.int .i64 E) := AXd.cell 0
    have y1 : W.cell? ⟨w1.heap.size, 1, none⟩ = some (.int .i64 L) := AXd.cell 1
    have k0 : W.cell? ⟨b, 0, none⟩ = some (.string ⟨#[]⟩) := AV3.cell 0
    have k1 : W.cell? ⟨b, 1, none⟩ = some (.slice none 0 0) := AV3.cell 1
    have k2 := AV3.frozen 0
    have k3 := AV3.frozen 1
    have j0 : W.cell? ⟨b + 1, 0, none⟩ = some (.int .i64 0) := AU3.cell 0
    have j1 : W.cell? ⟨b + 1, 1, none⟩ = some (.int .i64 0) := AU3.cell 1
    have j2 := AU3.frozen 0
    have j3 := AU3.frozen 1
    have hw1 : U.heap.size ≤ w1.heap.size := B1.size
    have n1 : b ≠ w1.heap.size := by have := hz2'.out; omega
    have n2 : b + 1 ≠ w1.heap.size := by have := hz2'.out; omega
    have AV3 := Lib.hid AV3
    have AU3 := Lib.hid AU3
    have HB3 := Lib.hid HB3
    clear HA hO B1 AX BX AXd hw1
    go_wp2_with fail
    go_region
    go_wp2_with fail
    obtain ⟨r0, r1, r2, r3, hZ⟩ := parse_end (E := E) (L := L) AV3.out AU3.out HB3.out ho.out
    unfold put2 at r0 r1 r2 r3
    refine bodyPost_ret (v := .tuple #[.agg #[.string ⟨#[]⟩, .slice none 0 0], .agg #[.int .i64 E, .int .i64 L]]) (by simp [results, Try.results9, go_sem, r0, r1, r2, r3]) rfl ?_
    rw [hb]
    exact hZ
end Go.Proofs.Ytfknckbclddnmaa
