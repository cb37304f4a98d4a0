/-
  electionref07.Parse.
-/
import Derived.Test.YtaeionfhflnbpaaSynRBlk
import Derived.Test.YtaeionfhflnbpaaSynOut
import Derived.Test.YtaeionfhflnbpaaLexAllR
namespace Go.Proofs.Ytaeionfhflnbpaa
open Go.RowKit Lx

/-- While the reference reads a definition: the box sb, the row of blocks, from block B on. -/
def PSt (B : Nat) (wr : World) (g sb : Nat) (title : Value) (ao : Option Addr) (n c : Nat) (bs : List Blc) : Prop :=
  (g < B ∧ B ≤ sb ∧ Arr wr sb 24 [title, .slice ao n c]) ∧ ∃ us, wr.ownsRow B 39 4 (.slice ao n c) n us ∧ BCells true (ownF B [9, 42]) wr bs us
section
variable {B : Nat} {wr w' : World} {g sb n c : Nat} {title : Value} {ao : Option Addr} {bs : List Blc}
theorem PSt.call (h : PSt B wr g sb title ao n c bs) (hg : wr.grownBy w' (some g)) : PSt B w' g sb title ao n c bs := by
  obtain ⟨⟨h1, h2, h3⟩, us, h4, h5⟩ := h
  exact ⟨⟨h1, h2, h3.grown hg (by omega)⟩, us, ownsRow_older h4 hg h1, h5.keep (stable_own _ _) (keeps_older hg h1)⟩
theorem PSt.keep (h : PSt B wr g sb title ao n c bs) (hb : Below wr.heap.size wr w') : PSt B w' g sb title ao n c bs := h.call (grown_below hb _)
theorem PSt.setTitle (h : PSt B wr g sb title ao n c bs) (u : Value) : ∃ W, wr.setCell ⟨sb, 0, none⟩ u = W ∧ PSt B W g sb u ao n c bs ∧ Hid (W = wr.setCell ⟨sb, 0, none⟩ u) ∧ wr.cell? ⟨sb, 0, none⟩ = some title ∧ wr.frozen? ⟨sb, 0, none⟩ = false := by
  obtain ⟨⟨h1, h2, h3⟩, us, h4, h5⟩ := h
  exact ⟨_, rfl, ⟨⟨h1, h2, h3.set 0 u⟩, us, ownsRow_set h4 (row_ne_box h4 h3 (by decide)) _, h5.keep (stable_own _ _) (keeps_set_kind h3 (by decide) _)⟩, rfl, h3.cell 0, h3.frozen 0⟩
theorem PSt.blks (h : PSt B wr g sb title ao n c bs) : BlkL true (ownF B [9, 42, 39]) wr ao n c bs := by
  obtain ⟨_, us, h4, h5⟩ := h
  exact ⟨us, (Row.own h4 (by decide)).mono (own_mono (Nat.le_refl _) (by simp)), h5.mono (own_mono (Nat.le_refl _) (by simp))⟩
end

set_option maxHeartbeats 12800000 in
set_option maxRecDepth 100000 in
theorem rParse_c (s : ByteArray) (w : World) (hs : s.size ≤ 1000000) :
    Calls Try.prog 10 #[.string s] w fun e w' => ParseOut (parseS s) w' e ∧ Below w.heap.size w w' := by
  obtain ⟨V, e1, AV, BV, hz⟩ := new_box w 24 [.string ⟨#[]⟩, .slice none 0 0]
  obtain ⟨U, e2, AU, BU, hz2⟩ := new_box V 27 [.int .i64 0, .int .i64 0]
  have AV := AV.kept BU
  obtain ⟨b, hb⟩ : ∃ b, w.heap.size = b := ⟨_, rfl⟩
  rw [hb] at AV BV hz
  rw [hz] at AU hz2
  have HB : Hid (Below b w U) := BV.trans (BU.mono (by omega))
  have HA := Lib.hid (refall_c s U hs)
  have AV := Lib.hid AV
  have AU := Lib.hid AU
  have hz2' := Lib.hid hz2
  clear BV BU hz2
  rcases parseS_cases s with ⟨ts, m, hall, hpar, he, hsz, hts⟩ | ⟨E, L, hE, ho, hr⟩
  · rw [hpar]
    obtain ⟨P, hP⟩ : ∃ P, Hid (sourceP (ts ++ [(⟨5, [], m⟩ : Tok)]) = P) := ⟨_, rfl⟩
    rw [hP.out]
    obtain ⟨R, hRR⟩ : ∃ R, Hid (ansR P = R) := ⟨_, rfl⟩
    rw [hRR.out]
    have hall := Lib.hid hall
    clear hpar
    go_enter Try.func10, Try.ntmps10
    go_wp2_with fail
    refine HA.out.mono ?_
    rintro e w1 ⟨hO, B1⟩
    rw [hall.out] at hO
    obtain ⟨ao, c, rfl, O⟩ := hO.ok
    obtain ⟨nn, hnn⟩ : ∃ nn, ts.length + 1 = nn := ⟨_, rfl⟩
    rw [hnn] at O ⊢
    rcases O.cases with ⟨_, h0, _⟩ | ⟨gt, rfl, hgt1, hgt2, hnc, hcm⟩
    · omega
    obtain ⟨X0, X, e3, e4, AX, BX, hz3, f0, f1, f2, f3⟩ := new_put2 w1 27 (.int .i64 0) (.int .i64 0) (.int .i64 0) (.int .i64 0)
    obtain ⟨Y, e5, AY, BY, hz4⟩ := new_box X 55 [.slice (some ⟨gt, 0, none⟩) nn c, .int .i64 0, .int .i64 0]
    obtain ⟨Z, e6, AZ, BZ, hz5⟩ := new_box Y 24 [.string ⟨#[]⟩, .slice none 0 0]
    have OZ := ((O.keep BX).keep BY).keep BZ
    have hRZ : RS Z X.heap.size (some ⟨gt, 0, none⟩) nn c (ts ++ [(⟨5, [], m⟩ : Tok)]) (.ok () (ts ++ [(⟨5, [], m⟩ : Tok)])) :=
      ⟨0, ⟨AY.kept BZ, OZ.lower (Nat.zero_le _), fun a ea => by injection ea with ea; subst ea; show gt ≠ _; omega⟩, rfl, by simp⟩
    obtain ⟨g, hg⟩ : ∃ g, X.heap.size = g := ⟨_, rfl⟩
    rw [hg] at hRZ hz4 AY
    rw [hz4] at AZ hz5
    have q0 : X.cell? ⟨w1.heap.size, 0, none⟩ = some (.int .i64 0) := AX.cell 0
    have AV1 := (((AV.out.below B1 (by rw [hz2'.out]; omega)).kept BX).kept BY).kept BZ
    have AU1 := (((AU.out.below B1 (by rw [hz2'.out]; omega)).kept BX).kept BY).kept BZ
    have hw1 : U.heap.size ≤ w1.heap.size := B1.size
    have HB1 : Below b w Z := HB.out.trans ((((B1.trans (BX.mono hw1)).trans (BY.mono (by omega))).trans (BZ.mono (by omega))).mono (by rw [hz2'.out]; omega))
    have hgb : Hid (b + 1 < g) := by show _ < _; have := hz2'.out; omega
    have hgtg : Hid (∀ a, (some ⟨gt, 0, none⟩ : Option Addr) = some a → a.block < g ∧ a.block ≠ b ∧ a.block ≠ b + 1) := by
      intro a ea
      injection ea with ea
      subst ea
      have := hz2'.out
      exact ⟨by show gt < g; omega, by show gt ≠ b; omega, by show gt ≠ b + 1; omega⟩
    have PS : PSt (g + 1) Z g (g + 1) (.string ⟨#[]⟩) none 0 0 [] := ⟨⟨by omega, Nat.le_refl _, AZ⟩, [], World.ownsRow_nil _ _ _ _, rfl⟩
    have HP : Hid (P = (takeE (ts ++ [(⟨5, [], m⟩ : Tok)])).bind fun _ r => (takeK 3 r).bind fun title r2 => (takeM 123 r2).bind fun _ r3 => tailS title (untR blockP [] r3)) := by show _ = _; rw [← hP.out, sourceP_step]
    have hn0 : Hid (g ≠ g + 1) := by show g ≠ g + 1; omega
    have hn1 : Hid (∀ a, (some ⟨gt, 0, none⟩ : Option Addr) = some a → a.block ≠ g + 1) := fun a ea => by have := (hgtg.out a ea).1; omega
    obtain ⟨TS, hTS⟩ : ∃ T, Hid (ts ++ [(⟨5, [], m⟩ : Tok)] = T) := ⟨_, rfl⟩
    rw [hTS.out] at hRZ he hsz hts HP
    -- what stays through it all
    obtain ⟨ST, hST⟩ : ∃ ST : World → Prop, ST = fun wr => Arr wr b 24 [.string ⟨#[]⟩, .slice none 0 0] ∧ Arr wr (b + 1) 27 [.int .i64 0, .int .i64 0] ∧ Below b w wr ∧ g < wr.heap.size := ⟨_, rfl⟩
    have sCall : Hid (∀ wr w', ST wr → wr.grownBy w' (some g) → ST w') := by
      intro wr w' h hG
      rw [hST] at h ⊢
      obtain ⟨h1, h2, h3, h4⟩ := h
      have := hgb.out
      exact ⟨h1.grown hG (by omega), h2.grown hG (by omega), h3.trans (below_grown hG (by omega) (by omega)), Nat.lt_of_lt_of_le h4 hG.size⟩
    have sSet : Hid (∀ wr i u, ST wr → ST (wr.setCell ⟨g + 1, i, none⟩ u)) := by
      intro wr i u h
      rw [hST] at h ⊢
      obtain ⟨h1, h2, h3, h4⟩ := h
      have := hgb.out
      exact ⟨h1.far (by show b ≠ g + 1; omega) u, h2.far (by show b + 1 ≠ g + 1; omega) u, h3.setCell (p := ⟨g + 1, i, none⟩) (by show b ≤ g + 1; omega) u, by simpa [World.setCell] using h4⟩
    have sLow : Hid (∀ wr w', ST wr → Below (g + 1) wr w' → ST w') := by
      intro wr w' h hG
      rw [hST] at h ⊢
      obtain ⟨h1, h2, h3, h4⟩ := h
      have := hgb.out
      exact ⟨h1.below hG (by omega), h2.below hG (by omega), h3.trans (hG.mono (by omega)), Nat.lt_of_lt_of_le h4 hG.size⟩
    have SZ : ST Z := by rw [hST]; exact ⟨AV1, AU1, HB1, by omega⟩
    have hST := Lib.hid hST
    have HT := Lib.hid (rsElec_c Z g (some ⟨gt, 0, none⟩) nn c TS _ hRZ he)
    have PS := Lib.hid PS
    have SZ := Lib.hid SZ
    clear hO B1 O OZ hgt1 hgt2 hnc hcm AX BX BY BZ AZ hz3 hnn HA AY AV1 AU1 hw1 HB1 hP hRZ AV AU HB hz5
    go_wp2_with fail
    clear e1 e2 e3 e4 e5 e6 f0 f1 f2 f3 q0
    refine HT.out.mono ?_
    rintro e w2 ⟨S2, p2, rfl, hR2, hGo, G2⟩
    have HP : Hid (P = p2.bind fun _ r => (takeK 3 r).bind fun title r2 => (takeM 123 r2).bind fun _ r3 => tailS title (untR blockP [] r3)) := by
      show _ = _
      rw [HP.out]
      exact hGo _ (fun r => (takeK 3 r).bind fun title r2 => (takeM 123 r2).bind fun _ r3 => tailS title (untR blockP [] r3))
    have PS := Lib.hid (PS.out.call G2)
    have SZ := Lib.hid (sCall.out _ _ SZ.out G2)
    have HT2 := Lib.hid (rsTake_c w2 g (some ⟨gt, 0, none⟩) nn c TS _ hR2 he 3 (by decide))
    clear HT hR2 hGo G2
    go_wp2_with fail
    refine HT2.out.mono ?_
    rintro e w3 ⟨S, p3, rfl, hR3, hGo, G3⟩
    have HP : Hid (P = p3.bind fun _ r2 => (takeM 123 r2).bind fun _ r3 => tailS S (untR blockP [] r3)) := by
      show _ = _
      rw [HP.out]
      exact hGo _ (fun title r2 => (takeM 123 r2).bind fun _ r3 => tailS title (untR blockP [] r3))
    obtain ⟨W3, e7, PS3, hW3, f0, f1⟩ := (PS.out.call G3).setTitle (.string (stg S))
    have hR3 : RS W3 g (some ⟨gt, 0, none⟩) nn c TS p3 := by rw [hW3.out]; exact hR3.far hn0.out hn1.out _
    have SZ : Hid (ST W3) := by show ST _; rw [hW3.out]; exact sSet.out _ _ _ (sCall.out _ _ SZ.out G3)
    have HM := Lib.hid (rsMark_c W3 g (some ⟨gt, 0, none⟩) nn c TS _ hR3 he 123)
    have PS := Lib.hid PS3
    clear HT2 hR3 hGo G3 PS3
    go_wp2_with fail
    clear e7 f0 f1
    refine HM.out.mono ?_
    rintro e w4 ⟨S4, p4, rfl, hR4, hGo, G4⟩
    have HP : Hid (P = p4.bind fun _ r3 => tailS S (untR blockP [] r3)) := by
      show _ = _
      rw [HP.out]
      exact hGo _ (fun r3 => tailS S (untR blockP [] r3))
    have PS := Lib.hid (PS.out.call G4)
    have SZ := Lib.hid (sCall.out _ _ SZ.out G4)
    have hR4 := Lib.hid hR4
    have hlen : Hid (∀ l, p4 = .ok () l → 0 + l.length ≤ TS.length) := by
      intro l e
      have := hR4.out
      rw [e] at this
      have := AtS.sub this
      omega
    clear HM hGo G4
    go_wp2_with fail
    go_loopw [] (fun wr => ∃ (ao : Option Addr) (m d : Nat) (bs : List Blc) (q : PR Unit), RS wr g (some ⟨gt, 0, none⟩) nn c TS q ∧ PSt (g + 1) wr g (g + 1) (.string (stg S)) ao m d bs ∧ ST wr ∧ Hid (P = q.bind fun _ r => tailS S (untR blockP bs r)) ∧ (∀ l, q = .ok () l → m + l.length ≤ TS.length)) (fun wr => rsN g wr)
    case atStart => exact ⟨_, 0, 0, [], p4, hR4.out, PS.out, SZ.out, HP, hlen.out⟩
    case round =>
      clear hR4 PS SZ HP hlen
      obtain ⟨ao, m', d, bs, q, hR, PS, SZ, HP, hlen⟩ := hrel
      have PS := Lib.hid PS
      have SZ := Lib.hid SZ
      cases q with
      | bad bl =>
        have hRb : BdS wr g (some ⟨gt, 0, none⟩) nn c TS bl := hR
        obtain ⟨i2, t2, hRd, _, hb1⟩ := hRb
        have k0 : wr.cell? ⟨g, 2, none⟩ = some (.int .i64 (bl : Int)) := hRd.arr.cell 2
        have k1 : ((bl : Int) == 0) = false := by rw [beq_eq_false_iff_ne]; omega
        have HM := Lib.hid (rsMark_c wr g (some ⟨gt, 0, none⟩) nn c TS _ hR he 125)
        have HP : Hid (P = (PR.bad bl : PR Unit).bind fun _ r => (takeM 125 r).bind fun _ r2 => (takeK 5 r2).bind fun _ r3 => .ok ⟨S, bs⟩ r3) := by
          exact HP.out
        clear hR hRd hlen
        go_wp2_with fail
        clear k0 k1
        refine HM.out.mono ?_
        rintro e w5 ⟨S5, q5, rfl, hR5, hGo, G5⟩
        have HP : Hid (P = q5.bind fun _ r2 => (takeK 5 r2).bind fun _ r3 => .ok ⟨S, bs⟩ r3) := by
          show _ = _
          rw [HP.out]
          exact hGo Src (fun r2 => (takeK 5 r2).bind fun _ r3 => .ok ⟨S, bs⟩ r3)
        have PS := Lib.hid (PS.out.call G5)
        have SZ := Lib.hid (sCall.out _ _ SZ.out G5)
        have HE := Lib.hid (rsEnd_c w5 g (some ⟨gt, 0, none⟩) nn c TS q5 hR5 he)
        clear HM hR5 hGo G5
        go_wp2_with fail
        refine HE.out.mono ?_
        rintro e w6 ⟨S6, i6, b6, rfl, hRd, hmt, G6⟩
        have PS6 := PS.out.call G6
        have SZ6 := sCall.out _ _ SZ.out G6
        have k0 : w6.cell? ⟨g, 2, none⟩ = some (.int .i64 (b6 : Int)) := hRd.arr.cell 2
        have hPX : Hid (P = (q5.bind fun _ r => takeK 5 r).bind fun _ r3 => .ok ⟨S, bs⟩ r3) := by
          show _ = _
          rw [HP.out]
          cases q5 <;> rfl
        cases hX : (q5.bind fun _ r => takeK 5 r) with
        | ok u r =>
          rw [hX] at hmt hPX
          have hb6 : b6 = 0 := hmt
          subst hb6
          have hPX : Hid (P = .ok ⟨S, bs⟩ r) := hPX.out
          have y0 : w6.cell? ⟨g + 1, 0, none⟩ = some (.string (stg S)) := PS6.1.2.2.cell 0
          have y1 : w6.cell? ⟨g + 1, 1, none⟩ = some (.slice ao m' d) := PS6.1.2.2.cell 1
          rw [hST.out] at SZ6
          obtain ⟨AV3, AU3, HB3, hg3⟩ := SZ6
          obtain ⟨Z7, e7, hZ7, AZ7, j0, j1, j2, j3⟩ := put_box2 AV3 (.string (stg S)) (.slice ao m' d)
          have AUZ := AU3.off2 (b := b) (by omega) (.string (stg S)) (.slice ao m' d)
          rw [← hZ7.out] at AUZ
          obtain ⟨Z8, e8, hZ8, AZ8, l0, l1, l2, l3⟩ := put_box2 AUZ (.int .i64 0) (.int .i64 0)
          have AZf := AZ7.off2 (b := b + 1) (by omega) (.int .i64 0) (.int .i64 0)
          rw [← hZ8.out] at AZf
          have r0 : Z8.cell? ⟨b, 0, none⟩ = some (.string (stg S)) := AZf.cell 0
          have r1 : Z8.cell? ⟨b, 1, none⟩ = some (.slice ao m' d) := AZf.cell 1
          have r2 : Z8.cell? ⟨b + 1, 0, none⟩ = some (.int .i64 0) := AZ8.cell 0
          have r3 : Z8.cell? ⟨b + 1, 1, none⟩ = some (.int .i64 0) := AZ8.cell 1
          have HB4 : Hid (Below b w Z8) := by
            show Below _ _ _
            rw [hZ8.out, hZ7.out]
            exact below_put2 (below_put2 HB3 (Nat.le_refl _) _ _) (Nat.le_succ _) _ _
          have BLf : Hid (BlkL true anyF Z8 ao m' d bs) := by
            show BlkL _ _ _ _ _ _ _
            rw [hZ8.out]
            refine ((PS6.blks.keep (stable_own _ _) ?_).keep (stable_own _ _) (keeps_put2 AUZ (by decide) _ _)).mono (fun _ _ => trivial)
            rw [hZ7.out]
            exact keeps_put2 AV3 (by decide) _ _
          clear HE PS PS6 SZ hRd hmt G6 HP hX AV3 AU3 HB3 AZ7 AUZ AZ8 AZf
          go_wp2_with fail
          refine bodyPost_ret (v := .tuple #[.agg #[.string (stg S), .slice ao m' d], .agg #[.int .i64 0, .int .i64 0]]) (by simp [results, Try.results10, go_sem, r0, r1, r2, r3]) rfl ?_
          rw [← hRR.out, hPX.out]
          exact ⟨⟨ao, m', d, rfl, BLf.out⟩, by rw [hb]; exact HB4.out⟩
        | bad ln =>
          rw [hX] at hmt hPX
          obtain ⟨hb6, hb7⟩ : b6 = ln ∧ 1 ≤ ln := hmt
          subst hb6
          have hPX : Hid (P = .bad b6) := hPX.out
          have k1 : ((b6 : Int) == 0) = false := by rw [beq_eq_false_iff_ne]; omega
          rw [hST.out] at SZ6
          obtain ⟨AV3, AU3, HB3, hg3⟩ := SZ6
          have AV3 := AV3.drew
          have AU3 := AU3.drew
          have HB3 := HB3.drew
          have hRd3 := hRd.arr.drew
          obtain ⟨W, hW⟩ : ∃ W, w6.drew = W := ⟨_, rfl⟩
          rw [hW] at AV3 AU3 HB3 hRd3
          have y0 : W.cell? ⟨g, 2, none⟩ = some (.int .i64 (b6 : Int)) := hRd3.cell 2
          have j0 : W.cell? ⟨b, 0, none⟩ = some (.string ⟨#[]⟩) := AV3.cell 0
          have j1 : W.cell? ⟨b, 1, none⟩ = some (.slice none 0 0) := AV3.cell 1
          have j2 := AV3.frozen 0
          have j3 := AV3.frozen 1
          have l0 : W.cell? ⟨b + 1, 0, none⟩ = some (.int .i64 0) := AU3.cell 0
          have l1 : W.cell? ⟨b + 1, 1, none⟩ = some (.int .i64 0) := AU3.cell 1
          have l2 := AU3.frozen 0
          have l3 := AU3.frozen 1
          have n1 : b ≠ g := by have := hgb.out; omega
          have n2 : b + 1 ≠ g := by have := hgb.out; omega
          have AV3 := Lib.hid AV3
          have AU3 := Lib.hid AU3
          have HB3 := Lib.hid HB3
          clear HE PS PS6 SZ hRd hRd3 G6 HP hX
          go_wp2_with fail
          go_region
          go_wp2_with fail
          obtain ⟨r0, r1, r2, r3, hZ⟩ := parse_end (E := 1) (L := (b6 : Int)) (r := some (.err b6)) AV3.out AU3.out HB3.out rfl
          unfold put2 at r0 r1 r2 r3
          refine bodyPost_ret (v := .tuple #[.agg #[.string ⟨#[]⟩, .slice none 0 0], .agg #[.int .i64 1, .int .i64 (b6 : Int)]]) (by simp [results, Try.results10, go_sem, r0, r1, r2, r3]) rfl ?_
          rw [← hRR.out, hPX.out, hb]
          exact hZ
      | ok u l =>
        have hRl : AtS wr g (some ⟨gt, 0, none⟩) nn c TS l := hR
        have hme := Lib.hid (AtS.rsN hRl)
        obtain ⟨i2, t2, r2, hRd, _, _, _⟩ := AtS.head hRl
        have k0 : wr.cell? ⟨g, 2, none⟩ = some (.int .i64 0) := hRd.arr.cell 2
        have HA := Lib.hid (rsAt_c wr g (some ⟨gt, 0, none⟩) nn c TS (.ok () l) hR 125)
        have hml := hlen l rfl
        clear hR hRl hRd hlen
        go_wp2_with fail
        clear k0
        refine HA.out.mono ?_
        rintro e w5 ⟨bb, rfl, hR5, hy, hno, G5⟩
        have PS := Lib.hid (PS.out.call G5)
        have SZ := Lib.hid (sCall.out _ _ SZ.out G5)
        cases bb with
        | true =>
          obtain ⟨l', e, hm⟩ := hy rfl
          injection e with _ e
          subst e
          have HM := Lib.hid (rsMark_c w5 g (some ⟨gt, 0, none⟩) nn c TS _ hR5 he 125)
          have HP : Hid (P = (PR.ok () l : PR Unit).bind fun _ r => (takeM 125 r).bind fun _ r2 => (takeK 5 r2).bind fun _ r3 => .ok ⟨S, bs⟩ r3) := by
            show _ = _
            rw [HP.out, PR.bind_ok, PR.bind_ok, untR_end hm]
            rfl
          clear HA hy hno hR5 G5 hm
          go_wp2_with fail
          refine HM.out.mono ?_
          rintro e w5 ⟨S5, q5, rfl, hR5, hGo, G5⟩
          have HP : Hid (P = q5.bind fun _ r2 => (takeK 5 r2).bind fun _ r3 => .ok ⟨S, bs⟩ r3) := by
            show _ = _
            rw [HP.out]
            exact hGo Src (fun r2 => (takeK 5 r2).bind fun _ r3 => .ok ⟨S, bs⟩ r3)
          have PS := Lib.hid (PS.out.call G5)
          have SZ := Lib.hid (sCall.out _ _ SZ.out G5)
          have HE := Lib.hid (rsEnd_c w5 g (some ⟨gt, 0, none⟩) nn c TS q5 hR5 he)
          clear HM hR5 hGo G5
          go_wp2_with fail
          refine HE.out.mono ?_
          rintro e w6 ⟨S6, i6, b6, rfl, hRd, hmt, G6⟩
          have PS6 := PS.out.call G6
          have SZ6 := sCall.out _ _ SZ.out G6
          have k0 : w6.cell? ⟨g, 2, none⟩ = some (.int .i64 (b6 : Int)) := hRd.arr.cell 2
          have hPX : Hid (P = (q5.bind fun _ r => takeK 5 r).bind fun _ r3 => .ok ⟨S, bs⟩ r3) := by
            show _ = _
            rw [HP.out]
            cases q5 <;> rfl
          cases hX : (q5.bind fun _ r => takeK 5 r) with
          | ok u r =>
            rw [hX] at hmt hPX
            have hb6 : b6 = 0 := hmt
            subst hb6
            have hPX : Hid (P = .ok ⟨S, bs⟩ r) := hPX.out
            have y0 : w6.cell? ⟨g + 1, 0, none⟩ = some (.string (stg S)) := PS6.1.2.2.cell 0
            have y1 : w6.cell? ⟨g + 1, 1, none⟩ = some (.slice ao m' d) := PS6.1.2.2.cell 1
            rw [hST.out] at SZ6
            obtain ⟨AV3, AU3, HB3, hg3⟩ := SZ6
            obtain ⟨Z7, e7, hZ7, AZ7, j0, j1, j2, j3⟩ := put_box2 AV3 (.string (stg S)) (.slice ao m' d)
            have AUZ := AU3.off2 (b := b) (by omega) (.string (stg S)) (.slice ao m' d)
            rw [← hZ7.out] at AUZ
            obtain ⟨Z8, e8, hZ8, AZ8, l0, l1, l2, l3⟩ := put_box2 AUZ (.int .i64 0) (.int .i64 0)
            have AZf := AZ7.off2 (b := b + 1) (by omega) (.int .i64 0) (.int .i64 0)
            rw [← hZ8.out] at AZf
            have r0 : Z8.cell? ⟨b, 0, none⟩ = some (.string (stg S)) := AZf.cell 0
            have r1 : Z8.cell? ⟨b, 1, none⟩ = some (.slice ao m' d) := AZf.cell 1
            have r2 : Z8.cell? ⟨b + 1, 0, none⟩ = some (.int .i64 0) := AZ8.cell 0
            have r3 : Z8.cell? ⟨b + 1, 1, none⟩ = some (.int .i64 0) := AZ8.cell 1
            have HB4 : Hid (Below b w Z8) := by
              show Below _ _ _
              rw [hZ8.out, hZ7.out]
              exact below_put2 (below_put2 HB3 (Nat.le_refl _) _ _) (Nat.le_succ _) _ _
            have BLf : Hid (BlkL true anyF Z8 ao m' d bs) := by
              show BlkL _ _ _ _ _ _ _
              rw [hZ8.out]
              refine ((PS6.blks.keep (stable_own _ _) ?_).keep (stable_own _ _) (keeps_put2 AUZ (by decide) _ _)).mono (fun _ _ => trivial)
              rw [hZ7.out]
              exact keeps_put2 AV3 (by decide) _ _
            clear HE PS PS6 SZ hRd hmt G6 HP hX AV3 AU3 HB3 AZ7 AUZ AZ8 AZf
            go_wp2_with fail
            refine bodyPost_ret (v := .tuple #[.agg #[.string (stg S), .slice ao m' d], .agg #[.int .i64 0, .int .i64 0]]) (by simp [results, Try.results10, go_sem, r0, r1, r2, r3]) rfl ?_
            rw [← hRR.out, hPX.out]
            exact ⟨⟨ao, m', d, rfl, BLf.out⟩, by rw [hb]; exact HB4.out⟩
          | bad ln =>
            rw [hX] at hmt hPX
            obtain ⟨hb6, hb7⟩ : b6 = ln ∧ 1 ≤ ln := hmt
            subst hb6
            have hPX : Hid (P = .bad b6) := hPX.out
            have k1 : ((b6 : Int) == 0) = false := by rw [beq_eq_false_iff_ne]; omega
            rw [hST.out] at SZ6
            obtain ⟨AV3, AU3, HB3, hg3⟩ := SZ6
            have AV3 := AV3.drew
            have AU3 := AU3.drew
            have HB3 := HB3.drew
            have hRd3 := hRd.arr.drew
            obtain ⟨W, hW⟩ : ∃ W, w6.drew = W := ⟨_, rfl⟩
            rw [hW] at AV3 AU3 HB3 hRd3
            have y0 : W.cell? ⟨g, 2, none⟩ = some (.int .i64 (b6 : Int)) := hRd3.cell 2
            have j0 : W.cell? ⟨b, 0, none⟩ = some (.string ⟨#[]⟩) := AV3.cell 0
            have j1 : W.cell? ⟨b, 1, none⟩ = some (.slice none 0 0) := AV3.cell 1
            have j2 := AV3.frozen 0
            have j3 := AV3.frozen 1
            have l0 : W.cell? ⟨b + 1, 0, none⟩ = some (.int .i64 0) := AU3.cell 0
            have l1 : W.cell? ⟨b + 1, 1, none⟩ = some (.int .i64 0) := AU3.cell 1
            have l2 := AU3.frozen 0
            have l3 := AU3.frozen 1
            have n1 : b ≠ g := by have := hgb.out; omega
            have n2 : b + 1 ≠ g := by have := hgb.out; omega
            have AV3 := Lib.hid AV3
            have AU3 := Lib.hid AU3
            have HB3 := Lib.hid HB3
            clear HE PS PS6 SZ hRd hRd3 G6 HP hX
            go_wp2_with fail
            go_region
            go_wp2_with fail
            obtain ⟨r0, r1, r2, r3, hZ⟩ := parse_end (E := 1) (L := (b6 : Int)) (r := some (.err b6)) AV3.out AU3.out HB3.out rfl
            unfold put2 at r0 r1 r2 r3
            refine bodyPost_ret (v := .tuple #[.agg #[.string ⟨#[]⟩, .slice none 0 0], .agg #[.int .i64 1, .int .i64 (b6 : Int)]]) (by simp [results, Try.results10, go_sem, r0, r1, r2, r3]) rfl ?_
            rw [← hRR.out, hPX.out, hb]
            exact hZ
        | false =>
          have hm := hno rfl l rfl
          have hA6 := AtS.keep hR5 (Below.drew (Below.refl _ _))
          have PS6 := PS.out.keep (Below.drew (Below.refl _ _))
          have SZ6 := sLow.out _ _ SZ.out (Below.drew (Below.refl _ _))
          obtain ⟨V6, e6⟩ : ∃ V6, w5.drew = V6 := ⟨_, rfl⟩
          rw [e6] at hA6 PS6 SZ6
          have HV := Lib.hid (rBlock_c V6 g (some ⟨gt, 0, none⟩) nn c TS l hA6 he hsz hts)
          have HP : Hid (P = (blockP l).bind fun f r => tailS S (untR blockP (bs ++ [f]) r)) := by
            show _ = _
            rw [HP.out, PR.bind_ok, untR_step (fun _ _ _ h => block_lt h) hm]
            cases blockP l <;> rfl
          have y1 : V6.cell? ⟨g + 1, 1, none⟩ = some (.slice ao m' d) := PS6.1.2.2.cell 1
          have hw6 : Hid (g + 1 ≤ V6.heap.size) := by
            show _ ≤ _
            have := PS6.1.2.2.lt
            omega
          have PS6 := Lib.hid PS6
          have SZ6 := Lib.hid SZ6
          clear HA hy hno hR5 G5 PS SZ hA6 hm
          go_wp2_with fail
          go_region_law (first
            | (refine step_appR (vs := [.string (stg x.kind), .string (stg x.name), .slice vo vn vc, .int .i64 (x.line : Int)]) Try.underlying22 infoB rfl (by decide) (by decide) _ _ rfl rfl e7 OW (by omega) (by omega) rfl (by intro u hu; simp at hu; rcases hu with rfl | rfl | rfl | rfl <;> rfl) rfl rfl ?_; intro ao3 d3 w8 O3 G3 B3; have A8 := A7.row OW (by decide) G3; have g0 : w8.cell? ⟨g + 1, 1, none⟩ = some (.slice ao m' d) := A8.cell 1; have g1 : w8.frozen? ⟨g + 1, 1, none⟩ = false := A8.frozen 1; obtain ⟨Y8, e8⟩ : ∃ Y8, w8.setCell ⟨g + 1, 1, none⟩ (.slice ao3 (m' + 1) d3) = Y8 := ⟨_, rfl⟩)
            | (go_simp; go_at_call 21; refine HV.out.mono ?_; rintro e w7 ⟨⟨x, vo, vn, vc, rfl, hFL, hx, hR7⟩, G7⟩; have PS7 := PS6.out.call G7; have y2 : w7.cell? ⟨g + 1, 1, none⟩ = some (.slice ao m' d) := PS7.1.2.2.cell 1; obtain ⟨X, e7, _, BX, _⟩ := new_box w7 39 [.string (stg x.kind), .string (stg x.name), .slice vo vn vc, .int .i64 (x.line : Int)]; have y3 : X.cell? ⟨g + 1, 1, none⟩ = some (.slice ao m' d) := (PS7.keep BX).1.2.2.cell 1; have hs7 : g + 1 ≤ w7.heap.size := (by have := PS7.1.2.2.lt; omega); obtain ⟨⟨hga, hgb2, A7⟩, us, OW, FC⟩ := PS7))
          all_goals
            have hFL2 : FldL true (ownF (g + 1) [9, 42]) w7 vo vn vc x.flds := hFL.mono (own_mono hw6.out (by simp))
            have K3 : Keeps (ownF (g + 1) [9, 42]) w7 Y8 := by
              rw [← e8]
              exact (keeps_row OW G3 (by decide)).trans (stable_own _ _) G3.size (keeps_set_kind A8 (by decide) _)
            have PS8 : Hid (PSt (g + 1) Y8 g (g + 1) (.string (stg S)) ao3 (m' + 1) d3 (bs ++ [x])) := by
              refine ⟨⟨by omega, Nat.le_refl _, by rw [← e8]; exact A8.set 1 _⟩, _, by rw [← e8]; exact ownsRow_set O3 (row_ne_box O3 A8 (by decide)) _, BCells.append (FC.keep (stable_own _ _) K3) ⟨vo, vn, vc, _, [], rfl, FldL.keep hFL2 (stable_own _ _) K3, fun _ => rfl, rfl⟩⟩
            have hR8 : Hid (RS Y8 g (some ⟨gt, 0, none⟩) nn c TS ((blockP l).bind fun _ r => .ok () r)) := by
              show RS _ _ _ _ _ _ _
              rw [← e8]
              exact (hR7.low B3 (by omega) (fun a ea => by have := (hgtg.out a ea).1; omega)).far hn0.out hn1.out _
            have SZ8 : Hid (ST Y8) := by
              show ST _
              rw [← e8]
              exact sSet.out _ _ _ (sLow.out _ _ (sCall.out _ _ SZ6.out G7) B3)
            have hx := Lib.hid hx
            clear hR7 FC OW O3 G3 B3 BX K3 hFL hFL2 A7 A8
            go_wp2_with fail
            go_roundw
            case rel =>
              refine ⟨ao3, m' + 1, d3, bs ++ [x], _, hR8.out, PS8.out, SZ8.out, ?_, fun l' e => ?_⟩
              · show _ = _
                rw [HP.out]
                cases hf : blockP l with
                | bad e => rfl
                | ok f r =>
                  rw [PR.bind_ok, PR.bind_ok, PR.bind_ok, hx.out f r hf]
              · cases hf : blockP l with
                | bad e2 => rw [hf] at e; cases e
                | ok f r =>
                  rw [hf, PR.bind_ok] at e
                  injection e with _ e
                  subst e
                  have := block_lt hf
                  omega
            case measure =>
              rw [hme.out]
              have h3 := hR8.out
              cases hf : blockP l with
              | bad e =>
                rw [hf] at h3
                rw [BdS.rsN h3]
                omega
              | ok f r =>
                rw [hf] at h3
                have := block_lt hf
                rw [AtS.rsN h3]
                omega
  · have ho := Lib.hid ho
    have hr := Lib.hid hr
    have hE' : (E != 0) = true := by rw [bne, hE]; rfl
    go_enter Try.func10, Try.ntmps10
    go_wp2_with fail
    refine HA.out.mono ?_
    rintro e w1 ⟨hO, B1⟩
    obtain ⟨ao, nn, c, rfl, _⟩ := hO.view
    rw [hr.out]
    obtain ⟨X0, X, e3, e4, AX, BX, hz3, f0, f1, f2, f3⟩ := new_put2 w1 27 (.int .i64 0) (.int .i64 0) (.int .i64 E) (.int .i64 L)
    have AV3 := ((AV.out.below B1 (by rw [hz2'.out]; omega)).kept BX).drew
    have AU3 := ((AU.out.below B1 (by rw [hz2'.out]; omega)).kept BX).drew
    have HB3 := (HB.out.trans ((B1.trans (BX.mono B1.size)).mono (by rw [hz2'.out]; omega))).drew
    have q0 : X.cell? ⟨w1.heap.size, 0, none⟩ = some (.int .i64 E) := AX.cell 0
    have AXd := AX.drew
    obtain ⟨W, hW⟩ : ∃ W, X.drew = W := ⟨_, rfl⟩
    rw [hW] at AV3 AU3 HB3 AXd
    have y0 : W.cell? ⟨w1.heap.size, 0, none⟩ = some (.int .i64 E) := AXd.cell 0
    have y1 : W.cell? ⟨w1.heap.size, 1, none⟩ = some (.int .i64 L) := AXd.cell 1
    have k0 : W.cell? ⟨b, 0, none⟩ = some (.string ⟨#[]⟩) := AV3.cell 0
    have k1 : W.cell? ⟨b, 1, none⟩ = some (.slice none 0 0) := AV3.cell 1
    have k2 := AV3.frozen 0
    have k3 := AV3.frozen 1
    have j0 : W.cell? ⟨b + 1, 0, none⟩ = some (.int .i64 0) := AU3.cell 0
    have j1 : W.cell? ⟨b + 1, 1, none⟩ = some (.int .i64 0) := AU3.cell 1
    have j2 := AU3.frozen 0
    have j3 := AU3.frozen 1
    have hw1 : U.heap.size ≤ w1.heap.size := B1.size
    have n1 : b ≠ w1.heap.size := by have := hz2'.out; omega
    have n2 : b + 1 ≠ w1.heap.size := by have := hz2'.out; omega
    have AV3 := Lib.hid AV3
    have AU3 := Lib.hid AU3
    have HB3 := Lib.hid HB3
    clear HA hO B1 AX BX AXd hw1
    go_wp2_with fail
    go_region
    go_wp2_with fail
    obtain ⟨r0, r1, r2, r3, hZ⟩ := parse_end (E := E) (L := L) AV3.out AU3.out HB3.out ho.out
    unfold put2 at r0 r1 r2 r3
    refine bodyPost_ret (v := .tuple #[.agg #[.string ⟨#[]⟩, .slice none 0 0], .agg #[.int .i64 E, .int .i64 L]]) (by simp [results, Try.results10, go_sem, r0, r1, r2, r3]) rfl ?_
    rw [hb]
    exact hZ
end Go.Proofs.Ytaeionfhflnbpaa
