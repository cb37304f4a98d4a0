/-
  Texts of the proof, put together: SynPParse SchAwL.
-/
import Derived.Test.YtemdkkphmldgjaaGreatDoorPkA32
import Derived.Test.YtemdkkphmldgjaaGreatDoorPkA33
import Derived.Test.YtemdkkphmldgjaaGreatDoorPkA34
import Derived.Test.YtemdkkphmldgjaaGreatDoorPkA35
set_option maxRecDepth 100000
set_option maxHeartbeats 51200000
namespace Go.Proofs.YtemdkkphmldgjaaGreatDoor
open Go.RowKit Lx
theorem pParse_c (s : ByteArray) (w : World) (hs : s.size <= 1000000) :
    Calls Tryz.prog 16 #[.string s] w fun e w' => ParseOut (parseS s) w' e /\ Below w.heap.size w w' := by
 obtain ⟨V, e1, AV, BV, hz⟩ := new_box w 24 [.string ⟨#[]⟩, .slice none 0 0]
 obtain ⟨U, e2, AU, BU, hz2⟩ := new_box V 37 [.int .i64 0, .int .i64 0]
 have AV := AV.kept BU
 obtain ⟨b, hb⟩ : ∃ b, w.heap.size = b := ⟨_, rfl⟩
 rw [hb] at AV BV hz
 rw [hz] at AU hz2
 have HB : Hid (Below b w U) := BV.trans (BU.mono (by omega))
 have HA := Lib.hid (all_c s U hs)
 have AV := Lib.hid AV
 have AU := Lib.hid AU
 have hz2' := Lib.hid hz2
 clear BV BU hz2
 rcases parseS_cases s with ⟨ts, m, hall, hpar, he, hsz, hts⟩ | ⟨E, L, hE, ho, hr⟩
 . rw [hpar]
   obtain ⟨P, hP⟩ : ∃ P, Hid (sourceP (ts ++ [(⟨5, [], m⟩ : Tok)]) = P) := ⟨_, rfl⟩
   rw [hP.out]
   have hall := Lib.hid hall
   clear hpar
   go_enter Tryz.func16, Tryz.ntmps16
   go_wp2_with fail
   refine HA.out.mono ?_
   rintro e w1 ⟨hO, B1⟩
   rw [hall.out] at hO
   obtain ⟨ao, c, rfl, O⟩ := hO.ok
   obtain ⟨nn, hnn⟩ : ∃ nn, ts.length + 1 = nn := ⟨_, rfl⟩
   rw [hnn] at O |-
   rcases O.cases with ⟨_, h0, _⟩ | ⟨gt, rfl, hgt1, hgt2, hnc, hcm⟩
   . omega
   obtain ⟨X0, X, e3, e4, AX, BX, hz3, f0, f1, f2, f3⟩ := new_put2 w1 37 (.int .i64 0) (.int .i64 0) (.int .i64 0) (.int .i64 0)
   obtain ⟨Y, e5, AY, BY, hz4⟩ := new_box X 84 [.slice (some ⟨gt, 0, none⟩) nn c]
   have OY := (O.keep BX).keep BY
   have hat : AtP Y X.heap.size gt nn c (ts ++ [(⟨5, [], m⟩ : Tok)]) (ts ++ [(⟨5, [], m⟩ : Tok)]) := ⟨0, ⟨AY, OY.lower (Nat.zero_le _), by omega, by omega, hnc, hcm⟩, rfl⟩
   have HD := Lib.hid (pDef_c Y X.heap.size gt nn c _ _ hat he hsz hts)
   rw [hP.out] at HD
   have q0 : X.cell? ⟨w1.heap.size, 0, none⟩ = some (.int .i64 0) := AX.cell 0
   have AV1 := Lib.hid (((AV.out.below B1 (by rw [hz2'.out]; omega)).kept BX).kept BY)
   have AU1 := Lib.hid (((AU.out.below B1 (by rw [hz2'.out]; omega)).kept BX).kept BY)
   have hw1 : U.heap.size <= w1.heap.size := B1.size
   have HB1 : Hid (Below b w Y) := HB.out.trans (((B1.trans (BX.mono hw1)).trans (BY.mono (by omega))).mono (by rw [hz2'.out]; omega))
   obtain ⟨g, hg⟩ : ∃ g, X.heap.size = g := ⟨_, rfl⟩
   have hgtb : Hid (b + 1 < gt) := by show _ < _; have := hz2'.out; omega
   have hgb : Hid (b + 1 < g) := by show _ < _; have := hz2'.out; omega
   have hYg : Hid (Y.heap.size = g + 1) := by show _ = _; omega
   rw [hg] at HD hat AY
   clear hO B1 O OY hgt1 hgt2 hnc hcm AX BX BY hz4 hz3 hat hnn HA AY
   go_wp2_with fail
   clear e1 e2 e3 e4 e5 f0 f1 f2 f3 q0
   refine HD.out.mono ?_
   rintro e w2 ⟨hO, hG⟩
   have AV2 := AV1.out.grown hG (by have := hgb.out; omega)
   have AU2 := AU1.out.grown hG (by have := hgb.out; omega)
   have hw2 : Y.heap.size <= w2.heap.size := hG.size
   have HB2 : Below b w w2 := HB1.out.trans (below_grown hG (by have := hgb.out; omega) (by have := hgb.out; have := hYg.out; omega))
   cases P with
   | ok x r =>
    obtain ⟨ao, m', d, rfl, BL⟩ := hO
    obtain ⟨X0, X1, e3, e4, AX, BX, hz3, f0, f1, f2, f3⟩ := new_put2 w2 24 (.string ⟨#[]⟩) (.slice none 0 0) (.string (stg x.title)) (.slice ao m' d)
    have BL := BL.keep (stable_own _ _) (keeps_below _ BX)
    have AV3 := AV2.kept BX
    have AU3 := AU2.kept BX
    have p0 : X1.cell? ⟨w2.heap.size, 0, none⟩ = some (.string (stg x.title)) := AX.cell 0
    have p1 : X1.cell? ⟨w2.heap.size, 1, none⟩ = some (.slice ao m' d) := AX.cell 1
    obtain ⟨Z, e5, hZ, AZ, k0, k1, k2, k3⟩ := put_box2 AV3 (.string (stg x.title)) (.slice ao m' d)
    have AUZ := AU3.off2 (b := b) (by omega) (.string (stg x.title)) (.slice ao m' d)
    rw [<- hZ.out] at AUZ
    obtain ⟨Z2, e6, hZ2, AZ2, j0, j1, j2, j3⟩ := put_box2 AUZ (.int .i64 0) (.int .i64 0)
    have AZf := AZ.off2 (b := b + 1) (by omega) (.int .i64 0) (.int .i64 0)
    rw [<- hZ2.out] at AZf
    have r0 : Z2.cell? ⟨b, 0, none⟩ = some (.string (stg x.title)) := AZf.cell 0
    have r1 : Z2.cell? ⟨b, 1, none⟩ = some (.slice ao m' d) := AZf.cell 1
    have r2 : Z2.cell? ⟨b + 1, 0, none⟩ = some (.int .i64 0) := AZ2.cell 0
    have r3 : Z2.cell? ⟨b + 1, 1, none⟩ = some (.int .i64 0) := AZ2.cell 1
    have HB3 : Hid (Below b w Z2) := by
     show Below _ _ _
     rw [hZ2.out, hZ.out]
     exact below_put2 (below_put2 (HB2.trans (BX.mono (by have := hgb.out; have := hYg.out; omega))) (Nat.le_refl _) _ _) (Nat.le_succ _) _ _
    have BLf : Hid (BlkL true anyF Z2 ao m' d x.blks) := by
     show BlkL _ _ _ _ _ _ _
     rw [hZ2.out]
     refine ((BL.keep (stable_own _ _) ?_).keep (stable_own _ _) (keeps_put2 AUZ (by decide) _ _)).mono (fun _ _ => trivial)
     rw [hZ.out]
     exact keeps_put2 AV3 (by decide) _ _
    clear hG HD AV2 AU2 HB2 AX BX BL AV3 AU3 AZ AUZ AZ2 AZf
    go_wp2_with fail
    refine bodyPost_ret (v := .tuple #[.agg #[.string (stg x.title), .slice ao m' d], .agg #[.int .i64 0, .int .i64 0]]) (by simp [results, Tryz.results16, go_sem, r0, r1, r2, r3]) rfl ?_
    exact ⟨⟨ao, m', d, rfl, BLf.out⟩, by rw [hb]; exact HB3.out⟩
   | bad ln =>
    obtain ⟨⟨S, ao, m', d, rfl⟩, l', hAt, hln⟩ := hO
    obtain ⟨X0, X1, e3, e4, AX, BX, hz3, f0, f1, f2, f3⟩ := new_put2 w2 24 (.string ⟨#[]⟩) (.slice none 0 0) (.string S) (.slice ao m' d)
    obtain ⟨i, t, rr, hPs, ht, hl, _⟩ := hAt.head
    have hPs := (hPs.keep BX).keep (Below.drew (Below.refl _ _))
    have AV3 := (AV2.kept BX).drew
    have AU3 := (AU2.kept BX).drew
    have HB3 := HB2.trans (BX.mono (by have := hgb.out; have := hYg.out; omega))
    have HB3 := HB3.drew
    obtain ⟨W, hW⟩ : ∃ W, X1.drew = W := ⟨_, rfl⟩
    rw [hW] at hPs AV3 AU3 HB3
    obtain ⟨_, _, a3⟩ := hPs.at t ht
    have y0 : W.cell? ⟨g, 0, none⟩ = some (.slice (some ⟨gt, 3 * i, none⟩) (nn - i) (c - i)) := hPs.arr.cell 0
    have x0 := ix_tok gt i nn c hPs.lt
    have hln' : t.line = ln := by rw [hl] at hln; exact hln
    rw [hln'] at a3
    have k0 : W.cell? ⟨b, 0, none⟩ = some (.string ⟨#[]⟩) := AV3.cell 0
    have k1 : W.cell? ⟨b, 1, none⟩ = some (.slice none 0 0) := AV3.cell 1
    have k2 := AV3.frozen 0
    have k3 := AV3.frozen 1
    have j0 : W.cell? ⟨b + 1, 0, none⟩ = some (.int .i64 0) := AU3.cell 0
    have j1 : W.cell? ⟨b + 1, 1, none⟩ = some (.int .i64 0) := AU3.cell 1
    have j2 := AU3.frozen 0
    have j3 := AU3.frozen 1
    have n1 : b ≠ g := by have := hgb.out; omega
    have n2 : b + 1 ≠ g := by have := hgb.out; omega
    have n3 : b ≠ gt := by have := hgtb.out; omega
    have n4 : b + 1 ≠ gt := by have := hgtb.out; omega
    have AV3 := Lib.hid AV3
    have AU3 := Lib.hid AU3
    have HB3 := Lib.hid HB3
    clear hG HD AV2 AU2 HB2 AX BX hPs hAt hl hln ht
    go_wp2_with fail
    go_region
    go_wp2_with fail
    obtain ⟨r0, r1, r2, r3, hZ⟩ := parse_end (E := 1) (L := (ln : Int)) (r := some (.err ln)) AV3.out AU3.out HB3.out rfl
    unfold put2 at r0 r1 r2 r3
    refine bodyPost_ret (v := .tuple #[.agg #[.string ⟨#[]⟩, .slice none 0 0], .agg #[.int .i64 1, .int .i64 (ln : Int)]]) (by simp [results, Tryz.results16, go_sem, r0, r1, r2, r3]) rfl ?_
    rw [hb]
    exact hZ
 . have ho := Lib.hid ho
   have hr := Lib.hid hr
   have hE' : (E != 0) = true := by rw [bne, hE]; rfl
   go_enter Tryz.func16, Tryz.ntmps16
   go_wp2_with fail
   refine HA.out.mono ?_
   rintro e w1 ⟨hO, B1⟩
   obtain ⟨ao, nn, c, rfl, _⟩ := hO.view
   rw [hr.out]
   obtain ⟨X0, X, e3, e4, AX, BX, hz3, f0, f1, f2, f3⟩ := new_put2 w1 37 (.int .i64 0) (.int .i64 0) (.int .i64 E) (.int .i64 L)
   have AV3 := ((AV.out.below B1 (by rw [hz2'.out]; omega)).kept BX).drew
   have AU3 := ((AU.out.below B1 (by rw [hz2'.out]; omega)).kept BX).drew
   have HB3 := (HB.out.trans ((B1.trans (BX.mono B1.size)).mono (by rw [hz2'.out]; omega))).drew
   have q0 : X.cell? ⟨w1.heap.size, 0, none⟩ = some (.int .i64 E) := AX.cell 0
   have AXd := AX.drew
   obtain ⟨W, hW⟩ : ∃ W, X.drew = W := ⟨_, rfl⟩
   rw [hW] at AV3 AU3 HB3 AXd
   have y0 : W.cell? ⟨w1.heap.size, 0, none⟩ = some (.int .i64 E) := AXd.cell 0
   have y1 : W.cell? ⟨w1.heap.size, 1, none⟩ = some (.int .i64 L) := AXd.cell 1
   have k0 : W.cell? ⟨b, 0, none⟩ = some (.string ⟨#[]⟩) := AV3.cell 0
   have k1 : W.cell? ⟨b, 1, none⟩ = some (.slice none 0 0) := AV3.cell 1
   have k2 := AV3.frozen 0
   have k3 := AV3.frozen 1
   have j0 : W.cell? ⟨b + 1, 0, none⟩ = some (.int .i64 0) := AU3.cell 0
   have j1 : W.cell? ⟨b + 1, 1, none⟩ = some (.int .i64 0) := AU3.cell 1
   have j2 := AU3.frozen 0
   have j3 := AU3.frozen 1
   have hw1 : U.heap.size <= w1.heap.size := B1.size
   have n1 : b ≠ w1.heap.size := by have := hz2'.out; omega
   have n2 : b + 1 ≠ w1.heap.size := by have := hz2'.out; omega
   have AV3 := Lib.hid AV3
   have AU3 := Lib.hid AU3
   have HB3 := Lib.hid HB3
   clear HA hO B1 AX BX AXd hw1
   go_wp2_with fail
   go_region
   go_wp2_with fail
   obtain ⟨r0, r1, r2, r3, hZ⟩ := parse_end (E := E) (L := L) AV3.out AU3.out HB3.out ho.out
   unfold put2 at r0 r1 r2 r3
   refine bodyPost_ret (v := .tuple #[.agg #[.string ⟨#[]⟩, .slice none 0 0], .agg #[.int .i64 E, .int .i64 L]]) (by simp [results, Tryz.results16, go_sem, r0, r1, r2, r3]) rfl ?_
   rw [hb]
   exact hZ
end Go.Proofs.YtemdkkphmldgjaaGreatDoor
namespace Go.Proofs.YtemdkkphmldgjaaGreatDoor
open Go.RowKit Lx
theorem new_res8 (w : World) (a0 a1 f0 f1 : Value) : ∃ V U W X, w.alloc (.cells #[.string ⟨#[]⟩, .slice none 0 0] 24) = V /\ V.alloc (.cells #[.int .i64 0, .int .i64 0] 37) = U /\
    (U.setCell ⟨w.heap.size, 0, none⟩ a0).setCell ⟨w.heap.size, 1, none⟩ a1 = W /\ (W.setCell ⟨w.heap.size + 1, 0, none⟩ f0).setCell ⟨w.heap.size + 1, 1, none⟩ f1 = X /\ V.heap.size = w.heap.size + 1 /\
    (U.cell? ⟨w.heap.size, 0, none⟩ = some (.string ⟨#[]⟩) /\ U.frozen? ⟨w.heap.size, 0, none⟩ = false /\ (U.setCell ⟨w.heap.size, 0, none⟩ a0).cell? ⟨w.heap.size, 1, none⟩ = some (.slice none 0 0) /\ (U.setCell ⟨w.heap.size, 0, none⟩ a0).frozen? ⟨w.heap.size, 1, none⟩ = false) /\
    (W.cell? ⟨w.heap.size + 1, 0, none⟩ = some (.int .i64 0) /\ W.frozen? ⟨w.heap.size + 1, 0, none⟩ = false /\ (W.setCell ⟨w.heap.size + 1, 0, none⟩ f0).cell? ⟨w.heap.size + 1, 1, none⟩ = some (.int .i64 0) /\ (W.setCell ⟨w.heap.size + 1, 0, none⟩ f0).frozen? ⟨w.heap.size + 1, 1, none⟩ = false) /\
    Arr X w.heap.size 24 [a0, a1] /\ Arr X (w.heap.size + 1) 37 [f0, f1] /\ Below w.heap.size w X := by
 obtain ⟨V, e1, A1, B1, z1⟩ := new_box w 24 [.string ⟨#[]⟩, .slice none 0 0]
 obtain ⟨U, e2, A2, B2, z2⟩ := new_box V 37 [.int .i64 0, .int .i64 0]
 have A1 := A1.kept B2
 rw [z1] at A2
 obtain ⟨W, e3, hW, A3, k0, k1, k2, k3⟩ := put_box2 A1 a0 a1
 have A4 := A2.off2 (b := w.heap.size) (by omega) a0 a1
 rw [<- hW.out] at A4
 obtain ⟨X, e4, hX, A5, l0, l1, l2, l3⟩ := put_box2 A4 f0 f1
 have A6 := A3.off2 (b := w.heap.size + 1) (by omega) f0 f1
 rw [<- hX.out] at A6
 refine ⟨V, U, W, X, e1, e2, e3, e4, z1, ⟨k0, k1, k2, k3⟩, ⟨l0, l1, l2, l3⟩, A6, A5, ?_⟩
 rw [hX.out, hW.out]
 exact below_put2 (below_put2 (B1.trans (B2.mono B1.size)) (Nat.le_refl _) _ _) (Nat.le_succ _) _ _
theorem sample_c (w : World) : Calls Tryz.prog 34 #[] w fun e w' => e = .returned (.string aw8T) /\ w = w' := by
 go_enter Tryz.func34, Tryz.ntmps34
 go_wp2_with fail
 go_ret
 exact ⟨rfl, rfl⟩
namespace Lx
theorem aw8_line : parseL (bys aw8T) = .ok aw8S := by
 have := aw8_parse
 unfold parseS at this
 rw [if_neg (by decide +kernel)] at this
 injection this
theorem aw8_small : SmallS (toSS aw8S) /\ (∀ b ∈ (toSS aw8S).blks, ∀ f ∈ b.flds, f.vals.length <= 4000000) := by
 obtain ⟨a, b, _⟩ := small_parse aw8_line (by decide +kernel)
 exact ⟨a, b⟩
end Lx
theorem awake8_c (w : World) (hT : Tabs w) : Calls Tryz.prog 14 #[] w fun e w' => e = .returned (.bool true) /\ Below w.heap.size w w' := by
 have HS := Lib.hid (sample_c w)
 obtain ⟨KT, hKT⟩ : ∃ K, Hid (stg aw8E.title = K) := ⟨_, rfl⟩
 obtain ⟨KS, hKS⟩ : ∃ K, Hid (stg aw8E.seed = K) := ⟨_, rfl⟩
 have HP : Hid (Calls Tryz.prog 16 #[.string aw8T] w fun r w' => ∃ ao m d, r = .returned (.tuple #[.agg #[.string KT, .slice ao m d], .agg #[.int .i64 0, .int .i64 0]]) /\ BlkS anyF w' ao m d (toSS aw8S).blks /\ Below w.heap.size w w') := by
  apply Lib.hid
  refine (pParse_c aw8T w (by decide +kernel)).mono ?_
  rintro r w' ⟨hO, hB⟩
  rw [aw8_parse] at hO
  obtain ⟨ao, m, d, he, BL⟩ := hO
  exact ⟨ao, m, d, by rw [<- hKT.out]; exact he, BL.toS, hB⟩
 have HCm : Hid (∀ W bo bn bc, Below w.heap.size w W -> BlkS anyF W bo bn bc (toSS aw8S).blks -> Calls Tryz.prog 12 #[.agg #[.string KT, .slice bo bn bc]] W fun r w' => ∃ sl, r = .returned (.tuple #[eV aw8E sl, .agg #[.int .i64 0, .int .i64 0]]) /\ (ElcS anyF w' aw8E sl /\ RatIn aw8E sl) /\ Below W.heap.size W w') := fun W bo bn bc hb hv => by
  have := compile_c (toSS aw8S) bo bn bc W hv aw8_small.1 aw8_small.2 (hT.below hb)
  rw [<- hKT.out]
  refine this.mono ?_
  rintro r w' ⟨sl, he, hs, hB⟩
  have hr := comp_ratin hs
  rw [aw8_comp] at he hs hr
  exact ⟨sl, he, ⟨hs, hr⟩, hB⟩
 have HVd : Hid (∀ W sl, Below w.heap.size w W -> ElcS anyF W aw8E sl -> RatIn aw8E sl -> Calls Tryz.prog 20 #[eV aw8E sl] W fun r w' => r = .returned (.bool true) /\ Below W.heap.size W w') := fun W sl hb hs hr => by
  have := valid_s aw8E sl W hs (aw8_ok hr) (hT.below hb)
  rw [aw8_src] at this
  exact this
 have HSt : Hid (∀ W sl, ElcS anyF W aw8E sl -> Calls Tryz.prog 25 #[eV aw8E sl, .int .i64 1] W fun r w' => r = .returned (.int .i64 0) /\ Below W.heap.size W w') := fun W sl hs => by
  have := styleOf_c aw8E sl 1 W hs
  rw [aw8_sty] at this
  exact this
 have hcn : Hid (∀ W sl, ElcS anyF W aw8E sl -> sl.cn = 1 /\ ∃ a : Addr, (∀ X, (Instr.indexAt 27 (.slice sl.co sl.cn sl.cc) (.int .i64 0)).run Tryz.prog X = .ok (.pointer (some a)) X) /\ W.cell? ⟨a.block, a.off + 2, none⟩ = some (.int .i64 1)) := fun W sl hs => by
  have hl := hs.conts.len
  obtain ⟨x, a, vo, vn, vc, hx, i1, c0, c1, c2, _⟩ := hs.conts.get 0 (by rw [<- hl]; decide)
  have : x = ⟨[109, 97, 121, 111, 114], [[97, 110, 110], [98, 111, 98], [99, 101, 109]], 1, 1, 3, 0, 3, 1, 1⟩ := (Option.some.inj hx).symm
  subst this
  exact ⟨hl.symm, a, i1, c2⟩
 obtain ⟨EC, hEC⟩ : ∃ E, Hid (aw8E = E) := ⟨_, rfl⟩
 rw [hEC.out] at HCm HVd HSt hcn hKT hKS
 obtain ⟨SB, hSB⟩ : ∃ S, Hid ((toSS aw8S).blks = S) := ⟨_, rfl⟩
 rw [hSB.out] at HCm HP
 obtain ⟨AT, hAT⟩ : ∃ S, Hid (aw8T = S) := ⟨_, rfl⟩
 rw [hAT.out] at HP HS
 clear hT hSB hAT
 go_enter Tryz.func14, Tryz.ntmps14
 go_wp2_with (first
   | (go_at_call 34; (with_reducible refine HS.out.mono ?_); rintro r v0 ⟨rfl, rfl⟩)
   | (go_at_call 16; (with_reducible refine HP.out.mono ?_); rintro r v1 ⟨ao, m, d, rfl, BL, B1⟩; obtain ⟨V, U0, W0, U, e3, e4, e5, e6, hz, ⟨k0, k1, k2, k3⟩, ⟨l0, l1, l2, l3⟩, AV, AU, BU⟩ := new_res8 v1 (.string KT) (.slice ao m d) (.int .i64 0) (.int .i64 0); have y0 : U.cell? ⟨v1.heap.size, 0, none⟩ = some (.string KT) := AV.cell 0; have y1 : U.cell? ⟨v1.heap.size, 1, none⟩ = some (.slice ao m d) := AV.cell 1; have AUH := Lib.hid AU; have BU1 : Hid (Below w.heap.size w U) := B1.trans (BU.mono B1.size); have HC1 := Lib.hid (HCm.out U ao m d BU1.out (BL.keep stable_any (keeps_below _ BU))); clear AV AU BU BL B1)
   | (go_at_call 12; (with_reducible refine HC1.out.mono ?_); rintro r v4 ⟨sl, he, ⟨ES, hra⟩, B4⟩; replace he : r = .returned (.tuple #[.agg #[.string KT, .int .i64 EC.dots, .int .i64 EC.blank, .int .i64 EC.marked, .slice sl.po sl.pn sl.pc, .slice sl.co sl.cn sl.cc, .slice sl.so sl.sn sl.sc, .int .i64 EC.scanners, .int .i64 EC.batch, .bool EC.rneg, .slice sl.uo sl.un sl.uc, .slice sl.dO sl.dn sl.dc, .int .i64 EC.cell, .string KS], .agg #[.int .i64 0, .int .i64 0]]) := (by rw [<- hKT.out, <- hKS.out]; exact he); subst he; obtain ⟨X1, d1, A5, B5, z5⟩ := new_box v4 34 [.string ⟨#[]⟩, .int .i64 0, .int .i64 0, .int .i64 0, .slice none 0 0, .slice none 0 0, .slice none 0 0, .int .i64 0, .int .i64 0, .bool false, .slice none 0 0, .slice none 0 0, .int .i64 0, .string ⟨#[]⟩]; obtain ⟨X2, d2, A6, B6, z6⟩ := new_box X1 37 [.int .i64 0, .int .i64 0]; obtain ⟨p5, hp5⟩ : ∃ p, v4.heap.size = p := ⟨_, rfl⟩; obtain ⟨p6, hp6⟩ : ∃ p, X1.heap.size = p := ⟨_, rfl⟩; have hpp : p6 ≠ p5 := (by omega); rw [hp5] at A5; rw [hp6] at A6; obtain ⟨x0, x1, x2, x3, x4, x5, x6, x7, x8, x9, x10, x11, x12, x13, ex0, ex1, ex2, ex3, ex4, ex5, ex6, ex7, ex8, ex9, ex10, ex11, ex12, ex13, AX, GX, LX, qx0, rx0, qx1, rx1, qx2, rx2, qx3, rx3, qx4, rx4, qx5, rx5, qx6, rx6, qx7, rx7, qx8, rx8, qx9, rx9, qx10, rx10, qx11, rx11, qx12, rx12, qx13, rx13⟩ := box_let14 (A5.kept B6) (.string KT) (.int .i64 EC.dots) (.int .i64 EC.blank) (.int .i64 EC.marked) (.slice sl.po sl.pn sl.pc) (.slice sl.co sl.cn sl.cc) (.slice sl.so sl.sn sl.sc) (.int .i64 EC.scanners) (.int .i64 EC.batch) (.bool EC.rneg) (.slice sl.uo sl.un sl.uc) (.slice sl.dO sl.dn sl.dc) (.int .i64 EC.cell) (.string KS); obtain ⟨Y, my, hmy, AY, f0, f1, f2, f3⟩ := put_box2 (A6.other GX hpp) (.int .i64 0) (.int .i64 0); have GY : x13.grownBy Y (some p6) := (by rw [hmy.out]; exact grown_trans (set_grown x13 p6 0 _) (set_grown _ p6 1 _)); have AXY := AX.other GY hpp.symm; have BX2 : Below v4.heap.size v4 X2 := B5.trans (B6.mono B5.size); have BX13 : Below v4.heap.size v4 x13 := LX _ _ BX2 (by omega); have BY : Below v4.heap.size v4 Y := (by rw [hmy.out]; exact (BX13.setCell (p := ⟨_, 0, none⟩) (by show _ <= p6; omega) _).setCell (p := ⟨_, 1, none⟩) (by show _ <= p6; omega) _); have BUY := B4.trans (BY.mono B4.size); have BWY := Lib.hid (BU1.out.trans (BUY.mono BU1.out.size)); have ESY := Lib.hid (ES.below BY); have hraH := Lib.hid hra; have u_0 : Y.cell? ⟨p6, 0, none⟩ = some (.int .i64 0) := AY.cell 0; have u_1 : Y.cell? ⟨p6, 1, none⟩ = some (.int .i64 0) := AY.cell 1; have t_0 : Y.cell? ⟨v1.heap.size + 1, 0, none⟩ = some (.int .i64 0) := (AUH.out.kept BUY).cell 0; have t_1 : Y.cell? ⟨v1.heap.size + 1, 1, none⟩ = some (.int .i64 0) := (AUH.out.kept BUY).cell 1; have v_0 : Y.cell? ⟨p5, 0, none⟩ = some (.string KT) := AXY.cell 0; have v_1 : Y.cell? ⟨p5, 1, none⟩ = some (.int .i64 EC.dots) := AXY.cell 1; have v_2 : Y.cell? ⟨p5, 2, none⟩ = some (.int .i64 EC.blank) := AXY.cell 2; have v_3 : Y.cell? ⟨p5, 3, none⟩ = some (.int .i64 EC.marked) := AXY.cell 3; have v_4 : Y.cell? ⟨p5, 4, none⟩ = some (.slice sl.po sl.pn sl.pc) := AXY.cell 4; have v_5 : Y.cell? ⟨p5, 5, none⟩ = some (.slice sl.co sl.cn sl.cc) := AXY.cell 5; have v_6 : Y.cell? ⟨p5, 6, none⟩ = some (.slice sl.so sl.sn sl.sc) := AXY.cell 6; have v_7 : Y.cell? ⟨p5, 7, none⟩ = some (.int .i64 EC.scanners) := AXY.cell 7; have v_8 : Y.cell? ⟨p5, 8, none⟩ = some (.int .i64 EC.batch) := AXY.cell 8; have v_9 : Y.cell? ⟨p5, 9, none⟩ = some (.bool EC.rneg) := AXY.cell 9; have v_10 : Y.cell? ⟨p5, 10, none⟩ = some (.slice sl.uo sl.un sl.uc) := AXY.cell 10; have v_11 : Y.cell? ⟨p5, 11, none⟩ = some (.slice sl.dO sl.dn sl.dc) := AXY.cell 11; have v_12 : Y.cell? ⟨p5, 12, none⟩ = some (.int .i64 EC.cell) := AXY.cell 12; have v_13 : Y.cell? ⟨p5, 13, none⟩ = some (.string KS) := AXY.cell 13; obtain ⟨hn, ad, i1, cm⟩ := hcn.out Y sl ESY.out; have n1 : (((sl.cn : Nat) : Int) == 1) = true := (by rw [hn]; rfl); replace hn := Lib.hid hn; have HV1 : Hid (Calls Tryz.prog 20 #[.agg #[.string KT, .int .i64 EC.dots, .int .i64 EC.blank, .int .i64 EC.marked, .slice sl.po sl.pn sl.pc, .slice sl.co sl.cn sl.cc, .slice sl.so sl.sn sl.sc, .int .i64 EC.scanners, .int .i64 EC.batch, .bool EC.rneg, .slice sl.uo sl.un sl.uc, .slice sl.dO sl.dn sl.dc, .int .i64 EC.cell, .string KS]] Y fun r w' => r = .returned (.bool true) /\ Below Y.heap.size Y w') := (by have := HVd.out Y sl BWY.out ESY.out hra; rw [<- hKT.out, <- hKS.out]; exact this); clear ES B4 A5 B5 z5 A6 B6 z6 AX GX LX AY GY BX2 BX13 BY BUY AXY hpp hra)
   | (go_at_call 20; (with_reducible refine HV1.out.mono ?_); rintro r v6 ⟨rfl, B6⟩; have z_0 := cell_keep v_0 B6; have z_1 := cell_keep v_1 B6; have z_2 := cell_keep v_2 B6; have z_3 := cell_keep v_3 B6; have z_4 := cell_keep v_4 B6; have z_5 := cell_keep v_5 B6; have z_6 := cell_keep v_6 B6; have z_7 := cell_keep v_7 B6; have z_8 := cell_keep v_8 B6; have z_9 := cell_keep v_9 B6; have z_10 := cell_keep v_10 B6; have z_11 := cell_keep v_11 B6; have z_12 := cell_keep v_12 B6; have z_13 := cell_keep v_13 B6; have BW6 := Lib.hid (BWY.out.trans (B6.mono BWY.out.size)); have HS1 : Hid (Calls Tryz.prog 25 #[.agg #[.string KT, .int .i64 EC.dots, .int .i64 EC.blank, .int .i64 EC.marked, .slice sl.po sl.pn sl.pc, .slice sl.co sl.cn sl.cc, .slice sl.so sl.sn sl.sc, .int .i64 EC.scanners, .int .i64 EC.batch, .bool EC.rneg, .slice sl.uo sl.un sl.uc, .slice sl.dO sl.dn sl.dc, .int .i64 EC.cell, .string KS], .int .i64 1] v6 fun r w' => r = .returned (.int .i64 0) /\ Below v6.heap.size v6 w') := (by have := HSt.out v6 sl (ESY.out.below B6); rw [<- hKT.out, <- hKS.out]; exact this))
   | (go_at_call 25; (with_reducible refine HS1.out.mono ?_); rintro r v7 ⟨rfl, B7⟩; have hfin : Hid (Below w.heap.size w v7) := BW6.out.trans (B7.mono BW6.out.size))
   | fail)
 go_ret
 exact ⟨rfl, hfin.out⟩
end Go.Proofs.YtemdkkphmldgjaaGreatDoor
