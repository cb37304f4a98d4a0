/-
  Texts of the proof, put together: SchComp SchCompB SchOk SchOkB SchRk SchCompC SchSmD.
-/
import Derived.Lib.ItoaLen
import Derived.Test.YtemdkkphmldgjaaGreatDoorPkA22
import Derived.Test.YtemdkkphmldgjaaGreatDoorPkA24
import Derived.Test.YtemdkkphmldgjaaGreatDoorPkA25
import Derived.Test.YtemdkkphmldgjaaGreatDoorPkA27
import Derived.Test.YtemdkkphmldgjaaGreatDoorPkA28
set_option maxRecDepth 100000
set_option maxHeartbeats 51200000
namespace Go.Proofs.YtemdkkphmldgjaaGreatDoor
open Go.RowKit Lx
theorem ElcS.mono {S T : World -> Nat -> Prop} {w : World} {e : Elc} {s : ESl} (h : ElcS S w e s) (hm : ∀ k, S w k -> T w k) : ElcS T w e s := ⟨Row.mono h.precs hm, h.conts.mono hm, h.stys.mono hm, Row.mono h.num hm, Row.mono h.den hm⟩
theorem Arr.other {w Z : World} {g k : Nat} {t : TypeId} {cs : List Value} (h : Arr w g t cs) (hg : w.grownBy Z (some k)) (hk : g ≠ k) : Arr Z g t cs := (hg.block g h.lt (fun e => hk (by injection e))).trans h
theorem Compile_ok (s : SSrc) (ao : Option Addr) (n c : Nat) (w : World) (h : BlkS anyF w ao n c s.blks) (hsm : SmallS s) (h0 : (checkS s).1 = 0) (hok : ∀ b ∈ s.blks, OkB b) (hT : Tabs w) :
    Calls Tryz.prog 12 #[.agg #[.string (stg s.title), .slice ao n c]] w fun e w' => ∃ sl, e = .returned (.tuple #[eV (bldJ (precNames s.blks) (contNames s.blks) s.title s.blks) sl, .agg #[.int .i64 0, .int .i64 0]]) /\ ElcS anyF w' (bldJ (precNames s.blks) (contNames s.blks) s.title s.blks) sl /\ Below w.heap.size w w' := by
 obtain ⟨V, e1, AV, BV, hz⟩ := new_box w 24 [.string (stg s.title), .slice ao n c]
 obtain ⟨V2, e2, AV2, BV2, hz2⟩ := new_box V 34 [.string ⟨#[]⟩, .int .i64 0, .int .i64 0, .int .i64 0, .slice none 0 0, .slice none 0 0, .slice none 0 0, .int .i64 0, .int .i64 0, .bool false, .slice none 0 0, .slice none 0 0, .int .i64 0, .string ⟨#[]⟩]
 obtain ⟨U, e3, AU, BU, hz3⟩ := new_box V2 37 [.int .i64 0, .int .i64 0]
 have HL := Lib.hid (((h.below BV).below BV2).below BU)
 have HT := Lib.hid (((hT.below BV).below BV2).below BU)
 have HC := check_c s ao n c U HL.out hsm HT.out
 rw [h0] at HC
 have HBd := fun w1 (hb : Below U.heap.size U w1) => build_c s ao n c w1 (HL.out.below hb) hsm hok (HT.out.below hb)
 obtain ⟨EF, hEF⟩ : ∃ E, Hid (bldJ (precNames s.blks) (contNames s.blks) s.title s.blks = E) := ⟨_, rfl⟩
 rw [hEF.out] at HBd |-
 obtain ⟨LF, hLF⟩ : ∃ L, Hid ((checkS s).2 = L) := ⟨_, rfl⟩
 rw [hLF.out] at HC
 obtain ⟨KT, hKT⟩ : ∃ K, Hid (stg s.title = K) := ⟨_, rfl⟩
 rw [hKT.out] at e1 AV HC HBd |-
 obtain ⟨bb, hbb⟩ : ∃ b, w.heap.size = b := ⟨_, rfl⟩
 rw [hbb] at AV hz
 rw [hz] at AV2 hz2
 rw [hz2] at AU
 have A0 := Lib.hid ((AV.kept BV2).kept BU)
 have A1 := Lib.hid (AV2.kept BU)
 have A2 := Lib.hid AU
 have HB : Hid (Below w.heap.size w U) := (BV.trans (BV2.mono BV.size)).trans (BU.mono (Nat.le_trans BV.size BV2.size))
 have hle1 : Hid (w.heap.size <= bb + 1) := by show _ <= _; omega
 have hle2 : Hid (w.heap.size <= bb + 1 + 1) := by show _ <= _; omega
 have hne : Hid (bb + 1 ≠ bb + 1 + 1) := by show _ ≠ _; omega
 have y0 : U.cell? ⟨bb, 0, none⟩ = some (.string KT) := A0.out.cell 0
 have y1 : U.cell? ⟨bb, 1, none⟩ = some (.slice ao n c) := A0.out.cell 1
 replace HC : Hid (Calls Tryz.prog 27 #[.agg #[.string KT, .slice ao n c]] U fun e w' => e = .returned (.agg #[.int .i64 0, .int .i64 LF]) /\ Below U.heap.size U w') := HC
 replace HBd := Lib.hid HBd
 clear h hT h0 hok hsm AV AV2 AU BV BV2 BU hz3
 go_enter Tryz.func12, Tryz.ntmps12
 go_wp2_with fail
 refine HC.out.mono ?_
 rintro e w1 ⟨rfl, B1⟩
 obtain ⟨V3, X, e4, e5, AX, BX, zX, f0, f1, f2, f3⟩ := new_put2 w1 37 (.int .i64 0) (.int .i64 0) (.int .i64 0) (.int .i64 LF)
 have BXU : Hid (Below U.heap.size U X) := B1.trans (BX.mono B1.size)
 have x0 : X.cell? ⟨w1.heap.size, 0, none⟩ = some (.int .i64 0) := AX.cell 0
 have k0 : X.cell? ⟨bb, 0, none⟩ = some (.string KT) := (A0.out.kept BXU.out).cell 0
 have k1 : X.cell? ⟨bb, 1, none⟩ = some (.slice ao n c) := (A0.out.kept BXU.out).cell 1
 have HBx := Lib.hid (HBd.out X BXU.out)
 clear HC HBd B1 BX AX zX
 go_wp2_with fail
 clear e1 e2 e3 e4 e5 f0 f1 f2 f3 y0 y1
 refine HBx.out.mono ?_
 rintro e w3 ⟨sl, he, ES, B3⟩
 replace he : e = .returned (.agg #[.string (stg EF.title), .int .i64 EF.dots, .int .i64 EF.blank, .int .i64 EF.marked, .slice sl.po sl.pn sl.pc, .slice sl.co sl.cn sl.cc, .slice sl.so sl.sn sl.sc, .int .i64 EF.scanners, .int .i64 EF.batch, .bool EF.rneg, .slice sl.uo sl.un sl.uc, .slice sl.dO sl.dn sl.dc, .int .i64 EF.cell, .string (stg EF.seed)]) := he
 subst he
 have B3U : Below U.heap.size U w3 := BXU.out.trans (B3.mono BXU.out.size)
 obtain ⟨X9_0, X9_1, X9_2, X9_3, X9_4, X9_5, X9_6, X9_7, X9_8, X9_9, X9_10, X9_11, X9_12, X9, m7_0, m7_1, m7_2, m7_3, m7_4, m7_5, m7_6, m7_7, m7_8, m7_9, m7_10, m7_11, m7_12, m7_13, AX, GX, LX, q0, q1, q2, q3, q4, q5, q6, q7, q8, q9, q10, q11, q12, q13, q14, q15, q16, q17, q18, q19, q20, q21, q22, q23, q24, q25, q26, q27⟩ := box_let14 (A1.out.kept B3U) (.string (stg EF.title)) (.int .i64 EF.dots) (.int .i64 EF.blank) (.int .i64 EF.marked) (.slice sl.po sl.pn sl.pc) (.slice sl.co sl.cn sl.cc) (.slice sl.so sl.sn sl.sc) (.int .i64 EF.scanners) (.int .i64 EF.batch) (.bool EF.rneg) (.slice sl.uo sl.un sl.uc) (.slice sl.dO sl.dn sl.dc) (.int .i64 EF.cell) (.string (stg EF.seed))
 obtain ⟨Y0, mm0, AY0, GY0, LY0, t0, t1⟩ := set_box ((A2.out.kept B3U).other GX hne.out.symm) 0 (.int .i64 0) _ rfl
 obtain ⟨Y1, mm1, AY1, GY1, LY1, t2, t3⟩ := set_box AY0 1 (.int .i64 0) _ rfl
 have AZ := (AX.other GY0 hne.out).other GY1 hne.out
 have rr0 : Y1.cell? ⟨bb + 1, 0, none⟩ = some (.string (stg EF.title)) := AZ.cell 0
 have rr1 : Y1.cell? ⟨bb + 1, 1, none⟩ = some (.int .i64 EF.dots) := AZ.cell 1
 have rr2 : Y1.cell? ⟨bb + 1, 2, none⟩ = some (.int .i64 EF.blank) := AZ.cell 2
 have rr3 : Y1.cell? ⟨bb + 1, 3, none⟩ = some (.int .i64 EF.marked) := AZ.cell 3
 have rr4 : Y1.cell? ⟨bb + 1, 4, none⟩ = some (.slice sl.po sl.pn sl.pc) := AZ.cell 4
 have rr5 : Y1.cell? ⟨bb + 1, 5, none⟩ = some (.slice sl.co sl.cn sl.cc) := AZ.cell 5
 have rr6 : Y1.cell? ⟨bb + 1, 6, none⟩ = some (.slice sl.so sl.sn sl.sc) := AZ.cell 6
 have rr7 : Y1.cell? ⟨bb + 1, 7, none⟩ = some (.int .i64 EF.scanners) := AZ.cell 7
 have rr8 : Y1.cell? ⟨bb + 1, 8, none⟩ = some (.int .i64 EF.batch) := AZ.cell 8
 have rr9 : Y1.cell? ⟨bb + 1, 9, none⟩ = some (.bool EF.rneg) := AZ.cell 9
 have rr10 : Y1.cell? ⟨bb + 1, 10, none⟩ = some (.slice sl.uo sl.un sl.uc) := AZ.cell 10
 have rr11 : Y1.cell? ⟨bb + 1, 11, none⟩ = some (.slice sl.dO sl.dn sl.dc) := AZ.cell 11
 have rr12 : Y1.cell? ⟨bb + 1, 12, none⟩ = some (.int .i64 EF.cell) := AZ.cell 12
 have rr13 : Y1.cell? ⟨bb + 1, 13, none⟩ = some (.string (stg EF.seed)) := AZ.cell 13
 have rs0 : Y1.cell? ⟨bb + 1 + 1, 0, none⟩ = some (.int .i64 0) := AY1.cell 0
 have rs1 : Y1.cell? ⟨bb + 1 + 1, 1, none⟩ = some (.int .i64 0) := AY1.cell 1
 have BZ : Hid (Below w.heap.size w Y1) := LY1 _ _ (LY0 _ _ (LX _ _ (HB.out.trans (B3U.mono HB.out.size)) hle1.out) hle2.out) hle2.out
 have hx1 : bb + 1 < X.heap.size := Nat.lt_of_lt_of_le A1.out.lt BXU.out.size
 have hx2 : bb + 1 + 1 < X.heap.size := Nat.lt_of_lt_of_le A2.out.lt BXU.out.size
 have EZ : Hid (ElcS anyF Y1 EF sl) := (((ES.keep (stable_high _) (keeps_high GX hx1)).keep (stable_high _) (keeps_high GY0 hx2)).keep (stable_high _) (keeps_high GY1 hx2)).mono any_of
 clear ES AX GX LX AY0 GY0 LY0 AY1 GY1 LY1 AZ B3 B3U HBx hx1 hx2
 go_wp2_with fail
 refine bodyPost_ret (v := .tuple #[eV EF sl, .agg #[.int .i64 0, .int .i64 0]]) (by simp [results, Tryz.results12, go_sem, eV, eC, rr0, rr1, rr2, rr3, rr4, rr5, rr6, rr7, rr8, rr9, rr10, rr11, rr12, rr13, rs0, rs1]) rfl ?_
 exact ⟨sl, rfl, EZ.out, by first | exact BZ.out | (rw [<- hbb]; exact BZ.out)⟩
end Go.Proofs.YtemdkkphmldgjaaGreatDoor
namespace Go.Proofs.YtemdkkphmldgjaaGreatDoor
open Go.RowKit Lx
theorem Arr.other2 {w Z : World} {g k : Nat} {t : TypeId} {cs : List Value} (h : Arr w g t cs) (hg : w.grownBy Z (some k)) (hk : g ≠ k) : Arr Z g t cs := (hg.block g h.lt (fun e => hk (by injection e))).trans h
theorem Compile_bad (s : SSrc) (ao : Option Addr) (n c : Nat) (w : World) (h : BlkS anyF w ao n c s.blks) (hsm : SmallS s) (h0 : (checkS s).1 ≠ 0) (hT : Tabs w) :
    Calls Tryz.prog 12 #[.agg #[.string (stg s.title), .slice ao n c]] w fun e w' => e = .returned (.tuple #[.agg #[.string ⟨#[]⟩, .int .i64 0, .int .i64 0, .int .i64 0, .slice none 0 0, .slice none 0 0, .slice none 0 0, .int .i64 0, .int .i64 0, .bool false, .slice none 0 0, .slice none 0 0, .int .i64 0, .string ⟨#[]⟩], .agg #[.int .i64 (((checkS s).1 : Nat) : Int), .int .i64 (checkS s).2]]) /\ Below w.heap.size w w' := by
 obtain ⟨V, e1, AV, BV, hz⟩ := new_box w 24 [.string (stg s.title), .slice ao n c]
 obtain ⟨V2, e2, AV2, BV2, hz2⟩ := new_box V 34 [.string ⟨#[]⟩, .int .i64 0, .int .i64 0, .int .i64 0, .slice none 0 0, .slice none 0 0, .slice none 0 0, .int .i64 0, .int .i64 0, .bool false, .slice none 0 0, .slice none 0 0, .int .i64 0, .string ⟨#[]⟩]
 obtain ⟨U, e3, AU, BU, hz3⟩ := new_box V2 37 [.int .i64 0, .int .i64 0]
 have HL := Lib.hid (((h.below BV).below BV2).below BU)
 have HT := Lib.hid (((hT.below BV).below BV2).below BU)
 have HC := check_c s ao n c U HL.out hsm HT.out
 have qn := int_nat_eq (checkS s).1 0 0 rfl
 rw [decide_eq_false h0] at qn
 obtain ⟨LE, hLE⟩ : ∃ L, ((((checkS s).1 : Nat) : Int)) = L := ⟨_, rfl⟩
 rw [hLE] at HC qn |-
 have qn2 : (LE != 0) = true := by unfold bne; rw [qn]; rfl
 replace hLE := Lib.hid hLE
 obtain ⟨LF, hLF⟩ : ∃ L, Hid ((checkS s).2 = L) := ⟨_, rfl⟩
 rw [hLF.out] at HC |-
 obtain ⟨KT, hKT⟩ : ∃ K, Hid (stg s.title = K) := ⟨_, rfl⟩
 rw [hKT.out] at e1 AV HC |-
 obtain ⟨bb, hbb⟩ : ∃ b, w.heap.size = b := ⟨_, rfl⟩
 rw [hbb] at AV hz
 rw [hz] at AV2 hz2
 rw [hz2] at AU
 have A0 := Lib.hid ((AV.kept BV2).kept BU)
 have A1 := Lib.hid (AV2.kept BU)
 have A2 := Lib.hid AU
 have HB : Hid (Below w.heap.size w U) := (BV.trans (BV2.mono BV.size)).trans (BU.mono (Nat.le_trans BV.size BV2.size))
 have hle1 : Hid (w.heap.size <= bb + 1) := by show _ <= _; omega
 have hle2 : Hid (w.heap.size <= bb + 1 + 1) := by show _ <= _; omega
 have hne : Hid (bb + 1 ≠ bb + 1 + 1) := by show _ ≠ _; omega
 have y0 : U.cell? ⟨bb, 0, none⟩ = some (.string KT) := A0.out.cell 0
 have y1 : U.cell? ⟨bb, 1, none⟩ = some (.slice ao n c) := A0.out.cell 1
 replace HC : Hid (Calls Tryz.prog 27 #[.agg #[.string KT, .slice ao n c]] U fun e w' => e = .returned (.agg #[.int .i64 LE, .int .i64 LF]) /\ Below U.heap.size U w') := HC
 clear h hT h0 hsm AV AV2 AU BV BV2 BU hz3
 go_enter Tryz.func12, Tryz.ntmps12
 go_wp2_with fail
 refine HC.out.mono ?_
 rintro e w1 ⟨rfl, B1⟩
 obtain ⟨V3, X, e4, e5, AX, BX, zX, f0, f1, f2, f3⟩ := new_put2 w1 37 (.int .i64 0) (.int .i64 0) (.int .i64 LE) (.int .i64 LF)
 have BXU : Hid (Below U.heap.size U X) := B1.trans (BX.mono B1.size)
 have x0 : X.cell? ⟨w1.heap.size, 0, none⟩ = some (.int .i64 LE) := AX.cell 0
 obtain ⟨W, hW⟩ : ∃ W, X.drew = W := ⟨_, rfl⟩
 have HD : Below X.heap.size X W := by rw [<- hW]; exact (Below.refl _ _).drew
 have AW := AX.kept HD
 have j0 : W.cell? ⟨w1.heap.size, 0, none⟩ = some (.int .i64 LE) := AW.cell 0
 have j1 : W.cell? ⟨w1.heap.size, 1, none⟩ = some (.int .i64 LF) := AW.cell 1
 have BWU : Below U.heap.size U W := BXU.out.trans (HD.mono BXU.out.size)
 have hne4 : bb + 1 ≠ w1.heap.size := by have h1 := B1.size; have h2 := A1.out.lt; omega
 obtain ⟨X9_0, X9_1, X9_2, X9_3, X9_4, X9_5, X9_6, X9_7, X9_8, X9_9, X9_10, X9_11, X9_12, X9, m7_0, m7_1, m7_2, m7_3, m7_4, m7_5, m7_6, m7_7, m7_8, m7_9, m7_10, m7_11, m7_12, m7_13, AY, GY, LY, q0, q1, q2, q3, q4, q5, q6, q7, q8, q9, q10, q11, q12, q13, q14, q15, q16, q17, q18, q19, q20, q21, q22, q23, q24, q25, q26, q27⟩ := box_let14 (A1.out.kept BWU) (.string ⟨#[]⟩) (.int .i64 0) (.int .i64 0) (.int .i64 0) (.slice none 0 0) (.slice none 0 0) (.slice none 0 0) (.int .i64 0) (.int .i64 0) (.bool false) (.slice none 0 0) (.slice none 0 0) (.int .i64 0) (.string ⟨#[]⟩)
 have j2 : X9.cell? ⟨w1.heap.size, 0, none⟩ = some (.int .i64 LE) := (AW.other2 GY hne4.symm).cell 0
 have j3 : X9.cell? ⟨w1.heap.size, 1, none⟩ = some (.int .i64 LF) := (AW.other2 GY hne4.symm).cell 1
 obtain ⟨Y0, mm0, AY0, GY0, LY0, t0, t1⟩ := set_box ((A2.out.kept BWU).other2 GY hne.out.symm) 0 (.int .i64 LE) _ rfl
 obtain ⟨Y1, mm1, AY1, GY1, LY1, t2, t3⟩ := set_box AY0 1 (.int .i64 LF) _ rfl
 have AZ := (AY.other2 GY0 hne.out).other2 GY1 hne.out
 have rr0 : Y1.cell? ⟨bb + 1, 0, none⟩ = some (.string ⟨#[]⟩) := AZ.cell 0
 have rr1 : Y1.cell? ⟨bb + 1, 1, none⟩ = some (.int .i64 0) := AZ.cell 1
 have rr2 : Y1.cell? ⟨bb + 1, 2, none⟩ = some (.int .i64 0) := AZ.cell 2
 have rr3 : Y1.cell? ⟨bb + 1, 3, none⟩ = some (.int .i64 0) := AZ.cell 3
 have rr4 : Y1.cell? ⟨bb + 1, 4, none⟩ = some (.slice none 0 0) := AZ.cell 4
 have rr5 : Y1.cell? ⟨bb + 1, 5, none⟩ = some (.slice none 0 0) := AZ.cell 5
 have rr6 : Y1.cell? ⟨bb + 1, 6, none⟩ = some (.slice none 0 0) := AZ.cell 6
 have rr7 : Y1.cell? ⟨bb + 1, 7, none⟩ = some (.int .i64 0) := AZ.cell 7
 have rr8 : Y1.cell? ⟨bb + 1, 8, none⟩ = some (.int .i64 0) := AZ.cell 8
 have rr9 : Y1.cell? ⟨bb + 1, 9, none⟩ = some (.bool false) := AZ.cell 9
 have rr10 : Y1.cell? ⟨bb + 1, 10, none⟩ = some (.slice none 0 0) := AZ.cell 10
 have rr11 : Y1.cell? ⟨bb + 1, 11, none⟩ = some (.slice none 0 0) := AZ.cell 11
 have rr12 : Y1.cell? ⟨bb + 1, 12, none⟩ = some (.int .i64 0) := AZ.cell 12
 have rr13 : Y1.cell? ⟨bb + 1, 13, none⟩ = some (.string ⟨#[]⟩) := AZ.cell 13
 have rs0 : Y1.cell? ⟨bb + 1 + 1, 0, none⟩ = some (.int .i64 LE) := AY1.cell 0
 have rs1 : Y1.cell? ⟨bb + 1 + 1, 1, none⟩ = some (.int .i64 LF) := AY1.cell 1
 have BZ : Hid (Below w.heap.size w Y1) := LY1 _ _ (LY0 _ _ (LY _ _ (HB.out.trans (BWU.mono HB.out.size)) hle1.out) hle2.out) hle2.out
 clear HC B1 BX AX zX AY GY LY AY0 GY0 LY0 AY1 GY1 LY1 AZ HD AW BWU hne4
 go_wp2_with fail
 go_region
 go_wp2_with fail
 refine bodyPost_ret (v := .tuple #[.agg #[.string ⟨#[]⟩, .int .i64 0, .int .i64 0, .int .i64 0, .slice none 0 0, .slice none 0 0, .slice none 0 0, .int .i64 0, .int .i64 0, .bool false, .slice none 0 0, .slice none 0 0, .int .i64 0, .string ⟨#[]⟩], .agg #[.int .i64 LE, .int .i64 LF]]) (by simp [results, Tryz.results12, go_sem, rr0, rr1, rr2, rr3, rr4, rr5, rr6, rr7, rr8, rr9, rr10, rr11, rr12, rr13, rs0, rs1]) rfl ?_
 exact ⟨rfl, by first | exact BZ.out | (rw [<- hbb]; exact BZ.out)⟩
end Go.Proofs.YtemdkkphmldgjaaGreatDoor
namespace Go.Proofs.YtemdkkphmldgjaaGreatDoor
open Go.RowKit Lx
namespace Lx
theorem check_parts {s : SSrc} (h : (checkS s).1 = 0) : textB s.title 60 = true /\ (blksGo [] s.blks).1 = 0 /\ missK s.blks = false /\ (stylesGo (precNames s.blks) (contNames s.blks) [] (ofKind kStyle s.blks)).1 = 0 := by
 unfold checkS at h
 cases ht : textB s.title 60 with
 | false => rw [ht] at h; simp at h
 | true =>
  rw [ht] at h
  simp only [Bool.not_true, Bool.false_eq_true, if_false] at h
  by_cases hb : (blksGo [] s.blks).1 ≠ 0
  . rw [if_pos hb] at h; exact absurd h hb
  . rw [if_neg hb] at h
    cases hm : missK s.blks with
    | true => rw [hm] at h; simp at h
    | false =>
     rw [hm] at h
     simp only [Bool.false_eq_true, if_false] at h
     exact ⟨rfl, by omega, rfl, h⟩
theorem block_parts {e : List SBlc} {b : SBlc} (h : (blockE e b).1 = 0) : headE e b = 0 /\ (fldsGo b.kind [] b.flds).1 = 0 /\ lacksF b = false /\ (togE b).1 = 0 := by
 unfold blockE at h
 by_cases h1 : headE e b ≠ 0
 . rw [if_pos h1] at h; exact absurd h h1
 . rw [if_neg h1] at h
   by_cases h2 : (fldsGo b.kind [] b.flds).1 ≠ 0
   . rw [if_pos h2] at h; exact absurd h h2
   . rw [if_neg h2] at h
     cases h3 : lacksF b with
     | true => rw [h3] at h; simp at h
     | false =>
      rw [h3] at h
      simp only [Bool.false_eq_true, if_false] at h
      exact ⟨by omega, by omega, rfl, h⟩
theorem check_blocks {s : SSrc} (h : (checkS s).1 = 0) : ∀ b ∈ s.blks, (fldsGo b.kind [] b.flds).1 = 0 /\ lacksF b = false := by
 intro b hb
 obtain ⟨i, hi, rfl⟩ := List.mem_iff_getElem.1 hb
 have h1 := blks_ok (check_parts h).2.1 i _ (List.getElem?_eq_getElem hi)
 exact ⟨(block_parts h1).2.1, (block_parts h1).2.2.1⟩
theorem field_risk {b : SBlc} {k : List UInt8} {r : FRule} (h : (fldsGo b.kind [] b.flds).1 = 0) (hr : fldRule b.kind k = some r) (hf : r.form = 3) (hh : hasF b k = true) : riskE (valueOf b k) = 0 := by
 rw [value_or]
 rcases idxF_cases b k with ⟨h1, h2⟩ | ⟨j, h1, h2⟩
 . exfalso
   have h3 := idxF_has b k
   rw [h1, hh] at h3
   simp at h3
 . have hE := flds_ok h j _ h2
   have hkey : (fldOr b k).key = k := by
    unfold fldOr fieldOf
    cases hx : b.flds.find? (fun f => decide (f.key = k)) with
    | none =>
     unfold fldOr fieldOf at h2
     unfold idxF at h1
     cases hi : idxK k b.flds with
     | none => rw [hi] at h1; simp at h1
     | some i =>
      obtain ⟨f, _, h3⟩ := idxK_get hi
      rw [hx] at h3; cases h3
    | some f => simpa using List.find?_some hx
   unfold fieldE at hE
   rw [hkey, hr] at hE
   simp only at hE
   split at hE
   . omega
   . rw [if_neg (by omega)] at hE
     split at hE
     . omega
     . unfold valueE at hE
       rw [if_neg (by omega), if_neg (by omega), if_pos hf] at hE
       exact hE
theorem risk_frac {v : List UInt8} (h : riskE v = 0) : fracB v = true := by
 unfold riskE at h
 cases hf : fracB v with
 | true => rfl
 | false => rw [hf] at h; simp at h
theorem lacks_has {b : SBlc} (h : lacksF b = false) {r : FRule} (hr : r ∈ fldRules) (hk : r.kind = b.kind) (hd : r.key ≠ wDigits) : hasF b r.key = true := by
 unfold lacksF at h
 rw [List.any_eq_false] at h
 have := h r hr
 cases hh : hasF b r.key with
 | true => rfl
 | false =>
  exfalso
  apply this
  rw [hh, decide_eq_true hk, decide_eq_false hd]
  rfl
theorem audit_ok {b : SBlc} (h : (fldsGo b.kind [] b.flds).1 = 0) (hl : lacksF b = false) (hk : b.kind = kAudit) : fracB (valueOf b wRisk) = true /\ riskE (valueOf b wRisk) = 0 := by
 have h1 : hasF b wRisk = true := lacks_has (r := ⟨kAudit, wRisk, 3, 0, 0⟩) hl (List.mem_of_getElem? (show fldRules[16]? = some _ from rfl)) hk.symm (by decide)
 have h2 := field_risk (r := ⟨kAudit, wRisk, 3, 0, 0⟩) h (by rw [hk]; rfl) rfl h1
 exact ⟨risk_frac h2, h2⟩
theorem fld_mem (b : SBlc) (k : List UInt8) : fldOr b k = ⟨[], [], 0⟩ \/ (fldOr b k ∈ b.flds /\ ((fldOr b k).key = k)) := by
 unfold fldOr fieldOf
 cases hx : b.flds.find? (fun f => decide (f.key = k)) with
 | none => exact Or.inl rfl
 | some f => exact Or.inr ⟨List.mem_of_find?_eq_some hx, by simpa using List.find?_some hx⟩
end Lx
end Go.Proofs.YtemdkkphmldgjaaGreatDoor
namespace Go.Proofs.YtemdkkphmldgjaaGreatDoor
open Go.RowKit Lx
theorem okB_of {s : SSrc} (h : (checkS s).1 = 0) (hsm : SmallS s) (hv : ∀ b ∈ s.blks, ∀ f ∈ b.flds, f.vals.length <= 4000000) : ∀ b ∈ s.blks, OkB b := by
 intro b hb
 obtain ⟨hf, hl⟩ := check_blocks h b hb
 have len : ∀ k, (fldOr b k).vals.length <= 4000000 := by
  intro k
  rcases fld_mem b k with e | ⟨e, _⟩
  . rw [e]; exact Nat.zero_le _
  . exact hv b hb _ e
 refine ⟨fun hk => ⟨field_num (r := ⟨kScan, wDots, 0, 2, 7⟩) hf (by rw [hk]; rfl) rfl, field_num (r := ⟨kScan, wBlank, 0, 1, 100⟩) hf (by rw [hk]; rfl) rfl, field_num (r := ⟨kScan, wMarked, 0, 1, 100⟩) hf (by rw [hk]; rfl) rfl⟩,
   fun hk => ⟨field_num (r := ⟨kScanners, wCount, 0, 1, 6⟩) hf (by rw [hk]; rfl) rfl, field_num (r := ⟨kScanners, wBatch, 0, 1, 16⟩) hf (by rw [hk]; rfl) rfl⟩,
   fun hk => ⟨⟨field_num (r := ⟨kContest, wSeats, 0, 1, 5⟩) hf (by rw [hk]; rfl) rfl, field_num (r := ⟨kContest, wRanks, 0, 1, 7⟩) hf (by rw [hk]; rfl) rfl, field_num (r := ⟨kContest, wDigits, 0, 1, 6⟩) hf (by rw [hk]; rfl) rfl⟩, len _⟩,
   fun _ => ⟨len _, len _⟩,
   fun hk => ⟨(audit_ok hf hl hk).1, ?_⟩,
   fun hk => field_num (r := ⟨kPrivacy, wCell, 0, 1, 400⟩) hf (by rw [hk]; rfl) rfl⟩
 rcases fld_mem b wRisk with e | ⟨e1, e2⟩
 . rw [value_or, e]; exact Nat.zero_le _
 . rw [value_or]
   cases hx : (fldOr b wRisk).vals[0]? with
   | none => exact Nat.zero_le _
   | some v => exact hsm.short b hb _ e1 ⟨kAudit, wRisk, 3, 0, 0⟩ (by rw [hk, e2]; rfl) v (List.mem_of_getElem? hx) (Or.inr rfl)
end Go.Proofs.YtemdkkphmldgjaaGreatDoor
namespace Go.Proofs.YtemdkkphmldgjaaGreatDoor
open Go.RowKit Lx
namespace Lx
theorem limbs_one {m : Nat} (h0 : 0 < m) (h1 : m < 4294967296) : Q.NatMath.limbs m = [(m : Int)] := by
 rw [Q.NatMath.limbs, dif_neg (by omega), Nat.mod_eq_of_lt h1, Nat.div_eq_of_lt h1, Q.NatMath.limbs, dif_pos rfl]
theorem risk_eq {v : List UInt8} (h : riskE v = 0) : (fracR v).s = false /\ Q.NatMath.limbs (fracR v).p = riskN v /\ Q.NatMath.limbs (fracR v).q = riskD v := by
 have hf := risk_frac h
 obtain ⟨hA, hD⟩ := frac_parts hf
 have lA := num_lt hA
 have lD := num_lt hD
 unfold riskE at h
 rw [hf] at h
 simp only [Bool.not_true, Bool.false_eq_true, if_false] at h
 unfold fracR riskN riskD lowT
 generalize numV (fracA v) = a at *
 generalize numV (fracD v) = d at *
 have h3 : d ≠ 0 /\ d <= 1000 * a := by
  by_cases e1 : d = 0
  . rw [e1] at h; simp at h
  . refine ⟨e1, ?_⟩
    by_cases e2 : 1000 * a < d
    . simp [e2] at h
    . omega
 have ha : 0 < a := by omega
 have hg : 0 < Nat.gcd a d := Nat.gcd_pos_of_pos_left _ ha
 have p1 : 0 < a / Nat.gcd a d := Nat.div_pos (Nat.le_of_dvd ha (Nat.gcd_dvd_left a d)) hg
 have p2 : 0 < d / Nat.gcd a d := Nat.div_pos (Nat.le_of_dvd (by omega) (Nat.gcd_dvd_right a d)) hg
 have q1 : a / Nat.gcd a d <= a := Nat.div_le_self _ _
 have q2 : d / Nat.gcd a d <= d := Nat.div_le_self _ _
 unfold Q.RatMath.nf
 simp only
 rw [if_neg (by omega)]
 exact ⟨rfl, limbs_one p1 (Nat.lt_of_le_of_lt q1 (show a < 4294967296 by omega)), limbs_one p2 (Nat.lt_of_le_of_lt q2 (show d < 4294967296 by omega))⟩
theorem miss_has {bs : List SBlc} (h : missK bs = false) {r : BRule} (hr : r ∈ blkRules) : ofKind r.kind bs ≠ [] := by
 unfold missK at h
 rw [List.any_eq_false] at h
 intro e
 apply h r hr
 rw [e]
 rfl
theorem lastK_mem {k : List UInt8} {bs : List SBlc} (h : ofKind k bs ≠ []) : lastK k bs ∈ bs /\ (lastK k bs).kind = k := by
 unfold lastK
 rw [List.getLast?_eq_some_getLast h]
 have := List.mem_filter.1 (List.getLast_mem h)
 exact ⟨this.1, of_decide_eq_true this.2⟩
theorem build_eq {s : SSrc} (h : (checkS s).1 = 0) : bldJ (precNames s.blks) (contNames s.blks) s.title s.blks = buildS s := by
 have hm := miss_has (check_parts h).2.2.1 (List.mem_of_getElem? (show blkRules[5]? = some _ from rfl))
 have ha : ofKind kAudit s.blks ≠ [] := by first | exact hm | exact miss_has (check_parts h).2.2.1 (r := ⟨kAudit, 1, false⟩) (by simp [blkRules])
 obtain ⟨h1, h2⟩ := lastK_mem ha
 obtain ⟨h3, h4⟩ := check_blocks h _ h1
 obtain ⟨r1, r2, r3⟩ := risk_eq (audit_ok h3 h4 h2).2
 unfold bldJ buildS
 rw [if_neg ha, if_neg ha, if_neg ha, r1, r2, r3]
end Lx
end Go.Proofs.YtemdkkphmldgjaaGreatDoor
namespace Go.Proofs.YtemdkkphmldgjaaGreatDoor
open Go.RowKit Lx
theorem compile_c (s : SSrc) (ao : Option Addr) (n c : Nat) (w : World) (h : BlkS anyF w ao n c s.blks) (hsm : SmallS s) (hv : ∀ b ∈ s.blks, ∀ f ∈ b.flds, f.vals.length <= 4000000) (hT : Tabs w) :
    Calls Tryz.prog 12 #[.agg #[.string (stg s.title), .slice ao n c]] w fun e w' => ∃ sl, e = .returned (.tuple #[eV (compS s).2 sl, .agg #[.int .i64 (((compS s).1.1 : Nat) : Int), .int .i64 (compS s).1.2]]) /\ ElcS anyF w' (compS s).2 sl /\ Below w.heap.size w w' := by
 by_cases h0 : (checkS s).1 = 0
 . have e : compS s = ((0, 0), buildS s) := by unfold compS; rw [if_neg (by omega)]
   rw [e]
   have := Compile_ok s ao n c w h hsm h0 (okB_of h0 hsm hv) hT
   rw [build_eq h0] at this
   exact this
 . have e : compS s = (checkS s, zeroE) := by unfold compS; rw [if_pos h0]
   rw [e]
   refine (Compile_bad s ao n c w h hsm h0 hT).mono fun e w' ⟨h1, h2⟩ => ⟨⟨none, 0, 0, none, 0, 0, none, 0, 0, none, 0, 0, none, 0, 0⟩, h1, ?_, h2⟩
   exact ⟨Row.nil _ _ _, ⟨[], Row.nil _ _ _, rfl⟩, ⟨[], Row.nil _ _ _, rfl⟩, Row.nil _ _ _, Row.nil _ _ _⟩
end Go.Proofs.YtemdkkphmldgjaaGreatDoor
namespace Go.Proofs.YtemdkkphmldgjaaGreatDoor
open Go.RowKit Lx
namespace Lx
theorem short_of {kd : List UInt8} {f : SFld} (h : ∀ v ∈ f.vals, v.length <= 1000000) : shortFld kd f := fun _ _ v hv _ => h v hv
theorem short_form {kd : List UInt8} {f : SFld} {r : FRule} (h : fldRule kd f.key = some r) (h0 : r.form ≠ 0) (h3 : r.form ≠ 3) : shortFld kd f := by
 intro r' hr v hv hf
 rw [h] at hr
 injection hr with hr
 subst hr
 rcases hf with e | e
 . exact absurd e h0
 . exact absurd e h3
theorem itoa_short {n : Int} (h : -9223372036854775808 <= n /\ n <= 9223372036854775807) : (Lib.itoa n).length <= 1000000 := Nat.le_trans (Lib.itoa_length_le n h.1 h.2) (by decide)
theorem fN_short {kd k : List UInt8} {n : Int} (h : I64 n) : shortFld kd (fN k n) := short_of fun v hv => by
 have : v = Lib.itoa n := by simpa [fN, Lx.fV] using hv
 subst this
 exact itoa_short h
theorem ofKind_app (k : List UInt8) (a b : List SBlc) : ofKind k (a ++ b) = ofKind k a ++ ofKind k b := by unfold ofKind; rw [List.filter_append]
theorem ofKind_none {k : List UInt8} {l : List SBlc} (h : ∀ b ∈ l, b.kind ≠ k) : ofKind k l = [] := by
 unfold ofKind
 rw [List.filter_eq_nil_iff]
 intro b hb e
 exact h b hb (of_decide_eq_true e)
theorem ofKind_all {k : List UInt8} {l : List SBlc} (h : ∀ b ∈ l, b.kind = k) : ofKind k l = l := by
 unfold ofKind
 rw [List.filter_eq_self]
 intro b hb
 exact decide_eq_true (h b hb)
theorem conts_kind (e : Elc) {k : List UInt8} (h : kContest ≠ k) : ofKind k (e.conts.map descC) = [] := ofKind_none fun b hb => by
 obtain ⟨x, _, rfl⟩ := List.mem_map.1 hb
 exact h
theorem stys_kind (e : Elc) (P C : List (List UInt8)) {k : List UInt8} (h : kStyle ≠ k) : ofKind k (e.stys.map (descT P C)) = [] := ofKind_none fun b hb => by
 obtain ⟨x, _, rfl⟩ := List.mem_map.1 hb
 exact h
theorem desc_prec (e : Elc) (R : List UInt8) : precNames (descS e R).blks = e.precs := by
 unfold precNames descS
 simp only
 rw [ofKind_app, ofKind_app, ofKind_app, conts_kind e (by decide), stys_kind e _ _ (by decide), List.append_nil, List.append_nil]
 show (ofKind kPrecincts (dHead e) ++ ofKind kPrecincts (dTail e R)).flatMap _ = _
 have h1 : ofKind kPrecincts (dHead e) = [⟨kPrecincts, [], [⟨wNames, e.precs, 0⟩], 0⟩] := by
  rfl
 have h2 : ofKind kPrecincts (dTail e R) = [] := by
  rfl
 rw [h1, h2, List.append_nil]
 show valuesOf _ wNames ++ [] = e.precs
 rw [List.append_nil]
 rfl
theorem desc_sty (e : Elc) (R : List UInt8) : ofKind kStyle (descS e R).blks = e.stys.map (descT e.precs (cNames e)) := by
 unfold descS
 simp only
 rw [ofKind_app, ofKind_app, ofKind_app, conts_kind e (by decide)]
 have h1 : ofKind kStyle (dHead e) = [] := by
  rfl
 have h2 : ofKind kStyle (dTail e R) = [] := by
  rfl
 rw [h1, h2, List.append_nil, List.append_nil, List.nil_append]
 exact ofKind_all fun b hb => by
  obtain ⟨x, _, rfl⟩ := List.mem_map.1 hb
  rfl
end Lx
structure DsSm (e : Elc) : Prop where
 rows : e.conts.length + e.stys.length <= 1900000
 used : (e.stys.map fun x => x.precs.length).sum <= 4000000
theorem desc_mem {e : Elc} {R : List UInt8} {b : SBlc} (h : b ∈ (descS e R).blks) : b ∈ dHead e \/ (∃ x ∈ e.conts, b = descC x) \/ (∃ x ∈ e.stys, b = descT e.precs (cNames e) x) \/ b ∈ dTail e R := by
 unfold descS at h
 simp only [List.mem_append, List.mem_map] at h
 rcases h with ((h | ⟨x, hx, rfl⟩) | ⟨x, hx, rfl⟩) | h
 . exact Or.inl h
 . exact Or.inr (Or.inl ⟨x, hx, rfl⟩)
 . exact Or.inr (Or.inr (Or.inl ⟨x, hx, rfl⟩))
 . exact Or.inr (Or.inr (Or.inr h))
theorem desc_small {e : Elc} {s : ESl} {R : List UInt8} (h : DsOk e s) (k : DsSm e) (hR : R.length <= 1000000) : SmallS (descS e R) := by
 obtain ⟨n1, n2, n3, n4, n5, n6⟩ := h.nums
 refine ⟨?_, fun b hb f hf => ?_, by rw [desc_prec]; exact h.precs, ?_⟩
 . have := k.rows
   unfold descS dHead dTail
   simp only [List.length_append, List.length_map, List.length_cons, List.length_nil]
   omega
 . rcases desc_mem hb with hb | ⟨x, hx, rfl⟩ | ⟨x, hx, rfl⟩ | hb
   . unfold dHead at hb
     simp only [List.mem_cons, List.not_mem_nil, or_false] at hb
     rcases hb with rfl | rfl | rfl
     . simp only [List.mem_cons, List.not_mem_nil, or_false] at hf
       rcases hf with rfl | rfl | rfl
       . exact fN_short n1
       . exact fN_short n2
       . exact fN_short n3
     . simp only [List.mem_cons, List.not_mem_nil, or_false] at hf
       rcases hf with rfl | rfl
       . exact fN_short n4
       . exact fN_short n5
     . simp only [List.mem_cons, List.not_mem_nil, or_false] at hf
       subst hf
       exact short_form (r := ⟨kPrecincts, wNames, 2, 1, 12⟩) rfl (by decide) (by decide)
   . obtain ⟨c1, c2, c3, c4⟩ := h.cst x hx
     have hf' : f ∈ descCF x := hf
     unfold descCF at hf'
     simp only [List.mem_append, List.mem_cons, List.not_mem_nil, or_false] at hf'
     rcases hf' with ((rfl | rfl | rfl) | hf') | rfl | rfl | rfl | rfl
     . exact short_form (r := ⟨kContest, wMethod, 1, 0, 0⟩) rfl (by decide) (by decide)
     . exact fN_short c2
     . exact fN_short c3
     . by_cases hm : x.method = 2
       . rw [if_pos hm] at hf'
         simp only [List.mem_cons, List.not_mem_nil, or_false] at hf'
         subst hf'
         exact fN_short c4
       . rw [if_neg hm] at hf'
         cases hf'
     . exact short_form (r := ⟨kContest, wTies, 1, 0, 0⟩) rfl (by decide) (by decide)
     . exact short_form (r := ⟨kContest, wOvervote, 1, 0, 0⟩) rfl (by decide) (by decide)
     . exact short_form (r := ⟨kContest, wSkip, 1, 0, 0⟩) rfl (by decide) (by decide)
     . exact short_form (r := ⟨kContest, wCandidates, 2, 1, 7⟩) rfl (by decide) (by decide)
   . have hf' : f ∈ [(⟨kPrecincts, pickL e.precs x.precs, 0⟩ : SFld), ⟨wContests, pickL (cNames e) x.conts, 0⟩] := hf
     simp only [List.mem_cons, List.not_mem_nil, or_false] at hf'
     rcases hf' with rfl | rfl
     . exact short_form (r := ⟨kStyle, kPrecincts, 2, 1, 12⟩) rfl (by decide) (by decide)
     . exact short_form (r := ⟨kStyle, wContests, 2, 1, 4⟩) rfl (by decide) (by decide)
   . unfold dTail at hb
     simp only [List.mem_cons, List.not_mem_nil, or_false] at hb
     rcases hb with rfl | rfl
     . simp only [List.mem_cons, List.not_mem_nil, or_false] at hf
       rcases hf with rfl | rfl
       . refine short_of fun v hv => ?_
         have : v = R := by simpa [Lx.fV] using hv
         subst this
         exact hR
       . exact short_form (r := ⟨kAudit, wSeed, 4, 0, 0⟩) rfl (by decide) (by decide)
     . simp only [List.mem_cons, List.not_mem_nil, or_false] at hf
       subst hf
       exact fN_short n6
 . rw [desc_sty, List.flatMap_map]
   have e1 : (fun x => (fldOr (descT e.precs (cNames e) x) kPrecincts).vals) = fun x : Sty => pickL e.precs x.precs := by
    funext x
    rfl
   rw [e1, List.length_flatMap]
   have e2 : (fun x : Sty => (pickL e.precs x.precs).length) = fun x => x.precs.length := by funext x; simp [pickL]
   rw [e2]
   exact k.used
theorem desc_vals {e : Elc} {s : ESl} {R : List UInt8} (h : DsOk e s) : ∀ b ∈ (descS e R).blks, ∀ f ∈ b.flds, f.vals.length <= 4000000 := by
 intro b hb f hf
 rcases desc_mem hb with hb | ⟨x, hx, rfl⟩ | ⟨x, hx, rfl⟩ | hb
 . unfold dHead at hb
   simp only [List.mem_cons, List.not_mem_nil, or_false] at hb
   rcases hb with rfl | rfl | rfl
   . simp only [List.mem_cons, List.not_mem_nil, or_false] at hf
     rcases hf with rfl | rfl | rfl <;> exact (by decide : 1 <= 4000000)
   . simp only [List.mem_cons, List.not_mem_nil, or_false] at hf
     rcases hf with rfl | rfl <;> exact (by decide : 1 <= 4000000)
   . simp only [List.mem_cons, List.not_mem_nil, or_false] at hf
     subst hf
     exact h.precs
 . have hf' : f ∈ descCF x := hf
   unfold descCF at hf'
   simp only [List.mem_append, List.mem_cons, List.not_mem_nil, or_false] at hf'
   rcases hf' with ((rfl | rfl | rfl) | hf') | rfl | rfl | rfl | rfl
   . exact (by decide : 1 <= 4000000)
   . exact (by decide : 1 <= 4000000)
   . exact (by decide : 1 <= 4000000)
   . by_cases hm : x.method = 2
     . rw [if_pos hm] at hf'
       simp only [List.mem_cons, List.not_mem_nil, or_false] at hf'
       subst hf'
       exact (by decide : 1 <= 4000000)
     . rw [if_neg hm] at hf'
       cases hf'
   . exact (by decide : 1 <= 4000000)
   . exact (by decide : 1 <= 4000000)
   . exact (by decide : 1 <= 4000000)
   . exact (h.cst x hx).1
 . have hf' : f ∈ [(⟨kPrecincts, pickL e.precs x.precs, 0⟩ : SFld), ⟨wContests, pickL (cNames e) x.conts, 0⟩] := hf
   simp only [List.mem_cons, List.not_mem_nil, or_false] at hf'
   rcases hf' with rfl | rfl
   . show (pickL e.precs x.precs).length <= _
     unfold pickL
     rw [List.length_map]
     exact (h.sty x hx).1
   . show (pickL (cNames e) x.conts).length <= _
     unfold pickL
     rw [List.length_map]
     exact (h.sty x hx).2
 . unfold dTail at hb
   simp only [List.mem_cons, List.not_mem_nil, or_false] at hb
   rcases hb with rfl | rfl
   . simp only [List.mem_cons, List.not_mem_nil, or_false] at hf
     rcases hf with rfl | rfl <;> exact (by decide : 1 <= 4000000)
   . simp only [List.mem_cons, List.not_mem_nil, or_false] at hf
     subst hf
     exact (by decide : 1 <= 4000000)
theorem build_rat {s : SSrc} (h : (checkS s).1 = 0) : (∀ z ∈ (buildS s).rnum, 0 <= z /\ z <= 4294967295) /\ (∀ z ∈ (buildS s).rden, 0 <= z /\ z <= 4294967295) /\ (buildS s).rnum.length = 1 /\ (buildS s).rden.length = 1 := by
 have hm := miss_has (check_parts h).2.2.1 (r := ⟨kAudit, 1, false⟩) (by simp [blkRules])
 obtain ⟨h1, h2⟩ := lastK_mem hm
 obtain ⟨h3, h4⟩ := check_blocks h _ h1
 obtain ⟨hA, hD⟩ := frac_parts (risk_frac (audit_ok h3 h4 h2).2)
 have lA := num_lt hA
 have lD := num_lt hD
 refine ⟨fun z hz => ?_, fun z hz => ?_, rfl, rfl⟩
 . have e1 : z = (((lowT (numV (fracA (valueOf (lastK kAudit s.blks) wRisk))) (numV (fracD (valueOf (lastK kAudit s.blks) wRisk)))).1 : Nat) : Int) := by simpa [buildS, riskN] using hz
   have : (lowT (numV (fracA (valueOf (lastK kAudit s.blks) wRisk))) (numV (fracD (valueOf (lastK kAudit s.blks) wRisk)))).1 <= 999999 := Nat.le_trans (Nat.div_le_self _ _) lA
   omega
 . have e1 : z = (((lowT (numV (fracA (valueOf (lastK kAudit s.blks) wRisk))) (numV (fracD (valueOf (lastK kAudit s.blks) wRisk)))).2 : Nat) : Int) := by simpa [buildS, riskD] using hz
   have : (lowT (numV (fracA (valueOf (lastK kAudit s.blks) wRisk))) (numV (fracD (valueOf (lastK kAudit s.blks) wRisk)))).2 <= 999999 := Nat.le_trans (Nat.div_le_self _ _) lD
   omega
theorem comp_ratin {s : SSrc} {sl : ESl} {w : World} (h : ElcS anyF w (compS s).2 sl) : RatIn (compS s).2 sl := by
 have hn := IntL.len h.num
 have hd := IntL.len h.den
 by_cases h0 : (checkS s).1 = 0
 . have e : (compS s).2 = buildS s := by unfold compS; rw [if_neg (by omega)]
   rw [e] at hn hd |-
   obtain ⟨a, b, c, d⟩ := build_rat h0
   exact ⟨a, b, by omega, by omega⟩
 . have e : (compS s).2 = zeroE := by unfold compS; rw [if_pos h0]
   rw [e] at hn hd |-
   have hn' : 0 = sl.un := hn
   have hd' : 0 = sl.dn := hd
   exact ⟨fun z hz => (by cases hz), fun z hz => (by cases hz), by omega, by omega⟩
theorem risk_short {e : Elc} (h1 : e.rnum.length = 1) (h2 : e.rden.length = 1) (hx : ∀ z ∈ e.rnum, 0 <= z /\ z <= 4294967295) (hy : ∀ z ∈ e.rden, 0 <= z /\ z <= 4294967295) : (riskT e).length <= 1000000 := by
 unfold riskT
 rw [bys_len]
 have va : Q.NatMath.val e.rnum < 4294967296 ^ e.rnum.length := Q.NatMath.val_lt hx
 have vb : Q.NatMath.val e.rden < 4294967296 ^ e.rden.length := Q.NatMath.val_lt hy
 rw [h1] at va
 rw [h2] at vb
 have hp : (Q.RatMath.nf ⟨e.rneg, Q.NatMath.val e.rnum, Q.NatMath.val e.rden⟩).p < 2 ^ 160 /\ (Q.RatMath.nf ⟨e.rneg, Q.NatMath.val e.rnum, Q.NatMath.val e.rden⟩).q < 2 ^ 160 := by
  unfold Q.RatMath.nf
  split
  . exact ⟨by decide, by decide⟩
  . have d1 := Nat.div_le_self (Q.NatMath.val e.rnum) (Nat.gcd (Q.NatMath.val e.rnum) (Q.NatMath.val e.rden))
    have d2 := Nat.div_le_self (Q.NatMath.val e.rden) (Nat.gcd (Q.NatMath.val e.rnum) (Q.NatMath.val e.rden))
    have h3 : (4294967296 : Nat) ^ 1 <= 2 ^ 160 := by decide
    exact ⟨Nat.lt_of_le_of_lt d1 (Nat.lt_of_lt_of_le va h3), Nat.lt_of_le_of_lt d2 (Nat.lt_of_lt_of_le vb h3)⟩
 generalize Q.RatMath.nf ⟨e.rneg, Q.NatMath.val e.rnum, Q.NatMath.val e.rden⟩ = z at hp |-
 have s1 := Q.dg_size hp.1
 have s2 := Q.dg_size hp.2
 have k1 : (⟨#[45]⟩ : ByteArray).size = 1 := rfl
 have k2 : (⟨#[47]⟩ : ByteArray).size = 1 := rfl
 unfold Q.tx
 split <;> split <;> first | (simp only [ByteArray.size_append, k1, k2]; omega) | omega
end Go.Proofs.YtemdkkphmldgjaaGreatDoor
