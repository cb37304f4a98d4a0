/-
  Texts of the proof, put together: SchBuild.
-/
import Derived.Test.YtemdkkphmldgjaaGreatDoorPkA22
import Derived.Test.YtemdkkphmldgjaaGreatDoorPkA24
import Derived.Test.YtemdkkphmldgjaaGreatDoorPkA27
set_option maxRecDepth 100000
set_option maxHeartbeats 51200000
namespace Go.Proofs.YtemdkkphmldgjaaGreatDoor
open Go.RowKit Lx
def numOk (b : SBlc) (k : List UInt8) : Prop := valueOf b k = [] \/ numB (valueOf b k) = true
structure OkB (b : SBlc) : Prop where
 scan : b.kind = kScan -> numOk b wDots /\ numOk b wBlank /\ numOk b wMarked
 scanners : b.kind = kScanners -> numOk b wCount /\ numOk b wBatch
 contest : b.kind = kContest -> NumsC b /\ (fldOr b wCandidates).vals.length <= 4000000
 style : b.kind = kStyle -> (fldOr b kPrecincts).vals.length <= 4000000 /\ (fldOr b wContests).vals.length <= 4000000
 audit : b.kind = kAudit -> fracB (valueOf b wRisk) = true /\ (valueOf b wRisk).length <= 1000000
 privacy : b.kind = kPrivacy -> numOk b wCell
theorem infoCt : (Tryz.prog.info? 76).map (fun i => (i.zero, i.size, i.bytes)) = some (some (.agg #[.string ⟨#[]⟩, .slice none 0 0, .int .i64 0, .int .i64 0, .int .i64 0, .int .i64 0, .int .i64 0, .int .i64 0, .int .i64 0]), 9, 96) := by kernel_rfl
theorem infoSt : (Tryz.prog.info? 60).map (fun i => (i.zero, i.size, i.bytes)) = some (some (.agg #[.string ⟨#[]⟩, .slice none 0 0, .slice none 0 0]), 3, 64) := by kernel_rfl
theorem BRw.cast {B : Nat} {w : World} {e e' : Elc} {s s' : ESl} {C : List (List UInt8)} {qo : Option Addr} {qn qc : Nat} (h : BRw B w e s C qo qn qc) (h1 : e'.precs = e.precs) (h2 : e'.conts = e.conts) (h3 : e'.stys = e.stys) (h4 : e'.rnum = e.rnum) (h5 : e'.rden = e.rden) (hs : s' = s) : BRw B w e' s' C qo qn qc := by
 subst hs
 exact ⟨by rw [h1]; exact h.precs, by rw [h2]; exact h.conts, by rw [h3]; exact h.stys, by rw [h4]; exact h.num, by rw [h5]; exact h.den, h.names⟩
theorem keeps_boxes {lo g : Nat} {Es : List TypeId} {T : TypeId} {w Z0 Z1 Z2 Z3 : World} {c0 c1 c2 c3 : List Value} (a0 : Arr w g T c0) (a1 : Arr Z0 g T c1) (a2 : Arr Z1 g T c2) (a3 : Arr Z2 g T c3) (hT : T ∉ Es) (g0 : w.grownBy Z0 (some g)) (g1 : Z0.grownBy Z1 (some g)) (g2 : Z1.grownBy Z2 (some g)) (g3 : Z2.grownBy Z3 (some g)) : Keeps (ownF lo Es) w Z3 :=
 Keeps.trans (stable_own _ _) (Keeps.trans (stable_own _ _) (Keeps.trans (stable_own _ _) (keeps_gbox a0 hT g0) g0.size (keeps_gbox a1 hT g1)) (Nat.le_trans g0.size g1.size) (keeps_gbox a2 hT g2)) (Nat.le_trans g0.size (Nat.le_trans g1.size g2.size)) (keeps_gbox a3 hT g3)
theorem BRw.cn {B : Nat} {w : World} {e : Elc} {s : ESl} {C : List (List UInt8)} {qo : Option Addr} {qn qc : Nat} (h : BRw B w e s C qo qn qc) : s.cn = e.conts.length /\ s.sn = e.stys.length := by
 obtain ⟨us, h1, h2⟩ := h.conts
 obtain ⟨vs, h3, h4⟩ := h.stys
 have a1 := h1.1
 have a2 := h2.len
 have a3 := h3.1
 have a4 := h4.len
 omega
theorem bld_cn (P C : List (List UInt8)) (t : List UInt8) (bs : List SBlc) : (bldJ P C t bs).conts.length <= bs.length /\ (bldJ P C t bs).stys.length <= bs.length := by
 unfold bldJ
 simp only [List.length_map]
 exact ⟨ofKind_len _ _, ofKind_len _ _⟩
theorem build_c (s : SSrc) (ao : Option Addr) (n c : Nat) (w : World) (h : BlkS anyF w ao n c s.blks) (hsm : SmallS s) (hok : ∀ b ∈ s.blks, OkB b) (hT : Tabs w) :
    Calls Tryz.prog 28 #[.agg #[.string (stg s.title), .slice ao n c]] w fun e w' => ∃ sl, e = .returned (eV (bldJ (precNames s.blks) (contNames s.blks) s.title s.blks) sl) /\ ElcS (highF w.heap.size) w' (bldJ (precNames s.blks) (contNames s.blks) s.title s.blks) sl /\ Below w.heap.size w w' := by
 obtain ⟨V, e1, AV, BV, hz⟩ := new_box w 24 [.string (stg s.title), .slice ao n c]
 obtain ⟨U, e2, AU, BU, hz2⟩ := new_box V 34 [.string ⟨#[]⟩, .int .i64 0, .int .i64 0, .int .i64 0, .slice none 0 0, .slice none 0 0, .slice none 0 0, .int .i64 0, .int .i64 0, .bool false, .slice none 0 0, .slice none 0 0, .int .i64 0, .string ⟨#[]⟩]
 have HL := Lib.hid ((h.below BV).below BU)
 have HLl := Lib.hid ((h.below BV).below BU).low
 have HT := Lib.hid ((hT.below BV).below BU)
 have hlen := Lib.hid h.len
 have hn2 : Hid (n <= 2000000) := by show _ <= _; rw [<- h.len]; exact hsm.blks
 obtain ⟨hcap, hroom⟩ := h.caps
 obtain ⟨V5, m5, AV5, BV5, zV5⟩ := new_box U 34 [.string ⟨#[]⟩, .int .i64 0, .int .i64 0, .int .i64 0, .slice none 0 0, .slice none 0 0, .slice none 0 0, .int .i64 0, .int .i64 0, .bool false, .slice none 0 0, .slice none 0 0, .int .i64 0, .string ⟨#[]⟩]
 have HP1 := precinctNames_w s.blks ao n c U.drew (HL.out.below (Below.refl _ _).drew) hn2.out hsm.prec
 have HP2 := precinctNames_w s.blks ao n c V5.drew (HL.out.below BV5.drew) hn2.out hsm.prec
 have HC := fun w1 (hb : Below U.heap.size U w1) => contestNames_w s.blks ao n c w1 (HL.out.below hb) hn2.out
 obtain ⟨P, hP⟩ : ∃ P, Hid (precNames s.blks = P) := ⟨_, rfl⟩
 obtain ⟨C, hC⟩ : ∃ C, Hid (contNames s.blks = C) := ⟨_, rfl⟩
 obtain ⟨TL, hTL⟩ : ∃ T, Hid (s.title = T) := ⟨_, rfl⟩
 obtain ⟨BS, hBS⟩ : ∃ T, Hid (s.blks = T) := ⟨_, rfl⟩
 rw [hP.out] at HP1 HP2
 rw [hC.out] at HC
 rw [hP.out, hC.out, hTL.out]
 rw [hTL.out] at e1 AV
 rw [hBS.out] at HL HLl hlen hok |-
 obtain ⟨EF, hEF⟩ : ∃ E, Hid (bldJ P C TL BS = E) := ⟨_, rfl⟩
 rw [hEF.out]
 obtain ⟨KT, hKT⟩ : ∃ K, Hid (stg TL = K) := ⟨_, rfl⟩
 rw [hKT.out] at e1 AV |-
 obtain ⟨bb, hbb⟩ : ∃ b, w.heap.size = b := ⟨_, rfl⟩
 rw [hbb] at AV hz
 rw [hz] at AU
 obtain ⟨B0, hB0⟩ : ∃ b, U.heap.size = b := ⟨_, rfl⟩
 rw [hB0] at AV5
 have A0 := Lib.hid (AV.kept BU)
 have A1 := Lib.hid AU
 have A5 := Lib.hid AV5
 have HB : Hid (Below w.heap.size w U) := BV.trans (BU.mono BV.size)
 have hle : Hid (w.heap.size <= bb + 1) := by show _ <= _; omega
 have hlo : Hid (w.heap.size <= U.heap.size) := HB.out.size
 have hqh : Hid (U.heap.size <= B0) := by show _ <= _; rw [hB0]; exact Nat.le_refl _
 have BH5 : Hid (Below U.heap.size U V5.drew) := BV5.drew
 have HD0 : Hid (Below U.heap.size U U.drew) := (Below.refl _ _).drew
 have HPa := Lib.hid HP1
 have HPb := Lib.hid HP2
 have HCo := Lib.hid HC
 have hok := Lib.hid hok
 have y0 : U.cell? ⟨bb, 0, none⟩ = some (.string KT) := A0.out.cell 0
 have y1 : U.cell? ⟨bb, 1, none⟩ = some (.slice ao n c) := A0.out.cell 1
 have v0 : V5.drew.cell? ⟨bb, 0, none⟩ = some (.string KT) := (A0.out.kept BV5).cell 0
 have v1 : V5.drew.cell? ⟨bb, 1, none⟩ = some (.slice ao n c) := (A0.out.kept BV5).cell 1
 have hb0 : Hid (bb < U.heap.size) := A0.out.lt
 replace hsm := Lib.hid hsm
 clear HP1 HP2 HC h hT AV AU BV BU hz2 AV5 BV5 zV5
 go_enter Tryz.func28, Tryz.ntmps28
 go_wp2_with fail
 go_region_held3 (fun w' => w'.cell? ⟨bb, 0, none⟩ = some (.string KT) /\ w'.cell? ⟨bb, 1, none⟩ = some (.slice ao n c)) (go_keep) (first
   | (go_at_call 63; (with_reducible refine HPa.out.mono ?_); rintro e w9 ⟨po, pn, pc, rfl, ⟨Bp, hBp, PL⟩, B9⟩; have k0 := cell_keep (w := U.drew) y0 B9; have k1 := cell_keep (w := U.drew) y1 B9; obtain ⟨V6, m6, AV6, BV6, zV6⟩ := new_box w9 34 [.string ⟨#[]⟩, .int .i64 0, .int .i64 0, .int .i64 0, .slice none 0 0, .slice none 0 0, .slice none 0 0, .int .i64 0, .int .i64 0, .bool false, .slice none 0 0, .slice none 0 0, .int .i64 0, .string ⟨#[]⟩]; have l0 := cell_keep k0 BV6; have l1 := cell_keep k1 BV6; obtain ⟨X9_0, X9_1, X9_2, X9_3, X9_4, X9_5, X9_6, X9_7, X9_8, X9_9, X9_10, X9_11, X9_12, X9, m7_0, m7_1, m7_2, m7_3, m7_4, m7_5, m7_6, m7_7, m7_8, m7_9, m7_10, m7_11, m7_12, m7_13, AX, GX, LX, q0, q1, q2, q3, q4, q5, q6, q7, q8, q9, q10, q11, q12, q13, q14, q15, q16, q17, q18, q19, q20, q21, q22, q23, q24, q25, q26, q27⟩ := box_let14 AV6 (.string KT) (.int .i64 0) (.int .i64 0) (.int .i64 0) (.slice po pn pc) (.slice none 0 0) (.slice none 0 0) (.int .i64 0) (.int .i64 0) (.bool false) (.slice none 0 0) (.slice none 0 0) (.int .i64 0) (.string ⟨#[]⟩); have BX0 : Below w9.heap.size w9 X9 := LX _ _ BV6 (Nat.le_refl _); have o0 := cell_keep k0 BX0; have o1 := cell_keep k1 BX0; have C9 : Below U.heap.size U w9 := HD0.out.trans (B9.mono HD0.out.size); have PX := Lib.hid (keep_own (own_lower PL (show U.heap.size <= Bp from hBp)) BX0); have BX := Lib.hid (C9.trans (BX0.mono C9.size)); have hg : Hid (U.heap.size <= w9.heap.size) := C9.size; obtain ⟨g, hgg⟩ : ∃ g, w9.heap.size = g := ⟨_, rfl⟩; rw [hgg] at AX hg m7_0 m7_1 m7_2 m7_3 m7_4 m7_5 m7_6 m7_7 m7_8 m7_9 m7_10 m7_11 m7_12 m7_13 q0 q1 q2 q3 q4 q5 q6 q7 q8 q9 q10 q11 q12 q13 q14 q15 q16 q17 q18 q19 q20 q21 q22 q23 q24 q25 q26 q27; clear AV6 BV6 zV6 GX LX BX0 PL C9)
   | (go_at_call 63; (with_reducible refine HPb.out.mono ?_); rintro e w9 ⟨po, pn, pc, rfl, ⟨Bp, hBp, PL⟩, B9⟩; have k0 := cell_keep (w := V5.drew) v0 B9; have k1 := cell_keep (w := V5.drew) v1 B9; have A9 := Arr.kept (w := V5.drew) A5.out B9; obtain ⟨X9_0, X9_1, X9_2, X9_3, X9_4, X9_5, X9_6, X9_7, X9_8, X9_9, X9_10, X9_11, X9_12, X9, m7_0, m7_1, m7_2, m7_3, m7_4, m7_5, m7_6, m7_7, m7_8, m7_9, m7_10, m7_11, m7_12, m7_13, AX, GX, LX, q0, q1, q2, q3, q4, q5, q6, q7, q8, q9, q10, q11, q12, q13, q14, q15, q16, q17, q18, q19, q20, q21, q22, q23, q24, q25, q26, q27⟩ := box_let14 A9 (.string KT) (.int .i64 0) (.int .i64 0) (.int .i64 0) (.slice po pn pc) (.slice none 0 0) (.slice none 0 0) (.int .i64 0) (.int .i64 0) (.bool false) (.slice none 0 0) (.slice none 0 0) (.int .i64 0) (.string ⟨#[]⟩); have C9 : Below U.heap.size U w9 := BH5.out.trans (B9.mono BH5.out.size); have BX0 : Below U.heap.size U X9 := LX _ _ C9 hqh.out; have o0 := cell_keep y0 BX0; have o1 := cell_keep y1 BX0; have PX := Lib.hid ((own_lower PL (Nat.le_trans BH5.out.size hBp)).keep (stable_own _ _) (keeps_gbox A9 (by decide) GX)); have BX := Lib.hid BX0; have hg := hqh; obtain ⟨g, hgg⟩ : ∃ g, B0 = g := ⟨_, rfl⟩; rw [hgg] at AX hg m7_0 m7_1 m7_2 m7_3 m7_4 m7_5 m7_6 m7_7 m7_8 m7_9 m7_10 m7_11 m7_12 m7_13 q0 q1 q2 q3 q4 q5 q6 q7 q8 q9 q10 q11 q12 q13 q14 q15 q16 q17 q18 q19 q20 q21 q22 q23 q24 q25 q26 q27; clear GX LX BX0 PL C9 A9))
 all_goals
   have HCx := Lib.hid (HCo.out X9 BX.out)
   have AE : Hid (Arr X9 g 34 (eC ⟨TL, 0, 0, 0, P, [], [], 0, 0, false, [], [], 0, []⟩ ⟨po, pn, pc, none, 0, 0, none, 0, 0, none, 0, 0, none, 0, 0⟩)) := by
    show Arr _ _ _ _
    unfold eC
    rw [hKT.out]
    exact AX
   clear AX q0 q1 q2 q3 q4 q5 q6 q7 q8 q9 q10 q11 q12 q13 q14 q15 q16 q17 q18 q19 q20 q21 q22 q23 q24 q25 q26 q27
   go_wp2_with fail
   refine HCx.out.mono ?_
   rintro e w10 ⟨qo, qn, qc, rfl, ⟨Bq, hBq, CL⟩, B10⟩
   have CX : Hid (StrL (ownF U.heap.size [9]) w10 qo qn qc C) := own_lower CL (Nat.le_trans BX.out.size hBq)
   have PX2 := Lib.hid (keep_own PX.out B10)
   have AE2 := Lib.hid (AE.out.kept B10)
   have B11 : Hid (Below U.heap.size U w10) := BX.out.trans (B10.mono BX.out.size)
   have y2 : w10.cell? ⟨bb, 1, none⟩ = some (.slice ao n c) := (A0.out.kept B11.out).cell 1
   have HR : Hid (BRw U.heap.size w10 (bldJ P C TL (BS.take 0)) ⟨po, pn, pc, none, 0, 0, none, 0, 0, none, 0, 0, none, 0, 0⟩ C qo qn qc) := by
    show BRw _ _ _ _ _ _ _ _
    rw [List.take_zero, bldJ_nil]
    exact ⟨PX2.out, ⟨[], World.ownsRow_nil _ _ _ _, rfl⟩, ⟨[], World.ownsRow_nil _ _ _ _, rfl⟩, Row.nil _ _ _, Row.nil _ _ _, CX.out⟩
   have AE3 : Hid (Arr w10 g 34 (eC (bldJ P C TL (BS.take 0)) ⟨po, pn, pc, none, 0, 0, none, 0, 0, none, 0, 0, none, 0, 0⟩)) := by
    show Arr _ _ _ _
    rw [List.take_zero, bldJ_nil]
    exact AE2.out
   clear HCx HCo HPa HPb PX AE CL B10 BX PX2 AE2 CX
   go_wp2_with fail
   go_loopw [6, 19] (fun _ i wr => ∃ (j : Nat) (sl : ESl), j <= n /\ i = .int .i64 (j : Int) /\ Arr wr g 34 (eC (bldJ P C TL (BS.take j)) sl) /\ BRw U.heap.size wr (bldJ P C TL (BS.take j)) sl C qo qn qc /\ Below U.heap.size U wr) (fun _ i _ => n - (intOf i).toNat)
   case atStart => exact ⟨0, _, Nat.zero_le _, rfl, AE3.out, HR.out, B11.out⟩
   case round =>
    obtain ⟨w2, hw2⟩ : ∃ x, x = wr := ⟨_, rfl⟩
    subst hw2
    clear B11 HR AE3
    obtain ⟨j, sl, hj, rfl, AE, BR, B⟩ := hrel
    by_cases hlt : j < n
    . have hlt' : (j : Int) < (n : Int) := by omega
      obtain ⟨b, a, fo, fn, fc, hb, i1, c0, c1, c2, c3, FL⟩ := (HL.out.below B).get j hlt
      have hob := hok.out b (List.mem_of_getElem? hb)
      have hts := take_snoc hb
      obtain ⟨V1, W1, e3, e4, AW, BW, zW, f0, f1, f2, f3, f4, f5, f6, f7⟩ := new_put4 w2 55 (.string ⟨#[]⟩) (.string ⟨#[]⟩) (.slice none 0 0) (.int .i64 0) (.string (stg b.kind)) (.string (stg b.name)) (.slice fo fn fc) (.int .i64 b.line)
      obtain ⟨p, hp⟩ : ∃ p, w2.heap.size = p := ⟨_, rfl⟩
      rw [hp] at AW e4 f0 f1 f2 f3 f4 f5 f6 f7
      have hpg : Hid (p ≠ g) := by show _ ≠ _; have := AE.lt; omega
      have BW1 : Below U.heap.size U W1 := B.trans (BW.mono B.size)
      have HL1 := Lib.hid (FL.below BW)
      have HT1 := Lib.hid (HT.out.below BW1)
      have AE1 := AE.kept BW
      have BR1 := Lib.hid (BR.below BW)
      have hcn := BR.cn
      have hcn2 := bld_cn P C TL (BS.take j)
      have htl : (BS.take j).length <= j := by rw [List.length_take]; omega
      have hb1 : sl.cn <= 4000000 := by have := hn2.out; omega
      have hb2 : sl.sn <= 4000000 := by have := hn2.out; omega
      obtain ⟨EJ, hEJ⟩ : ∃ E, bldJ P C TL (BS.take j) = E := ⟨_, rfl⟩
      have hst : ∀ E, bldJ P C TL (BS.take j ++ [b]) = E -> bldJ P C TL (BS.take (j + 1)) = E := fun E h => by rw [hts]; exact h
      have kscan := bldJ_scan P C TL (BS.take j) b
      have kscanners := bldJ_scanners P C TL (BS.take j) b
      have kcontest := bldJ_contest P C TL (BS.take j) b
      have kstyle := bldJ_style P C TL (BS.take j) b
      have kaudit := bldJ_audit P C TL (BS.take j) b
      have kprivacy := bldJ_privacy P C TL (BS.take j) b
      have kother := bldJ_other P C TL (BS.take j) b
      rw [hEJ] at AE1 BR1 kscan kscanners kcontest kstyle kaudit kprivacy kother
      have qscan := lit_eq b.kind kScan
      have qscanners := lit_eq b.kind kScanners
      have qcontest := lit_eq b.kind kContest
      have qstyle := lit_eq b.kind kStyle
      have qaudit := lit_eq b.kind kAudit
      have qprivacy := lit_eq b.kind kPrivacy
      obtain ⟨KD, hKD⟩ : ∃ K, Hid (stg b.kind = K) := ⟨_, rfl⟩
      obtain ⟨KN, hKN⟩ : ∃ K, Hid (stg b.name = K) := ⟨_, rfl⟩
      obtain ⟨LN, hLN⟩ : ∃ K, Hid (b.line = K) := ⟨_, rfl⟩
      rw [hKD.out] at c0 e4 AW f2 f3 f4 f5 f6 f7 qscan qscanners qcontest qstyle qaudit qprivacy
      rw [hKN.out] at c1 e4 AW f4 f5 f6 f7
      rw [hLN.out] at c3 e4 AW
      obtain ⟨W2, hW2⟩ : ∃ W2, W1.drew = W2 := ⟨_, rfl⟩
      have HD : Below W1.heap.size W1 W2 := by rw [<- hW2]; exact (Below.refl _ _).drew
      have z0 : W1.cell? ⟨p, 0, none⟩ = some (.string KD) := AW.cell 0
      have z1 : W1.cell? ⟨p, 1, none⟩ = some (.string KN) := AW.cell 1
      have z2 : W1.cell? ⟨p, 2, none⟩ = some (.slice fo fn fc) := AW.cell 2
      have z3 : W1.cell? ⟨p, 3, none⟩ = some (.int .i64 LN) := AW.cell 3
      have u0 := cell_keep z0 HD
      have u1 := cell_keep z1 HD
      have u2 := cell_keep z2 HD
      have u3 := cell_keep z3 HD
      have AW2 := Lib.hid (AW.kept HD)
      have AE2 := Lib.hid (AE1.kept HD)
      have BR2 := Lib.hid (BR1.out.below HD)
      have AE1 := Lib.hid AE1
      have HL2 := Lib.hid (HL1.out.below HD)
      have HT2 := Lib.hid (HT1.out.below HD)
      have BD1 : Hid (Below U.heap.size U W1) := BW1
      have BD2 : Hid (Below U.heap.size U W2) := BW1.trans (HD.mono BW1.size)
      replace hst := Lib.hid hst
      replace hts := Lib.hid hts
      clear B BW FL AW zW hb AE BR BW1 hcn hcn2 htl HD
      by_cases hk : b.kind = kScan
      . rw [decide_eq_true hk] at qscan
        replace qscan : (KD.toList == [115, 99, 97, 110]) = true := qscan
        obtain ⟨hv0, hv1, hv2⟩ := hob.scan hk
        have HN0 := fun w1 (hb : Below W2.heap.size W2 w1) => number_sc b wDots fo fn fc w1 (HL2.out.below hb) hv0 (HT2.out.below hb)
        obtain ⟨N0, hN0⟩ : ∃ N, Hid (((numberOf b wDots : Nat) : Int) = N) := ⟨_, rfl⟩
        rw [hN0.out, hKD.out, hKN.out, hLN.out] at HN0
        replace HN0 : Hid (∀ w1 (_ : Below W2.heap.size W2 w1), Calls Tryz.prog 65 #[.agg #[.string KD, .string KN, .slice fo fn fc, .int .i64 LN], .string ⟨#[100, 111, 116, 115]⟩] w1 fun e w' => e = .returned (.int .i64 N0) /\ Below w1.heap.size w1 w') := HN0
        have HN1 := fun w1 (hb : Below W2.heap.size W2 w1) => number_sc b wBlank fo fn fc w1 (HL2.out.below hb) hv1 (HT2.out.below hb)
        obtain ⟨N1, hN1⟩ : ∃ N, Hid (((numberOf b wBlank : Nat) : Int) = N) := ⟨_, rfl⟩
        rw [hN1.out, hKD.out, hKN.out, hLN.out] at HN1
        replace HN1 : Hid (∀ w1 (_ : Below W2.heap.size W2 w1), Calls Tryz.prog 65 #[.agg #[.string KD, .string KN, .slice fo fn fc, .int .i64 LN], .string ⟨#[98, 108, 97, 110, 107]⟩] w1 fun e w' => e = .returned (.int .i64 N1) /\ Below w1.heap.size w1 w') := HN1
        have HN2 := fun w1 (hb : Below W2.heap.size W2 w1) => number_sc b wMarked fo fn fc w1 (HL2.out.below hb) hv2 (HT2.out.below hb)
        obtain ⟨N2, hN2⟩ : ∃ N, Hid (((numberOf b wMarked : Nat) : Int) = N) := ⟨_, rfl⟩
        rw [hN2.out, hKD.out, hKN.out, hLN.out] at HN2
        replace HN2 : Hid (∀ w1 (_ : Below W2.heap.size W2 w1), Calls Tryz.prog 65 #[.agg #[.string KD, .string KN, .slice fo fn fc, .int .i64 LN], .string ⟨#[109, 97, 114, 107, 101, 100]⟩] w1 fun e w' => e = .returned (.int .i64 N2) /\ Below w1.heap.size w1 w') := HN2
        have HB0 : Below W2.heap.size W2 W2 := Below.refl _ _
        have kk := Lib.hid (hst.out _ (kscan hk))
        clear HL1 HT1 BR1 AE1 BD1 hst hv0 hv1 hv2
        clear kscan kscanners kcontest kstyle kaudit kprivacy kother hob hk
        go_wp2_with fail
        clear e3 e4 f0 f1 f2 f3 f4 f5 f6 f7 c0 c1 c2 c3 i1
        go_region_held3 (fun w' => w'.cell? ⟨p, 0, none⟩ = some (.string KD) /\ w'.cell? ⟨p, 1, none⟩ = some (.string KN) /\ w'.cell? ⟨p, 2, none⟩ = some (.slice fo fn fc) /\ w'.cell? ⟨p, 3, none⟩ = some (.int .i64 LN)) (go_keep) (first
          | (go_at_call 65; (with_reducible refine (HN0.out W2 HB0).mono ?_); rintro e x0 ⟨rfl, D0⟩; have a0_0 := cell_keep u0 D0; have a0_1 := cell_keep u1 D0; have a0_2 := cell_keep u2 D0; have a0_3 := cell_keep u3 D0; have HB1 : Below W2.heap.size W2 x0 := HB0.trans (D0.mono HB0.size))
          | (go_at_call 65; (with_reducible refine (HN1.out x0 HB1).mono ?_); rintro e x1 ⟨rfl, D1⟩; have a1_0 := cell_keep a0_0 D1; have a1_1 := cell_keep a0_1 D1; have a1_2 := cell_keep a0_2 D1; have a1_3 := cell_keep a0_3 D1; have HB2 : Below W2.heap.size W2 x1 := HB1.trans (D1.mono HB1.size))
          | (go_at_call 65; (with_reducible refine (HN2.out x1 HB2).mono ?_); rintro e x2 ⟨rfl, D2⟩; have a2_0 := cell_keep a1_0 D2; have a2_1 := cell_keep a1_1 D2; have a2_2 := cell_keep a1_2 D2; have a2_3 := cell_keep a1_3 D2; have HB3 : Below W2.heap.size W2 x2 := HB2.trans (D2.mono HB2.size); obtain ⟨Z0, mm0, AZ0, GZ0, LZ0, q0, r0⟩ := set_box (AE2.out.kept HB3) 1 (.int .i64 N0) _ rfl; have b0_0 := cell_grown a2_0 hpg.out GZ0; have b0_1 := cell_grown a2_1 hpg.out GZ0; have b0_2 := cell_grown a2_2 hpg.out GZ0; have b0_3 := cell_grown a2_3 hpg.out GZ0; obtain ⟨Z1, mm1, AZ1, GZ1, LZ1, q1, r1⟩ := set_box AZ0 2 (.int .i64 N1) _ rfl; have b1_0 := cell_grown b0_0 hpg.out GZ1; have b1_1 := cell_grown b0_1 hpg.out GZ1; have b1_2 := cell_grown b0_2 hpg.out GZ1; have b1_3 := cell_grown b0_3 hpg.out GZ1; obtain ⟨Z2, mm2, AZ2, GZ2, LZ2, q2, r2⟩ := set_box AZ1 3 (.int .i64 N2) _ rfl; have b2_0 := cell_grown b1_0 hpg.out GZ2; have b2_1 := cell_grown b1_1 hpg.out GZ2; have b2_2 := cell_grown b1_2 hpg.out GZ2; have b2_3 := cell_grown b1_3 hpg.out GZ2))
        all_goals
          have BRx := (BR2.out.below HB3)
          have BRx := BRx.box (AE2.out.kept HB3) (by decide) GZ0
          have BRx := BRx.box AZ0 (by decide) GZ1
          have BRx := BRx.box AZ1 (by decide) GZ2
          have BRz := Lib.hid BRx
          have BZ : Hid (Below U.heap.size U Z2) := by
           have g0 := Nat.le_trans hg.out (Nat.le_refl g)
           exact (LZ2 _ _ (LZ1 _ _ (LZ0 _ _ (BD2.out.trans (HB3.mono BD2.out.size)) g0) g0) g0)
          have AZ : Hid (Arr Z2 g 34 (eC { EJ with dots := ((numberOf b wDots : Nat) : Int), blank := ((numberOf b wBlank : Nat) : Int), marked := ((numberOf b wMarked : Nat) : Int) } sl)) := by
           show Arr _ _ _ _
           rw [hN0.out, hN1.out, hN2.out]
           exact AZ2
          clear BRx AZ0 GZ0 LZ0 AZ1 GZ1 LZ1
          clear GZ2 LZ2
          go_wp2_with fail
          go_roundw
          case rel => exact ⟨j + 1, sl, by omega, by go_num, by rw [kk.out]; exact AZ.out, by rw [kk.out]; exact BRz.out.cast rfl rfl rfl rfl rfl rfl, BZ.out⟩
          case measure => simp [intOf]; omega
      rw [decide_eq_false hk] at qscan
      replace qscan : (KD.toList == [115, 99, 97, 110]) = false := qscan
      have nscan := hk
      clear hk
      by_cases hk : b.kind = kScanners
      . rw [decide_eq_true hk] at qscanners
        replace qscanners : (KD.toList == [115, 99, 97, 110, 110, 101, 114, 115]) = true := qscanners
        obtain ⟨hv0, hv1⟩ := hob.scanners hk
        have HN0 := fun w1 (hb : Below W2.heap.size W2 w1) => number_sc b wCount fo fn fc w1 (HL2.out.below hb) hv0 (HT2.out.below hb)
        obtain ⟨N0, hN0⟩ : ∃ N, Hid (((numberOf b wCount : Nat) : Int) = N) := ⟨_, rfl⟩
        rw [hN0.out, hKD.out, hKN.out, hLN.out] at HN0
        replace HN0 : Hid (∀ w1 (_ : Below W2.heap.size W2 w1), Calls Tryz.prog 65 #[.agg #[.string KD, .string KN, .slice fo fn fc, .int .i64 LN], .string ⟨#[99, 111, 117, 110, 116]⟩] w1 fun e w' => e = .returned (.int .i64 N0) /\ Below w1.heap.size w1 w') := HN0
        have HN1 := fun w1 (hb : Below W2.heap.size W2 w1) => number_sc b wBatch fo fn fc w1 (HL2.out.below hb) hv1 (HT2.out.below hb)
        obtain ⟨N1, hN1⟩ : ∃ N, Hid (((numberOf b wBatch : Nat) : Int) = N) := ⟨_, rfl⟩
        rw [hN1.out, hKD.out, hKN.out, hLN.out] at HN1
        replace HN1 : Hid (∀ w1 (_ : Below W2.heap.size W2 w1), Calls Tryz.prog 65 #[.agg #[.string KD, .string KN, .slice fo fn fc, .int .i64 LN], .string ⟨#[98, 97, 116, 99, 104]⟩] w1 fun e w' => e = .returned (.int .i64 N1) /\ Below w1.heap.size w1 w') := HN1
        have HB0 : Below W2.heap.size W2 W2 := Below.refl _ _
        have kk := Lib.hid (hst.out _ (kscanners hk))
        clear HL1 HT1 BR1 AE1 BD1 hst hv0 hv1 nscan
        clear kscan kscanners kcontest kstyle kaudit kprivacy kother hob hk
        go_wp2_with fail
        clear e3 e4 f0 f1 f2 f3 f4 f5 f6 f7 c0 c1 c2 c3 i1
        go_region_held3 (fun w' => w'.cell? ⟨p, 0, none⟩ = some (.string KD) /\ w'.cell? ⟨p, 1, none⟩ = some (.string KN) /\ w'.cell? ⟨p, 2, none⟩ = some (.slice fo fn fc) /\ w'.cell? ⟨p, 3, none⟩ = some (.int .i64 LN)) (go_keep) (first
          | (go_at_call 65; (with_reducible refine (HN0.out W2 HB0).mono ?_); rintro e x0 ⟨rfl, D0⟩; have a0_0 := cell_keep u0 D0; have a0_1 := cell_keep u1 D0; have a0_2 := cell_keep u2 D0; have a0_3 := cell_keep u3 D0; have HB1 : Below W2.heap.size W2 x0 := HB0.trans (D0.mono HB0.size))
          | (go_at_call 65; (with_reducible refine (HN1.out x0 HB1).mono ?_); rintro e x1 ⟨rfl, D1⟩; have a1_0 := cell_keep a0_0 D1; have a1_1 := cell_keep a0_1 D1; have a1_2 := cell_keep a0_2 D1; have a1_3 := cell_keep a0_3 D1; have HB2 : Below W2.heap.size W2 x1 := HB1.trans (D1.mono HB1.size); obtain ⟨Z0, mm0, AZ0, GZ0, LZ0, q0, r0⟩ := set_box (AE2.out.kept HB2) 7 (.int .i64 N0) _ rfl; have b0_0 := cell_grown a1_0 hpg.out GZ0; have b0_1 := cell_grown a1_1 hpg.out GZ0; have b0_2 := cell_grown a1_2 hpg.out GZ0; have b0_3 := cell_grown a1_3 hpg.out GZ0; obtain ⟨Z1, mm1, AZ1, GZ1, LZ1, q1, r1⟩ := set_box AZ0 8 (.int .i64 N1) _ rfl; have b1_0 := cell_grown b0_0 hpg.out GZ1; have b1_1 := cell_grown b0_1 hpg.out GZ1; have b1_2 := cell_grown b0_2 hpg.out GZ1; have b1_3 := cell_grown b0_3 hpg.out GZ1))
        all_goals
          have BRx := (BR2.out.below HB2)
          have BRx := BRx.box (AE2.out.kept HB2) (by decide) GZ0
          have BRx := BRx.box AZ0 (by decide) GZ1
          have BRz := Lib.hid BRx
          have BZ : Hid (Below U.heap.size U Z1) := by
           have g0 := Nat.le_trans hg.out (Nat.le_refl g)
           exact (LZ1 _ _ (LZ0 _ _ (BD2.out.trans (HB2.mono BD2.out.size)) g0) g0)
          have AZ : Hid (Arr Z1 g 34 (eC { EJ with scanners := ((numberOf b wCount : Nat) : Int), batch := ((numberOf b wBatch : Nat) : Int) } sl)) := by
           show Arr _ _ _ _
           rw [hN0.out, hN1.out]
           exact AZ1
          clear BRx AZ0 GZ0 LZ0
          clear GZ1 LZ1
          go_wp2_with fail
          go_roundw
          case rel => exact ⟨j + 1, sl, by omega, by go_num, by rw [kk.out]; exact AZ.out, by rw [kk.out]; exact BRz.out.cast rfl rfl rfl rfl rfl rfl, BZ.out⟩
          case measure => simp [intOf]; omega
      rw [decide_eq_false hk] at qscanners
      replace qscanners : (KD.toList == [115, 99, 97, 110, 110, 101, 114, 115]) = false := qscanners
      have nscanners := hk
      clear hk
      by_cases hk : b.kind = kContest
      . rw [decide_eq_true hk] at qcontest
        replace qcontest : (KD.toList == [99, 111, 110, 116, 101, 115, 116]) = true := qcontest
        obtain ⟨hv0, hl0⟩ := hob.contest hk
        have HN0 := buildContest_c b fo fn fc W2 HL2.out hv0 HT2.out hl0
        obtain ⟨M0, hM0⟩ : ∃ N, Hid ((mkCst b).method = N) := ⟨_, rfl⟩
        obtain ⟨M1, hM1⟩ : ∃ N, Hid ((mkCst b).seats = N) := ⟨_, rfl⟩
        obtain ⟨M2, hM2⟩ : ∃ N, Hid ((mkCst b).ranks = N) := ⟨_, rfl⟩
        obtain ⟨M3, hM3⟩ : ∃ N, Hid ((mkCst b).digits = N) := ⟨_, rfl⟩
        obtain ⟨M4, hM4⟩ : ∃ N, Hid ((mkCst b).ties = N) := ⟨_, rfl⟩
        obtain ⟨M5, hM5⟩ : ∃ N, Hid ((mkCst b).over = N) := ⟨_, rfl⟩
        obtain ⟨M6, hM6⟩ : ∃ N, Hid ((mkCst b).skip = N) := ⟨_, rfl⟩
        rw [hKD.out, hKN.out, hLN.out, hM0.out, hM1.out, hM2.out, hM3.out, hM4.out, hM5.out, hM6.out] at HN0
        replace HN0 := Lib.hid HN0
        have kk := Lib.hid (hst.out _ (kcontest hk))
        have y1 : W2.cell? ⟨g, 5, none⟩ = some (.slice sl.co sl.cn sl.cc) := AE2.out.cell 5
        clear HL1 HT1 BR1 AE1 BD1 hst hv0 hl0
        clear kscan kscanners kcontest kstyle kaudit kprivacy kother hob hk nscan nscanners
        go_wp2_with fail
        clear e3 e4 f0 f1 f2 f3 f4 f5 f6 f7 c0 c1 c2 c3 i1
        go_region_law (first
          | (refine step_appK (vs := [.string KN, .slice xo xn xc, .int .i64 M0, .int .i64 M1, .int .i64 M2, .int .i64 M3, .int .i64 M4, .int .i64 M5, .int .i64 M6]) Tryz.underlying27 infoCt rfl (by decide) (by decide) _ _ rfl rfl e7 OC6 hB6 hb1 rfl (by intro u hu; simp at hu; rcases hu with rfl | rfl | rfl | rfl | rfl | rfl | rfl | rfl | rfl <;> rfl) rfl rfl ?_; intro ao3 d3 w7 O3 G3 B3; have AE7 := AE6.row OC6 (by decide) G3; have BR7 := BR6.contest OC6 CC6 hx O3 G3; obtain ⟨Z0, mm0, AZ0, GZ0, LZ0, q0, r0⟩ := set_box AE7 5 (.slice ao3 (sl.cn + 1) d3) _ rfl)
          | (go_simp; go_at_call 66; refine HN0.out.mono ?_; rintro e w6 ⟨xo, xn, xc, rfl, XC, D6⟩; have AE6 := AE2.out.kept D6; have BR6 := BR2.out.below D6; obtain ⟨us, OC6, CC6⟩ := BR6.conts; have y2 : w6.cell? ⟨g, 5, none⟩ = some (.slice sl.co sl.cn sl.cc) := AE6.cell 5; obtain ⟨X, e7, _, BX7, _⟩ := new_box w6 76 [.string KN, .slice xo xn xc, .int .i64 M0, .int .i64 M1, .int .i64 M2, .int .i64 M3, .int .i64 M4, .int .i64 M5, .int .i64 M6]; have y3 : X.cell? ⟨g, 5, none⟩ = some (.slice sl.co sl.cn sl.cc) := (AE6.kept BX7).cell 5; have hB6 : U.heap.size <= w6.heap.size := Nat.le_trans BD2.out.size D6.size; have hx : CC (ownF U.heap.size [9]) w6 [mkCst b] [.string KN, .slice xo xn xc, .int .i64 M0, .int .i64 M1, .int .i64 M2, .int .i64 M3, .int .i64 M4, .int .i64 M5, .int .i64 M6] := ⟨xo, xn, xc, [], by rw [<- hKN.out, <- hM0.out, <- hM1.out, <- hM2.out, <- hM3.out, <- hM4.out, <- hM5.out, <- hM6.out]; rfl, own_lower XC BD2.out.size, rfl⟩))
        all_goals
          have BRz := Lib.hid (BR7.box AE7 (by decide) GZ0)
          have BZ : Hid (Below U.heap.size U Z0) := LZ0 _ _ ((BD2.out.trans (D6.mono BD2.out.size)).trans B3) hg.out
          have AZ := Lib.hid AZ0
          clear AZ0 GZ0 LZ0 BR7 AE7 O3 G3 B3 hx BX7 OC6 CC6 BR6 AE6 XC D6 HN0
          go_wp2_with fail
          go_roundw
          case rel => exact ⟨j + 1, { sl with co := ao3, cn := sl.cn + 1, cc := d3 }, by omega, by go_num, by rw [kk.out]; exact AZ.out, by rw [kk.out]; exact BRz.out, BZ.out⟩
          case measure => simp [intOf]; omega
      rw [decide_eq_false hk] at qcontest
      replace qcontest : (KD.toList == [99, 111, 110, 116, 101, 115, 116]) = false := qcontest
      have ncontest := hk
      clear hk
      by_cases hk : b.kind = kStyle
      . rw [decide_eq_true hk] at qstyle
        replace qstyle : (KD.toList == [115, 116, 121, 108, 101]) = true := qstyle
        obtain ⟨hv0, hl0⟩ := hob.style hk
        have hEP : EJ.precs = P := by rw [<- hEJ]; rfl
        have HN0 := buildStyle_c P C b sl.po qo fo sl.pn sl.pc qn qc fn fc W2 (by rw [<- hEP]; exact Row.mono BR2.out.precs any_of) (Row.mono BR2.out.names any_of) HL2.out hv0 hl0
        rw [hKD.out, hKN.out, hLN.out] at HN0
        replace HN0 := Lib.hid HN0
        have kk := Lib.hid (hst.out _ (kstyle hk))
        have y1 : W2.cell? ⟨g, 6, none⟩ = some (.slice sl.so sl.sn sl.sc) := AE2.out.cell 6
        have y4 : W2.cell? ⟨g, 4, none⟩ = some (.slice sl.po sl.pn sl.pc) := AE2.out.cell 4
        clear HL1 HT1 BR1 AE1 BD1 hst hv0 hl0 hEP
        clear kscan kscanners kcontest kstyle kaudit kprivacy kother hob hk nscan nscanners ncontest
        go_wp2_with fail
        clear e3 e4 f0 f1 f2 f3 f4 f5 f6 f7 c0 c1 c2 c3 i1
        go_region_law (first
          | (refine step_appK (vs := [.string KN, .slice xo xn xc, .slice yo yn yc]) Tryz.underlying28 infoSt rfl (by decide) (by decide) _ _ rfl rfl e7 OC6 hB6 hb2 rfl (by intro u hu; simp at hu; rcases hu with rfl | rfl | rfl <;> rfl) rfl rfl ?_; intro ao3 d3 w7 O3 G3 B3; have AE7 := AE6.row OC6 (by decide) G3; have BR7 := BR6.style OC6 CC6 hx O3 G3; obtain ⟨Z0, mm0, AZ0, GZ0, LZ0, q0, r0⟩ := set_box AE7 6 (.slice ao3 (sl.sn + 1) d3) _ rfl)
          | (go_simp; go_at_call 67; refine HN0.out.mono ?_; rintro e w6 ⟨xo, xn, xc, yo, yn, yc, rfl, XC, YC, D6⟩; have AE6 := AE2.out.kept D6; have BR6 := BR2.out.below D6; obtain ⟨us, OC6, CC6⟩ := BR6.stys; have y2 : w6.cell? ⟨g, 6, none⟩ = some (.slice sl.so sl.sn sl.sc) := AE6.cell 6; obtain ⟨X, e7, _, BX7, _⟩ := new_box w6 60 [.string KN, .slice xo xn xc, .slice yo yn yc]; have y3 : X.cell? ⟨g, 6, none⟩ = some (.slice sl.so sl.sn sl.sc) := (AE6.kept BX7).cell 6; have hB6 : U.heap.size <= w6.heap.size := Nat.le_trans BD2.out.size D6.size; have hx : TC (ownF U.heap.size [3]) w6 [mkSty P C b] [.string KN, .slice xo xn xc, .slice yo yn yc] := ⟨xo, xn, xc, yo, yn, yc, [], by rw [<- hKN.out]; rfl, own_lower XC BD2.out.size, own_lower YC BD2.out.size, rfl⟩))
        all_goals
          have BRz := Lib.hid (BR7.box AE7 (by decide) GZ0)
          have BZ : Hid (Below U.heap.size U Z0) := LZ0 _ _ ((BD2.out.trans (D6.mono BD2.out.size)).trans B3) hg.out
          have AZ := Lib.hid AZ0
          clear AZ0 GZ0 LZ0 BR7 AE7 O3 G3 B3 hx BX7 OC6 CC6 BR6 AE6 XC YC D6 HN0
          go_wp2_with fail
          go_roundw
          case rel => exact ⟨j + 1, { sl with so := ao3, sn := sl.sn + 1, sc := d3 }, by omega, by go_num, by rw [kk.out]; exact AZ.out, by rw [kk.out]; exact BRz.out, BZ.out⟩
          case measure => simp [intOf]; omega
      rw [decide_eq_false hk] at qstyle
      replace qstyle : (KD.toList == [115, 116, 121, 108, 101]) = false := qstyle
      have nstyle := hk
      clear hk
      by_cases hk : b.kind = kAudit
      . rw [decide_eq_true hk] at qaudit
        replace qaudit : (KD.toList == [97, 117, 100, 105, 116]) = true := qaudit
        obtain ⟨hv0, hl0⟩ := hob.audit hk
        have HN0 := fun w1 (hb : Below W2.heap.size W2 w1) => value_sc b wRisk fo fn fc w1 (HL2.out.below hb)
        have HN1 := fun w1 (hb : Below W2.heap.size W2 w1) => toRatio_w (valueOf b wRisk) w1 hv0 hl0 (HT2.out.below hb)
        have HN2 := fun w1 (hb : Below W2.heap.size W2 w1) => value_sc b wSeed fo fn fc w1 (HL2.out.below hb)
        obtain ⟨N0, hN0⟩ : ∃ N, Hid (stg (valueOf b wRisk) = N) := ⟨_, rfl⟩
        obtain ⟨N2, hN2⟩ : ∃ N, Hid (stg (valueOf b wSeed) = N) := ⟨_, rfl⟩
        have kk := kaudit hk
        obtain ⟨FR, hFR⟩ : ∃ N, fracR (valueOf b wRisk) = N := ⟨_, rfl⟩
        rw [hFR] at HN1 kk
        rw [hN0.out] at HN1
        rw [hN0.out, hKD.out, hKN.out, hLN.out] at HN0
        rw [hN2.out, hKD.out, hKN.out, hLN.out] at HN2
        replace HN0 : Hid (∀ w1 (_ : Below W2.heap.size W2 w1), Calls Tryz.prog 69 #[.agg #[.string KD, .string KN, .slice fo fn fc, .int .i64 LN], .string ⟨#[114, 105, 115, 107]⟩] w1 fun e w' => e = .returned (.string N0) /\ Below w1.heap.size w1 w') := HN0
        replace HN2 : Hid (∀ w1 (_ : Below W2.heap.size W2 w1), Calls Tryz.prog 69 #[.agg #[.string KD, .string KN, .slice fo fn fc, .int .i64 LN], .string ⟨#[115, 101, 101, 100]⟩] w1 fun e w' => e = .returned (.string N2) /\ Below w1.heap.size w1 w') := HN2
        replace HN1 := Lib.hid HN1
        have HB0 : Below W2.heap.size W2 W2 := Below.refl _ _
        replace kk := Lib.hid (hst.out _ kk)
        clear HL1 HT1 BR1 AE1 BD1 hst hv0 hl0 hFR
        clear kscan kscanners kcontest kstyle kaudit kprivacy kother hob hk nscan nscanners ncontest nstyle
        go_wp2_with fail
        clear e3 e4 f0 f1 f2 f3 f4 f5 f6 f7 c0 c1 c2 c3 i1
        go_region_held3 (fun w' => w'.cell? ⟨p, 0, none⟩ = some (.string KD) /\ w'.cell? ⟨p, 1, none⟩ = some (.string KN) /\ w'.cell? ⟨p, 2, none⟩ = some (.slice fo fn fc) /\ w'.cell? ⟨p, 3, none⟩ = some (.int .i64 LN)) (go_keep) (first
          | (go_at_call 69; (with_reducible refine (HN0.out W2 HB0).mono ?_); rintro e x0 ⟨rfl, D0⟩; have a0_0 := cell_keep u0 D0; have a0_1 := cell_keep u1 D0; have a0_2 := cell_keep u2 D0; have a0_3 := cell_keep u3 D0; have HB1 : Below W2.heap.size W2 x0 := HB0.trans (D0.mono HB0.size))
          | (go_at_call 68; (with_reducible refine (HN1.out x0 HB1).mono ?_); rintro e x1 ⟨rs, ra, rn, rc, rb, rm, rd, rfl, ⟨Br, hBr, RW⟩, D1⟩; have a1_0 := cell_keep a0_0 D1; have a1_1 := cell_keep a0_1 D1; have a1_2 := cell_keep a0_2 D1; have a1_3 := cell_keep a0_3 D1; have HB2 : Below W2.heap.size W2 x1 := HB1.trans (D1.mono HB1.size))
          | (go_at_call 69; (with_reducible refine (HN2.out x1 HB2).mono ?_); rintro e x2 ⟨rfl, D2⟩; have a2_0 := cell_keep a1_0 D2; have a2_1 := cell_keep a1_1 D2; have a2_2 := cell_keep a1_2 D2; have a2_3 := cell_keep a1_3 D2; have HB3 : Below W2.heap.size W2 x2 := HB2.trans (D2.mono HB2.size); obtain ⟨Z0, mm0, AZ0, GZ0, LZ0, q0, r0⟩ := set_box (AE2.out.kept HB3) 9 (.bool rs) _ rfl; have b0_0 := cell_grown a2_0 hpg.out GZ0; have b0_1 := cell_grown a2_1 hpg.out GZ0; have b0_2 := cell_grown a2_2 hpg.out GZ0; have b0_3 := cell_grown a2_3 hpg.out GZ0; obtain ⟨Z1, mm1, AZ1, GZ1, LZ1, q1, r1⟩ := set_box AZ0 10 (.slice ra rn rc) _ rfl; have b1_0 := cell_grown b0_0 hpg.out GZ1; have b1_1 := cell_grown b0_1 hpg.out GZ1; have b1_2 := cell_grown b0_2 hpg.out GZ1; have b1_3 := cell_grown b0_3 hpg.out GZ1; obtain ⟨Z2, mm2, AZ2, GZ2, LZ2, q2, r2⟩ := set_box AZ1 11 (.slice rb rm rd) _ rfl; have b2_0 := cell_grown b1_0 hpg.out GZ2; have b2_1 := cell_grown b1_1 hpg.out GZ2; have b2_2 := cell_grown b1_2 hpg.out GZ2; have b2_3 := cell_grown b1_3 hpg.out GZ2; obtain ⟨Z3, mm3, AZ3, GZ3, LZ3, q3, r3⟩ := set_box AZ2 13 (.string N2) _ rfl; have b3_0 := cell_grown b2_0 hpg.out GZ3; have b3_1 := cell_grown b2_1 hpg.out GZ3; have b3_2 := cell_grown b2_2 hpg.out GZ3; have b3_3 := cell_grown b2_3 hpg.out GZ3))
        all_goals
          have BRx := (((((BR2.out.below HB3).box (AE2.out.kept HB3) (by decide) GZ0).box AZ0 (by decide) GZ1).box AZ1 (by decide) GZ2).box AZ2 (by decide) GZ3)
          have kx : Keeps (ownF U.heap.size [144]) x2 Z3 := keeps_boxes (AE2.out.kept HB3) AZ0 AZ1 AZ2 (by decide) GZ0 GZ1 GZ2 GZ3
          have hBU : U.heap.size <= Br := Nat.le_trans BD2.out.size (Nat.le_trans HB1.size hBr)
          have num : IntL .u32 (ownF U.heap.size [144]) Z3 ra rn rc (Q.NatMath.limbs FR.p) := (keep_own (own_lower (Row.own RW.2.1.1 (by decide)) hBU) D2).keep (stable_own _ _) kx
          have den : IntL .u32 (ownF U.heap.size [144]) Z3 rb rm rd (Q.NatMath.limbs FR.q) := (keep_own (own_lower (Row.own RW.2.2.1.1 (by decide)) hBU) D2).keep (stable_own _ _) kx
          have hrs : rs = FR.s := RW.1
          have BRz : Hid (BRw U.heap.size Z3 { EJ with rneg := FR.s, rnum := Q.NatMath.limbs FR.p, rden := Q.NatMath.limbs FR.q, seed := valueOf b wSeed } { sl with uo := ra, un := rn, uc := rc, dO := rb, dn := rm, dc := rd } C qo qn qc) := ⟨BRx.precs, BRx.conts, BRx.stys, num, den, BRx.names⟩
          have BZ : Hid (Below U.heap.size U Z3) := LZ3 _ _ (LZ2 _ _ (LZ1 _ _ (LZ0 _ _ (BD2.out.trans (HB3.mono BD2.out.size)) hg.out) hg.out) hg.out) hg.out
          have AZ : Hid (Arr Z3 g 34 (eC { EJ with rneg := FR.s, rnum := Q.NatMath.limbs FR.p, rden := Q.NatMath.limbs FR.q, seed := valueOf b wSeed } { sl with uo := ra, un := rn, uc := rc, dO := rb, dn := rm, dc := rd })) := by
           show Arr _ _ _ _
           unfold eC
           rw [hN2.out, <- hrs]
           exact AZ3
          clear BRx kx num den hrs RW AZ0 AZ1 AZ2 AZ3 GZ0 GZ1 GZ2 GZ3 LZ0 LZ1 LZ2 LZ3
          go_wp2_with fail
          go_roundw
          case rel => exact ⟨j + 1, _, by omega, by go_num, by rw [kk.out]; exact AZ.out, by rw [kk.out]; exact BRz.out, BZ.out⟩
          case measure => simp [intOf]; omega
      rw [decide_eq_false hk] at qaudit
      replace qaudit : (KD.toList == [97, 117, 100, 105, 116]) = false := qaudit
      have naudit := hk
      clear hk
      by_cases hk : b.kind = kPrivacy
      . rw [decide_eq_true hk] at qprivacy
        replace qprivacy : (KD.toList == [112, 114, 105, 118, 97, 99, 121]) = true := qprivacy
        have hv0 := hob.privacy hk
        have HN0 := number_sc b wCell fo fn fc W1 HL1.out hv0 HT1.out
        obtain ⟨N0, hN0⟩ : ∃ N, Hid (((numberOf b wCell : Nat) : Int) = N) := ⟨_, rfl⟩
        rw [hN0.out, hKD.out, hKN.out, hLN.out] at HN0
        replace HN0 : Hid (Calls Tryz.prog 65 #[.agg #[.string KD, .string KN, .slice fo fn fc, .int .i64 LN], .string ⟨#[99, 101, 108, 108]⟩] W1 fun e w' => e = .returned (.int .i64 N0) /\ Below W1.heap.size W1 w') := HN0
        have kk := Lib.hid (hst.out _ (kprivacy hk))
        clear HL1 HT1 HL2 HT2 BR2 AE2 AW2 BD2 hob hv0 kscan kscanners kcontest kstyle kaudit kprivacy kother hk hst nscan nscanners ncontest nstyle naudit
        go_wp2_with fail
        clear e3 e4 f0 f1 f2 f3 f4 f5 f6 f7 c0 c1 c2 c3 i1
        refine HN0.out.mono ?_
        rintro e x0 ⟨rfl, D0⟩
        obtain ⟨Z0, mm0, AZ0, GZ0, LZ0, q0, r0⟩ := set_box (AE1.out.kept D0) 12 (.int .i64 N0) _ rfl
        have BRz := Lib.hid ((BR1.out.below D0).box (AE1.out.kept D0) (by decide) GZ0)
        have BZ : Hid (Below U.heap.size U Z0) := LZ0 _ _ (BD1.out.trans (D0.mono BD1.out.size)) hg.out
        have AZ : Hid (Arr Z0 g 34 (eC { EJ with cell := ((numberOf b wCell : Nat) : Int) } sl)) := by
         show Arr _ _ _ _
         rw [hN0.out]
         exact AZ0
        clear AZ0 GZ0 LZ0 D0 HN0
        go_wp2_with fail
        go_roundw
        case rel => exact ⟨j + 1, sl, by omega, by go_num, by rw [kk.out]; exact AZ.out, by rw [kk.out]; exact BRz.out.cast rfl rfl rfl rfl rfl rfl, BZ.out⟩
        case measure => simp [intOf]; omega
      rw [decide_eq_false hk] at qprivacy
      replace qprivacy : (KD.toList == [112, 114, 105, 118, 97, 99, 121]) = false := qprivacy
      have nprivacy := hk
      clear hk
      have kk := Lib.hid (hst.out _ (kother nscan nscanners ncontest nstyle naudit nprivacy))
      clear HL1 HT1 HL2 HT2 BR2 AE2 AW2 BD2 hob kscan kscanners kcontest kstyle kaudit kprivacy kother nscan nscanners ncontest nstyle naudit nprivacy hst
      go_wp2_with fail
      clear e3 e4 f0 f1 f2 f3 f4 f5 f6 f7 c0 c1 c2 c3 i1
      go_roundw
      case rel => exact ⟨j + 1, sl, by omega, by go_num, by rw [kk.out]; exact AE1.out, by rw [kk.out]; exact BR1.out, BD1.out⟩
      case measure => simp [intOf]; omega
    . have hlt' : ¬ (j : Int) < (n : Int) := by omega
      have hjn : BS.take j = BS := List.take_of_length_le (by have := hlen.out; omega)
      rw [hjn] at AE BR
      rw [hEF.out] at AE BR
      have l0 : w2.cell? ⟨g, 0, none⟩ = some (.string (stg EF.title)) := AE.cell 0
      have l1 : w2.cell? ⟨g, 1, none⟩ = some (.int .i64 EF.dots) := AE.cell 1
      have l2 : w2.cell? ⟨g, 2, none⟩ = some (.int .i64 EF.blank) := AE.cell 2
      have l3 : w2.cell? ⟨g, 3, none⟩ = some (.int .i64 EF.marked) := AE.cell 3
      have l4 : w2.cell? ⟨g, 4, none⟩ = some (.slice sl.po sl.pn sl.pc) := AE.cell 4
      have l5 : w2.cell? ⟨g, 5, none⟩ = some (.slice sl.co sl.cn sl.cc) := AE.cell 5
      have l6 : w2.cell? ⟨g, 6, none⟩ = some (.slice sl.so sl.sn sl.sc) := AE.cell 6
      have l7 : w2.cell? ⟨g, 7, none⟩ = some (.int .i64 EF.scanners) := AE.cell 7
      have l8 : w2.cell? ⟨g, 8, none⟩ = some (.int .i64 EF.batch) := AE.cell 8
      have l9 : w2.cell? ⟨g, 9, none⟩ = some (.bool EF.rneg) := AE.cell 9
      have l10 : w2.cell? ⟨g, 10, none⟩ = some (.slice sl.uo sl.un sl.uc) := AE.cell 10
      have l11 : w2.cell? ⟨g, 11, none⟩ = some (.slice sl.dO sl.dn sl.dc) := AE.cell 11
      have l12 : w2.cell? ⟨g, 12, none⟩ = some (.int .i64 EF.cell) := AE.cell 12
      have l13 : w2.cell? ⟨g, 13, none⟩ = some (.string (stg EF.seed)) := AE.cell 13
      obtain ⟨X9_0, X9_1, X9_2, X9_3, X9_4, X9_5, X9_6, X9_7, X9_8, X9_9, X9_10, X9_11, X9_12, X9, m7_0, m7_1, m7_2, m7_3, m7_4, m7_5, m7_6, m7_7, m7_8, m7_9, m7_10, m7_11, m7_12, m7_13, AX, GX, LX, q0, q1, q2, q3, q4, q5, q6, q7, q8, q9, q10, q11, q12, q13, q14, q15, q16, q17, q18, q19, q20, q21, q22, q23, q24, q25, q26, q27⟩ := box_let14 (A1.out.kept B) (.string (stg EF.title)) (.int .i64 EF.dots) (.int .i64 EF.blank) (.int .i64 EF.marked) (.slice sl.po sl.pn sl.pc) (.slice sl.co sl.cn sl.cc) (.slice sl.so sl.sn sl.sc) (.int .i64 EF.scanners) (.int .i64 EF.batch) (.bool EF.rneg) (.slice sl.uo sl.un sl.uc) (.slice sl.dO sl.dn sl.dc) (.int .i64 EF.cell) (.string (stg EF.seed))
      have rr0 : X9.cell? ⟨bb + 1, 0, none⟩ = some (.string (stg EF.title)) := AX.cell 0
      have rr1 : X9.cell? ⟨bb + 1, 1, none⟩ = some (.int .i64 EF.dots) := AX.cell 1
      have rr2 : X9.cell? ⟨bb + 1, 2, none⟩ = some (.int .i64 EF.blank) := AX.cell 2
      have rr3 : X9.cell? ⟨bb + 1, 3, none⟩ = some (.int .i64 EF.marked) := AX.cell 3
      have rr4 : X9.cell? ⟨bb + 1, 4, none⟩ = some (.slice sl.po sl.pn sl.pc) := AX.cell 4
      have rr5 : X9.cell? ⟨bb + 1, 5, none⟩ = some (.slice sl.co sl.cn sl.cc) := AX.cell 5
      have rr6 : X9.cell? ⟨bb + 1, 6, none⟩ = some (.slice sl.so sl.sn sl.sc) := AX.cell 6
      have rr7 : X9.cell? ⟨bb + 1, 7, none⟩ = some (.int .i64 EF.scanners) := AX.cell 7
      have rr8 : X9.cell? ⟨bb + 1, 8, none⟩ = some (.int .i64 EF.batch) := AX.cell 8
      have rr9 : X9.cell? ⟨bb + 1, 9, none⟩ = some (.bool EF.rneg) := AX.cell 9
      have rr10 : X9.cell? ⟨bb + 1, 10, none⟩ = some (.slice sl.uo sl.un sl.uc) := AX.cell 10
      have rr11 : X9.cell? ⟨bb + 1, 11, none⟩ = some (.slice sl.dO sl.dn sl.dc) := AX.cell 11
      have rr12 : X9.cell? ⟨bb + 1, 12, none⟩ = some (.int .i64 EF.cell) := AX.cell 12
      have rr13 : X9.cell? ⟨bb + 1, 13, none⟩ = some (.string (stg EF.seed)) := AX.cell 13
      have BX : Hid (Below w.heap.size w X9) := LX _ _ (HB.out.trans (B.mono HB.out.size)) hle.out
      have BRx := BR.box (A1.out.kept B) (by decide) GX
      have ES : Hid (ElcS (highF w.heap.size) X9 EF sl) := by
       obtain ⟨us, h1, h2⟩ := BRx.conts
       obtain ⟨vs, h3, h4⟩ := BRx.stys
       exact ⟨Row.mono BRx.precs (high_of hlo.out), ⟨us, Row.mono (Row.own h1 (by decide)) (high_of hlo.out), h2.mono (high_of hlo.out)⟩, ⟨vs, Row.mono (Row.own h3 (by decide)) (high_of hlo.out), h4.mono (high_of hlo.out)⟩, Row.mono BRx.num (high_of hlo.out), Row.mono BRx.den (high_of hlo.out)⟩
      clear BRx AX GX LX AE BR B hjn
      go_wp2_with fail
      refine bodyPost_ret (v := eV EF sl) (by simp [results, Tryz.results28, go_sem, eV, eC, rr0, rr1, rr2, rr3, rr4, rr5, rr6, rr7, rr8, rr9, rr10, rr11, rr12, rr13]) rfl ?_
      exact ⟨sl, rfl, by first | exact ES.out | (rw [<- hbb]; exact ES.out), by first | exact BX.out | (rw [<- hbb]; exact BX.out)⟩
end Go.Proofs.YtemdkkphmldgjaaGreatDoor
