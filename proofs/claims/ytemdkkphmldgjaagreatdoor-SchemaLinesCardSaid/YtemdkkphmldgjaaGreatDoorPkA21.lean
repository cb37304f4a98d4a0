/-
  Texts of the proof, put together: SchBldS SchBldC SchDsc SchDs1 SynReg.
-/
import Derived.Lib.ItoaNum
import Derived.Deep.RegionHeld3
import Derived.Test.YtemdkkphmldgjaaGreatDoorPkA5
import Derived.Test.YtemdkkphmldgjaaGreatDoorPkA7
import Derived.Test.YtemdkkphmldgjaaGreatDoorPkA10
import Derived.Test.YtemdkkphmldgjaaGreatDoorPkA11
import Derived.Test.YtemdkkphmldgjaaGreatDoorPkA17
import Derived.Test.YtemdkkphmldgjaaGreatDoorPkA18
import Derived.Test.YtemdkkphmldgjaaGreatDoorPkA20
set_option maxRecDepth 100000
set_option maxHeartbeats 25600000
namespace Go.Proofs.YtemdkkphmldgjaaGreatDoor
open Go.RowKit Lx
theorem keep_own {B : Nat} {Es : List TypeId} {s n c : Nat} {ao : Option Addr} {us : List Value} {w w' : World} (h : Row (ownF B Es) s w ao n c us) (hb : Below w.heap.size w w') : Row (ownF B Es) s w' ao n c us := h.keep (stable_own _ _) (keeps_below _ hb)
theorem own_lower {B B' : Nat} {Es : List TypeId} {s n c : Nat} {ao : Option Addr} {us : List Value} {w : World} (h : Row (ownF B Es) s w ao n c us) (hB : B' <= B) : Row (ownF B' Es) s w ao n c us := h.mono fun _ ⟨h1, h2⟩ => ⟨Nat.le_trans hB h1, h2⟩
theorem cell_put3 {w Z : World} {g b i : Nat} {u0 u1 u2 v : Value} (h : w.cell? ⟨b, i, none⟩ = some v) (hb : b ≠ g) (hZ : Hid (Z = put3 w g u0 u1 u2)) : Z.cell? ⟨b, i, none⟩ = some v := by
 rw [hZ.out]
 unfold put3
 have k : ∀ j, (⟨g, j, none⟩ : Addr) ≠ ⟨b, i, none⟩ := fun j e => hb (congrArg Addr.block e).symm
 rw [World.cell?_setCell_other _ _ _ _ (by first | exact k 2 | exact (k 2).symm), World.cell?_setCell_other _ _ _ _ (by first | exact k 1 | exact (k 1).symm), World.cell?_setCell_other _ _ _ _ (by first | exact k 0 | exact (k 0).symm)]
 exact h
theorem buildStyle_c (P C : List (List UInt8)) (b : SBlc) (po qo fo : Option Addr) (pn pc qn qc fn fc : Nat) (w : World) (hP : StrL anyF w po pn pc P) (hC : StrL anyF w qo qn qc C) (h : FldS anyF w fo fn fc b.flds)
    (h1 : (fldOr b kPrecincts).vals.length <= 4000000) (h2 : (fldOr b wContests).vals.length <= 4000000) :
    Calls Tryz.prog 67 #[.agg #[.string (stg b.kind), .string (stg b.name), .slice fo fn fc, .int .i64 b.line], .slice po pn pc, .slice qo qn qc] w fun e w' => ∃ xo xn xc yo yn yc, e = .returned (.agg #[.string (stg b.name), .slice xo xn xc, .slice yo yn yc]) /\
      IntL .i64 (ownF w.heap.size [3]) w' xo xn xc (mkSty P C b).precs /\ IntL .i64 (ownF w.heap.size [3]) w' yo yn yc (mkSty P C b).conts /\ Below w.heap.size w w' := by
 obtain ⟨V, e1, AV, BV, hz⟩ := new_box w 55 [.string (stg b.kind), .string (stg b.name), .slice fo fn fc, .int .i64 b.line]
 obtain ⟨U, e2, AU, BU, hz2⟩ := new_box V 60 [.string ⟨#[]⟩, .slice none 0 0, .slice none 0 0]
 have hm : (mkSty P C b).precs = (fldOr b kPrecincts).vals.map (idxI P) /\ (mkSty P C b).conts = (fldOr b wContests).vals.map (idxI C) := by
  unfold mkSty
  rw [valuesOf_or, valuesOf_or]
  exact ⟨rfl, rfl⟩
 rw [hm.1, hm.2]
 have HL := Lib.hid ((h.below BV).below BU)
 have HPU := Lib.hid (StrL.below (StrL.below hP BV) BU)
 have HCU := Lib.hid (StrL.below (StrL.below hC BV) BU)
 have HF1 := fun w1 (hb : Below U.heap.size U w1) => fieldOf_c b kPrecincts fo fn fc w1 (HL.out.below hb)
 have HF2 := fun w1 (hb : Below U.heap.size U w1) => fieldOf_c b wContests fo fn fc w1 (HL.out.below hb)
 have HI1 := fun vo vn vc w1 (hb : Below U.heap.size U w1) (hv : StrL anyF w1 vo vn vc (fldOr b kPrecincts).vals) => indices_c P _ po vo pn pc vn vc w1 (StrL.below HPU.out hb) hv (by rw [<- StrL.len hv]; exact h1)
 have HI2 := fun vo vn vc w1 (hb : Below U.heap.size U w1) (hv : StrL anyF w1 vo vn vc (fldOr b wContests).vals) => indices_c C _ qo vo qn qc vn vc w1 (StrL.below HCU.out hb) hv (by rw [<- StrL.len hv]; exact h2)
 obtain ⟨F1, hF1⟩ : ∃ F, fldOr b kPrecincts = F := ⟨_, rfl⟩
 obtain ⟨F2, hF2⟩ : ∃ F, fldOr b wContests = F := ⟨_, rfl⟩
 rw [hF1] at HF1 HI1 |-
 rw [hF2] at HF2 HI2 |-
 obtain ⟨bb, hbb⟩ : ∃ b, w.heap.size = b := ⟨_, rfl⟩
 rw [hbb] at AV hz
 rw [hz] at AU
 have A0 := Lib.hid (AV.kept BU)
 have A1 := Lib.hid AU
 have HB : Hid (Below w.heap.size w U) := BV.trans (BU.mono BV.size)
 have hle : Hid (w.heap.size <= bb + 1) := by show _ <= _; omega
 have hne : Hid (bb ≠ bb + 1) := by show _ ≠ _; omega
 have hlo : Hid (w.heap.size <= U.heap.size) := HB.out.size
 obtain ⟨KD, hKD⟩ : ∃ K, Hid (stg b.kind = K) := ⟨_, rfl⟩
 obtain ⟨KN, hKN⟩ : ∃ K, Hid (stg b.name = K) := ⟨_, rfl⟩
 obtain ⟨LN, hLN⟩ : ∃ K, Hid (b.line = K) := ⟨_, rfl⟩
 obtain ⟨KF1, hKF1⟩ : ∃ K, Hid (stg F1.key = K) := ⟨_, rfl⟩
 obtain ⟨KF2, hKF2⟩ : ∃ K, Hid (stg F2.key = K) := ⟨_, rfl⟩
 rw [hKD.out, hKN.out, hLN.out] at e1 A0
 rw [hKD.out, hKN.out, hLN.out, hKF1.out] at HF1
 rw [hKD.out, hKN.out, hLN.out, hKF2.out] at HF2
 rw [hKD.out, hKN.out, hLN.out]
 have y0 : U.cell? ⟨bb, 0, none⟩ = some (.string KD) := A0.out.cell 0
 have y1 : U.cell? ⟨bb, 1, none⟩ = some (.string KN) := A0.out.cell 1
 have y2 : U.cell? ⟨bb, 2, none⟩ = some (.slice fo fn fc) := A0.out.cell 2
 have y3 : U.cell? ⟨bb, 3, none⟩ = some (.int .i64 LN) := A0.out.cell 3
 replace HF1 : Hid (∀ w1 (_ : Below U.heap.size U w1), Calls Tryz.prog 115 #[.agg #[.string KD, .string KN, .slice fo fn fc, .int .i64 LN], .string ⟨#[112, 114, 101, 99, 105, 110, 99, 116, 115]⟩] w1 fun e w' => ∃ vo vn vc, e = .returned (.agg #[.string KF1, .slice vo vn vc, .int .i64 F1.line]) /\ StrL anyF w' vo vn vc F1.vals /\ Below w1.heap.size w1 w') := HF1
 replace HF2 : Hid (∀ w1 (_ : Below U.heap.size U w1), Calls Tryz.prog 115 #[.agg #[.string KD, .string KN, .slice fo fn fc, .int .i64 LN], .string ⟨#[99, 111, 110, 116, 101, 115, 116, 115]⟩] w1 fun e w' => ∃ vo vn vc, e = .returned (.agg #[.string KF2, .slice vo vn vc, .int .i64 F2.line]) /\ StrL anyF w' vo vn vc F2.vals /\ Below w1.heap.size w1 w') := HF2
 replace HI1 := Lib.hid HI1
 replace HI2 := Lib.hid HI2
 have hfd1 := fun vo vn vc => field_1 (.string KF1) (.int .i64 F1.line) vo vn vc
 have hfd2 := fun vo vn vc => field_1 (.string KF2) (.int .i64 F2.line) vo vn vc
 have HD : Hid (Below U.heap.size U U.drew) := (Below.refl _ _).drew
 have HD2 : Below U.heap.size U U.drew := HD.out
 clear h hP hC AV AU BV BU hz2 hm h1 h2 hF1 hF2
 go_enter Tryz.func67, Tryz.ntmps67
 go_wp2_with fail
 go_region_held3 (fun w' => w'.cell? ⟨bb, 0, none⟩ = some (.string KD) /\ w'.cell? ⟨bb, 1, none⟩ = some (.string KN) /\ w'.cell? ⟨bb, 2, none⟩ = some (.slice fo fn fc) /\ w'.cell? ⟨bb, 3, none⟩ = some (.int .i64 LN)) (go_keep) (first
   | (go_at_call 115; (with_reducible refine (HF1.out _ HD2).mono ?_); rintro e v1 ⟨vo, vn, vc, rfl, SV, B1⟩; have a0 := cell_keep (w := U.drew) y0 B1; have a1 := cell_keep (w := U.drew) y1 B1; have a2 := cell_keep (w := U.drew) y2 B1; have a3 := cell_keep (w := U.drew) y3 B1; have C1 : Below U.heap.size U v1 := HD2.trans (B1.mono HD2.size); have hfa := hfd1 vo vn vc)
   | (go_at_call 120; (with_reducible refine (HI1.out vo vn vc v1 C1 SV).mono ?_); rintro e v2 ⟨xo, xn, xc, rfl, X, B2⟩; have c0 := cell_keep a0 B2; have c1 := cell_keep a1 B2; have c2 := cell_keep a2 B2; have c3 := cell_keep a3 B2; have C2 : Below U.heap.size U v2 := C1.trans (B2.mono C1.size))
   | (go_at_call 115; (with_reducible refine (HF2.out v2 C2).mono ?_); rintro e v3 ⟨uo, un, uc, rfl, SU, B3⟩; have d0 := cell_keep c0 B3; have d1 := cell_keep c1 B3; have d2 := cell_keep c2 B3; have d3 := cell_keep c3 B3; have C3 : Below U.heap.size U v3 := C2.trans (B3.mono C2.size); have X3 := keep_own X B3; have hfb := hfd2 uo un uc)
   | (go_at_call 120; (with_reducible refine (HI2.out uo un uc v3 C3 SU).mono ?_); rintro e v4 ⟨yo, yn, yc, rfl, Y, B4⟩; have g0 := cell_keep d0 B4; have g1 := cell_keep d1 B4; have g2 := cell_keep d2 B4; have g3 := cell_keep d3 B4; have C4 : Below U.heap.size U v4 := C3.trans (B4.mono C3.size); have X4 := keep_own X3 B4; obtain ⟨Z, m5, hm5, AZ, q0, q1, q2, q3, q4, q5⟩ := put_box3 (A1.out.kept C4) (.string KN) (.slice xo xn xc) (.slice yo yn yc); have z0 := cell_put3 g0 hne.out hm5; have z1 := cell_put3 g1 hne.out hm5; have z2 := cell_put3 g2 hne.out hm5; have z3 := cell_put3 g3 hne.out hm5))
 all_goals
   have r0 : Z.cell? ⟨bb + 1, 0, none⟩ = some (.string KN) := AZ.cell 0
   have r1 : Z.cell? ⟨bb + 1, 1, none⟩ = some (.slice xo xn xc) := AZ.cell 1
   have r2 : Z.cell? ⟨bb + 1, 2, none⟩ = some (.slice yo yn yc) := AZ.cell 2
   have BZ : Hid (Below w.heap.size w Z) := by
    show Below _ _ _
    rw [hm5.out]
    exact (((HB.out.trans (C4.mono HB.out.size)).setCell (p := ⟨_, 0, none⟩) hle.out _).setCell (p := ⟨_, 1, none⟩) hle.out _).setCell (p := ⟨_, 2, none⟩) hle.out _
   have KP : Keeps (ownF w.heap.size [3]) v4 Z := by rw [hm5.out]; exact keeps_put3 (A1.out.kept C4) (by decide) _ _ _
   have XZ : Hid (IntL .i64 (ownF w.heap.size [3]) Z xo xn xc (F1.vals.map (idxI P))) := (own_lower X4 (Nat.le_trans hlo.out (C1.size))).keep (stable_own _ _) KP
   have YZ : Hid (IntL .i64 (ownF w.heap.size [3]) Z yo yn yc (F2.vals.map (idxI C))) := (own_lower Y (Nat.le_trans hlo.out C3.size)).keep (stable_own _ _) KP
   clear X4 Y KP AZ q0 q1 q2 q3 q4 q5
   go_wp2_with fail
   refine bodyPost_ret (v := .agg #[.string KN, .slice xo xn xc, .slice yo yn yc]) (by simp [results, Tryz.results67, go_sem, r0, r1, r2]) rfl ?_
   exact ⟨xo, xn, xc, yo, yn, yc, rfl, by first | exact XZ.out | (rw [<- hbb]; exact XZ.out), by first | exact YZ.out | (rw [<- hbb]; exact YZ.out), by first | exact BZ.out | (rw [<- hbb]; exact BZ.out)⟩
end Go.Proofs.YtemdkkphmldgjaaGreatDoor
namespace Go.Proofs.YtemdkkphmldgjaaGreatDoor
open Go.RowKit Lx
theorem cell_grown {w Z : World} {g b i : Nat} {v : Value} (h : w.cell? ⟨b, i, none⟩ = some v) (hb : b ≠ g) (hZ : w.grownBy Z (some g)) : Z.cell? ⟨b, i, none⟩ = some v :=
 (World.cell?_of_block (hZ.block b (World.block_lt_of_cell? w _ h) (fun e => hb (by injection e)))).trans h
theorem keeps_gbox {lo : Nat} {Es : List TypeId} {w Z : World} {g : Nat} {T : TypeId} {cs : List Value} (h : Arr w g T cs) (hT : T ∉ Es) (hZ : w.grownBy Z (some g)) : Keeps (ownF lo Es) w Z := by
 refine keeps_grown hZ (fun k ⟨_, E', hE', cs', fz, hk⟩ e => ?_)
 injection e with e
 subst e
 rw [show w.heap[g]? = _ from h] at hk
 injection hk with hk
 injection hk with _ h2 _
 exact hT (h2 ▸ hE')
structure NumsC (b : SBlc) : Prop where
 seats : valueOf b wSeats = [] \/ numB (valueOf b wSeats) = true
 ranks : valueOf b wRanks = [] \/ numB (valueOf b wRanks) = true
 digits : valueOf b wDigits = [] \/ numB (valueOf b wDigits) = true
theorem buildContest_c (b : SBlc) (fo : Option Addr) (fn fc : Nat) (w : World) (h : FldS anyF w fo fn fc b.flds) (hv : NumsC b) (hT : Tabs w) (h1 : (fldOr b wCandidates).vals.length <= 4000000) :
    Calls Tryz.prog 66 #[.agg #[.string (stg b.kind), .string (stg b.name), .slice fo fn fc, .int .i64 b.line]] w fun e w' => ∃ xo xn xc, e = .returned (.agg #[.string (stg b.name), .slice xo xn xc, .int .i64 (mkCst b).method, .int .i64 (mkCst b).seats, .int .i64 (mkCst b).ranks, .int .i64 (mkCst b).digits, .int .i64 (mkCst b).ties, .int .i64 (mkCst b).over, .int .i64 (mkCst b).skip]) /\
      StrL (ownF w.heap.size [9]) w' xo xn xc (mkCst b).cands /\ Below w.heap.size w w' := by
 obtain ⟨V, e1, AV, BV, hz⟩ := new_box w 55 [.string (stg b.kind), .string (stg b.name), .slice fo fn fc, .int .i64 b.line]
 obtain ⟨U, e2, AU, BU, hz2⟩ := new_box V 76 [.string ⟨#[]⟩, .slice none 0 0, .int .i64 0, .int .i64 0, .int .i64 0, .int .i64 0, .int .i64 0, .int .i64 0, .int .i64 0]
 have hm : (mkCst b).cands = (fldOr b wCandidates).vals := valuesOf_or b wCandidates
 rw [hm]
 have HL := Lib.hid ((h.below BV).below BU)
 have HT := Lib.hid ((hT.below BV).below BU)
 have H0 := fun w1 (hb : Below U.heap.size U w1) => fieldOf_c b wCandidates fo fn fc w1 (HL.out.below hb)
 have H1 := fun vo vn vc w1 (hv : StrL anyF w1 vo vn vc (fldOr b wCandidates).vals) => sClone_c _ vo vn vc w1 hv (by rw [<- StrL.len hv]; omega)
 have H2 := fun w1 (hb : Below U.heap.size U w1) => code_sc b wMethod fo fn fc w1 (HL.out.below hb)
 have H3 := fun w1 (hb : Below U.heap.size U w1) => number_sc b wSeats fo fn fc w1 (HL.out.below hb) hv.seats (HT.out.below hb)
 have H4 := fun w1 (hb : Below U.heap.size U w1) => number_sc b wRanks fo fn fc w1 (HL.out.below hb) hv.ranks (HT.out.below hb)
 have H5 := fun w1 (hb : Below U.heap.size U w1) => number_sc b wDigits fo fn fc w1 (HL.out.below hb) hv.digits (HT.out.below hb)
 have H6 := fun w1 (hb : Below U.heap.size U w1) => code_sc b wTies fo fn fc w1 (HL.out.below hb)
 have H7 := fun w1 (hb : Below U.heap.size U w1) => code_sc b wOvervote fo fn fc w1 (HL.out.below hb)
 have H8 := fun w1 (hb : Below U.heap.size U w1) => code_sc b wSkip fo fn fc w1 (HL.out.below hb)
 obtain ⟨F1, hF1⟩ : ∃ F, fldOr b wCandidates = F := ⟨_, rfl⟩
 rw [hF1] at H0 H1 |-
 obtain ⟨N2, hN2⟩ : ∃ N, Hid (((codeB b wMethod : Nat) : Int) = N) := ⟨_, rfl⟩
 rw [hN2.out] at H2
 obtain ⟨N3, hN3⟩ : ∃ N, Hid (((numberOf b wSeats : Nat) : Int) = N) := ⟨_, rfl⟩
 rw [hN3.out] at H3
 obtain ⟨N4, hN4⟩ : ∃ N, Hid (((numberOf b wRanks : Nat) : Int) = N) := ⟨_, rfl⟩
 rw [hN4.out] at H4
 obtain ⟨N5, hN5⟩ : ∃ N, Hid (((numberOf b wDigits : Nat) : Int) = N) := ⟨_, rfl⟩
 rw [hN5.out] at H5
 obtain ⟨N6, hN6⟩ : ∃ N, Hid (((codeB b wTies : Nat) : Int) = N) := ⟨_, rfl⟩
 rw [hN6.out] at H6
 obtain ⟨N7, hN7⟩ : ∃ N, Hid (((codeB b wOvervote : Nat) : Int) = N) := ⟨_, rfl⟩
 rw [hN7.out] at H7
 obtain ⟨N8, hN8⟩ : ∃ N, Hid (((codeB b wSkip : Nat) : Int) = N) := ⟨_, rfl⟩
 rw [hN8.out] at H8
 rw [show (((mkCst b).method : Int)) = N2 from hN2.out]
 rw [show (((mkCst b).seats : Int)) = N3 from hN3.out]
 rw [show (((mkCst b).ranks : Int)) = N4 from hN4.out]
 rw [show (((mkCst b).digits : Int)) = N5 from hN5.out]
 rw [show (((mkCst b).ties : Int)) = N6 from hN6.out]
 rw [show (((mkCst b).over : Int)) = N7 from hN7.out]
 rw [show (((mkCst b).skip : Int)) = N8 from hN8.out]
 obtain ⟨bb, hbb⟩ : ∃ b, w.heap.size = b := ⟨_, rfl⟩
 rw [hbb] at AV hz
 rw [hz] at AU
 have A0 := Lib.hid (AV.kept BU)
 have A1 := Lib.hid AU
 have HB : Hid (Below w.heap.size w U) := BV.trans (BU.mono BV.size)
 have hle : Hid (w.heap.size <= bb + 1) := by show _ <= _; omega
 have hne : Hid (bb ≠ bb + 1) := by show _ ≠ _; omega
 have hlo : Hid (w.heap.size <= U.heap.size) := HB.out.size
 obtain ⟨KD, hKD⟩ : ∃ K, Hid (stg b.kind = K) := ⟨_, rfl⟩
 obtain ⟨KN, hKN⟩ : ∃ K, Hid (stg b.name = K) := ⟨_, rfl⟩
 obtain ⟨LN, hLN⟩ : ∃ K, Hid (b.line = K) := ⟨_, rfl⟩
 obtain ⟨KF1, hKF1⟩ : ∃ K, Hid (stg F1.key = K) := ⟨_, rfl⟩
 rw [hKD.out, hKN.out, hLN.out] at e1 A0
 rw [hKD.out, hKN.out, hLN.out, hKF1.out] at H0
 rw [hKD.out, hKN.out, hLN.out] at H2
 rw [hKD.out, hKN.out, hLN.out] at H3
 rw [hKD.out, hKN.out, hLN.out] at H4
 rw [hKD.out, hKN.out, hLN.out] at H5
 rw [hKD.out, hKN.out, hLN.out] at H6
 rw [hKD.out, hKN.out, hLN.out] at H7
 rw [hKD.out, hKN.out, hLN.out] at H8
 rw [hKD.out, hKN.out, hLN.out]
 have y0 : U.cell? ⟨bb, 0, none⟩ = some (.string KD) := A0.out.cell 0
 have y1 : U.cell? ⟨bb, 1, none⟩ = some (.string KN) := A0.out.cell 1
 have y2 : U.cell? ⟨bb, 2, none⟩ = some (.slice fo fn fc) := A0.out.cell 2
 have y3 : U.cell? ⟨bb, 3, none⟩ = some (.int .i64 LN) := A0.out.cell 3
 replace H0 : Hid (∀ w1 (_ : Below U.heap.size U w1), Calls Tryz.prog 115 #[.agg #[.string KD, .string KN, .slice fo fn fc, .int .i64 LN], .string ⟨#[99, 97, 110, 100, 105, 100, 97, 116, 101, 115]⟩] w1 fun e w' => ∃ vo vn vc, e = .returned (.agg #[.string KF1, .slice vo vn vc, .int .i64 F1.line]) /\ StrL anyF w' vo vn vc F1.vals /\ Below w1.heap.size w1 w') := H0
 replace H1 := Lib.hid H1
 replace H2 : Hid (∀ w1 (_ : Below U.heap.size U w1), Calls Tryz.prog 119 #[.agg #[.string KD, .string KN, .slice fo fn fc, .int .i64 LN], .string ⟨#[109, 101, 116, 104, 111, 100]⟩] w1 fun e w' => e = .returned (.int .i64 N2) /\ Below w1.heap.size w1 w') := H2
 replace H3 : Hid (∀ w1 (_ : Below U.heap.size U w1), Calls Tryz.prog 65 #[.agg #[.string KD, .string KN, .slice fo fn fc, .int .i64 LN], .string ⟨#[115, 101, 97, 116, 115]⟩] w1 fun e w' => e = .returned (.int .i64 N3) /\ Below w1.heap.size w1 w') := H3
 replace H4 : Hid (∀ w1 (_ : Below U.heap.size U w1), Calls Tryz.prog 65 #[.agg #[.string KD, .string KN, .slice fo fn fc, .int .i64 LN], .string ⟨#[114, 97, 110, 107, 115]⟩] w1 fun e w' => e = .returned (.int .i64 N4) /\ Below w1.heap.size w1 w') := H4
 replace H5 : Hid (∀ w1 (_ : Below U.heap.size U w1), Calls Tryz.prog 65 #[.agg #[.string KD, .string KN, .slice fo fn fc, .int .i64 LN], .string ⟨#[100, 105, 103, 105, 116, 115]⟩] w1 fun e w' => e = .returned (.int .i64 N5) /\ Below w1.heap.size w1 w') := H5
 replace H6 : Hid (∀ w1 (_ : Below U.heap.size U w1), Calls Tryz.prog 119 #[.agg #[.string KD, .string KN, .slice fo fn fc, .int .i64 LN], .string ⟨#[116, 105, 101, 115]⟩] w1 fun e w' => e = .returned (.int .i64 N6) /\ Below w1.heap.size w1 w') := H6
 replace H7 : Hid (∀ w1 (_ : Below U.heap.size U w1), Calls Tryz.prog 119 #[.agg #[.string KD, .string KN, .slice fo fn fc, .int .i64 LN], .string ⟨#[111, 118, 101, 114, 118, 111, 116, 101]⟩] w1 fun e w' => e = .returned (.int .i64 N7) /\ Below w1.heap.size w1 w') := H7
 replace H8 : Hid (∀ w1 (_ : Below U.heap.size U w1), Calls Tryz.prog 119 #[.agg #[.string KD, .string KN, .slice fo fn fc, .int .i64 LN], .string ⟨#[115, 107, 105, 112]⟩] w1 fun e w' => e = .returned (.int .i64 N8) /\ Below w1.heap.size w1 w') := H8
 have hfd1 := fun vo vn vc => field_1 (.string KF1) (.int .i64 F1.line) vo vn vc
 have HD2 : Below U.heap.size U U.drew := (Below.refl _ _).drew
 clear h hT AV AU BV BU hz2 hm h1 hF1 hv
 go_enter Tryz.func66, Tryz.ntmps66
 go_wp2_with fail
 go_region_held3 (fun w' => w'.cell? ⟨bb, 0, none⟩ = some (.string KD) /\ w'.cell? ⟨bb, 1, none⟩ = some (.string KN) /\ w'.cell? ⟨bb, 2, none⟩ = some (.slice fo fn fc) /\ w'.cell? ⟨bb, 3, none⟩ = some (.int .i64 LN)) (go_keep) (first
   | (go_at_call 115; (with_reducible refine (H0.out _ HD2).mono ?_); rintro e v0 ⟨vo, vn, vc, rfl, SV, B0⟩; have a0_0 := cell_keep (w := U.drew) y0 B0; have a0_1 := cell_keep (w := U.drew) y1 B0; have a0_2 := cell_keep (w := U.drew) y2 B0; have a0_3 := cell_keep (w := U.drew) y3 B0; have C0 : Below U.heap.size U v0 := HD2.trans (B0.mono HD2.size); have hfa := hfd1 vo vn vc)
   | (go_at_call 92; (with_reducible refine (H1.out vo vn vc v0 SV).mono ?_); rintro e v1 ⟨xo, xn, xc, rfl, X1, B1⟩; have a1_0 := cell_keep a0_0 B1; have a1_1 := cell_keep a0_1 B1; have a1_2 := cell_keep a0_2 B1; have a1_3 := cell_keep a0_3 B1; have C1 : Below U.heap.size U v1 := C0.trans (B1.mono C0.size))
   | (go_at_call 119; (with_reducible refine (H2.out v1 C1).mono ?_); rintro e v2 ⟨rfl, B2⟩; have a2_0 := cell_keep a1_0 B2; have a2_1 := cell_keep a1_1 B2; have a2_2 := cell_keep a1_2 B2; have a2_3 := cell_keep a1_3 B2; have C2 : Below U.heap.size U v2 := C1.trans (B2.mono C1.size); have X2 := keep_own X1 B2)
   | (go_at_call 65; (with_reducible refine (H3.out v2 C2).mono ?_); rintro e v3 ⟨rfl, B3⟩; have a3_0 := cell_keep a2_0 B3; have a3_1 := cell_keep a2_1 B3; have a3_2 := cell_keep a2_2 B3; have a3_3 := cell_keep a2_3 B3; have C3 : Below U.heap.size U v3 := C2.trans (B3.mono C2.size); have X3 := keep_own X2 B3)
   | (go_at_call 65; (with_reducible refine (H4.out v3 C3).mono ?_); rintro e v4 ⟨rfl, B4⟩; have a4_0 := cell_keep a3_0 B4; have a4_1 := cell_keep a3_1 B4; have a4_2 := cell_keep a3_2 B4; have a4_3 := cell_keep a3_3 B4; have C4 : Below U.heap.size U v4 := C3.trans (B4.mono C3.size); have X4 := keep_own X3 B4)
   | (go_at_call 65; (with_reducible refine (H5.out v4 C4).mono ?_); rintro e v5 ⟨rfl, B5⟩; have a5_0 := cell_keep a4_0 B5; have a5_1 := cell_keep a4_1 B5; have a5_2 := cell_keep a4_2 B5; have a5_3 := cell_keep a4_3 B5; have C5 : Below U.heap.size U v5 := C4.trans (B5.mono C4.size); have X5 := keep_own X4 B5)
   | (go_at_call 119; (with_reducible refine (H6.out v5 C5).mono ?_); rintro e v6 ⟨rfl, B6⟩; have a6_0 := cell_keep a5_0 B6; have a6_1 := cell_keep a5_1 B6; have a6_2 := cell_keep a5_2 B6; have a6_3 := cell_keep a5_3 B6; have C6 : Below U.heap.size U v6 := C5.trans (B6.mono C5.size); have X6 := keep_own X5 B6)
   | (go_at_call 119; (with_reducible refine (H7.out v6 C6).mono ?_); rintro e v7 ⟨rfl, B7⟩; have a7_0 := cell_keep a6_0 B7; have a7_1 := cell_keep a6_1 B7; have a7_2 := cell_keep a6_2 B7; have a7_3 := cell_keep a6_3 B7; have C7 : Below U.heap.size U v7 := C6.trans (B7.mono C6.size); have X7 := keep_own X6 B7)
   | (go_at_call 119; (with_reducible refine (H8.out v7 C7).mono ?_); rintro e v8 ⟨rfl, B8⟩; have a8_0 := cell_keep a7_0 B8; have a8_1 := cell_keep a7_1 B8; have a8_2 := cell_keep a7_2 B8; have a8_3 := cell_keep a7_3 B8; have C8 : Below U.heap.size U v8 := C7.trans (B8.mono C7.size); have X8 := keep_own X7 B8; obtain ⟨Z, m5, AZ, GZ, LZ, q0, q1, q2, q3, q4, q5, q6, q7, q8, q9, q10, q11, q12, q13, q14, q15, q16, q17⟩ := put_box9 (A1.out.kept C8) (.string KN) (.slice xo xn xc) (.int .i64 N2) (.int .i64 N3) (.int .i64 N4) (.int .i64 N5) (.int .i64 N6) (.int .i64 N7) (.int .i64 N8); have z0 := cell_grown a8_0 hne.out GZ; have z1 := cell_grown a8_1 hne.out GZ; have z2 := cell_grown a8_2 hne.out GZ; have z3 := cell_grown a8_3 hne.out GZ))
 all_goals
   have r0 : Z.cell? ⟨bb + 1, 0, none⟩ = some (.string KN) := AZ.cell 0
   have r1 : Z.cell? ⟨bb + 1, 1, none⟩ = some (.slice xo xn xc) := AZ.cell 1
   have r2 : Z.cell? ⟨bb + 1, 2, none⟩ = some (.int .i64 N2) := AZ.cell 2
   have r3 : Z.cell? ⟨bb + 1, 3, none⟩ = some (.int .i64 N3) := AZ.cell 3
   have r4 : Z.cell? ⟨bb + 1, 4, none⟩ = some (.int .i64 N4) := AZ.cell 4
   have r5 : Z.cell? ⟨bb + 1, 5, none⟩ = some (.int .i64 N5) := AZ.cell 5
   have r6 : Z.cell? ⟨bb + 1, 6, none⟩ = some (.int .i64 N6) := AZ.cell 6
   have r7 : Z.cell? ⟨bb + 1, 7, none⟩ = some (.int .i64 N7) := AZ.cell 7
   have r8 : Z.cell? ⟨bb + 1, 8, none⟩ = some (.int .i64 N8) := AZ.cell 8
   have BZ : Hid (Below w.heap.size w Z) := LZ _ _ (HB.out.trans (C8.mono HB.out.size)) hle.out
   have KP : Keeps (ownF w.heap.size [9]) v8 Z := keeps_gbox (A1.out.kept C8) (by decide) GZ
   have XZ : Hid (StrL (ownF w.heap.size [9]) Z xo xn xc F1.vals) := (own_lower X8 (Nat.le_trans hlo.out C0.size)).keep (stable_own _ _) KP
   clear X8 KP AZ GZ LZ q0 q1 q2 q3 q4 q5 q6 q7 q8 q9 q10 q11 q12 q13 q14 q15 q16 q17
   go_wp2_with fail
   refine bodyPost_ret (v := .agg #[.string KN, .slice xo xn xc, .int .i64 N2, .int .i64 N3, .int .i64 N4, .int .i64 N5, .int .i64 N6, .int .i64 N7, .int .i64 N8]) (by simp [results, Tryz.results66, go_sem, r0, r1, r2, r3, r4, r5, r6, r7, r8]) rfl ?_
   exact ⟨xo, xn, xc, rfl, by first | exact XZ.out | (rw [<- hbb]; exact XZ.out), by first | exact BZ.out | (rw [<- hbb]; exact BZ.out)⟩
end Go.Proofs.YtemdkkphmldgjaaGreatDoor
namespace Go.Proofs.YtemdkkphmldgjaaGreatDoor.Lx
def atI (l : List (List UInt8)) (i : Int) : List UInt8 := if 0 <= i then (l[i.toNat]?).getD [] else []
def fV (k v : List UInt8) : SFld := ⟨k, [v], 0⟩
def fN (k : List UInt8) (n : Int) : SFld := fV k (Lib.itoa n)
def fC (k : List UInt8) (code : Int) : SFld := fV k (atI (wordsOf k) code)
def pickL (l : List (List UInt8)) (is : List Int) : List (List UInt8) := is.map (atI l)
def descCF (c : Cst) : List SFld := [fC wMethod c.method, fN wSeats c.seats, fN wRanks c.ranks] ++ (if c.method = 2 then [fN wDigits c.digits] else []) ++ [fC wTies c.ties, fC wOvervote c.over, fC wSkip c.skip, ⟨wCandidates, c.cands, 0⟩]
def descC (c : Cst) : SBlc := ⟨kContest, c.name, descCF c, 0⟩
def descT (P C : List (List UInt8)) (s : Sty) : SBlc := ⟨kStyle, s.name, [⟨kPrecincts, pickL P s.precs, 0⟩, ⟨wContests, pickL C s.conts, 0⟩], 0⟩
def dHead (e : Elc) : List SBlc := [⟨kScan, [], [fN wDots e.dots, fN wBlank e.blank, fN wMarked e.marked], 0⟩, ⟨kScanners, [], [fN wCount e.scanners, fN wBatch e.batch], 0⟩, ⟨kPrecincts, [], [⟨wNames, e.precs, 0⟩], 0⟩]
def dTail (e : Elc) (risk : List UInt8) : List SBlc := [⟨kAudit, [], [fV wRisk risk, fV wSeed e.seed], 0⟩, ⟨kPrivacy, [], [fN wCell e.cell], 0⟩]
def cNames (e : Elc) : List (List UInt8) := e.conts.map Cst.name
def descS (e : Elc) (risk : List UInt8) : SSrc := ⟨e.title, dHead e ++ e.conts.map descC ++ e.stys.map (descT e.precs (cNames e)) ++ dTail e risk⟩
end Go.Proofs.YtemdkkphmldgjaaGreatDoor.Lx
namespace Go.Proofs.YtemdkkphmldgjaaGreatDoor
open Go.RowKit Lx
theorem sField_c (k : ByteArray) (vo : Option Addr) (vn vc : Nat) (w : World) :
    Calls Tryz.prog 91 #[.string k, .slice vo vn vc] w fun e w' => e = .returned (.agg #[.string k, .slice vo vn vc, .int .i64 0]) /\ Below w.heap.size w w' := by
 obtain ⟨V, e1, AV, BV, hz⟩ := new_box w 63 [.string ⟨#[]⟩, .slice none 0 0, .int .i64 0]
 obtain ⟨Z, m5, hm5, AZ, q0, q1, q2, q3, q4, q5⟩ := put_box3 AV (.string k) (.slice vo vn vc) (.int .i64 0)
 have r0 : Z.cell? ⟨w.heap.size, 0, none⟩ = some (.string k) := AZ.cell 0
 have r1 : Z.cell? ⟨w.heap.size, 1, none⟩ = some (.slice vo vn vc) := AZ.cell 1
 have r2 : Z.cell? ⟨w.heap.size, 2, none⟩ = some (.int .i64 0) := AZ.cell 2
 have BZ : Hid (Below w.heap.size w Z) := by
  show Below _ _ _
  rw [hm5.out]
  exact ((BV.setCell (p := ⟨_, 0, none⟩) (Nat.le_refl _) _).setCell (p := ⟨_, 1, none⟩) (Nat.le_refl _) _).setCell (p := ⟨_, 2, none⟩) (Nat.le_refl _) _
 clear AV BV hz AZ hm5
 go_enter Tryz.func91, Tryz.ntmps91
 go_wp2_with fail
 refine bodyPost_ret (v := .agg #[.string k, .slice vo vn vc, .int .i64 0]) (by simp [results, Tryz.results91, go_sem, r0, r1, r2]) rfl ?_
 exact ⟨rfl, BZ.out⟩
theorem sBlock_c (k m : ByteArray) (fo : Option Addr) (fn fc : Nat) (w : World) :
    Calls Tryz.prog 89 #[.string k, .string m, .slice fo fn fc] w fun e w' => e = .returned (.agg #[.string k, .string m, .slice fo fn fc, .int .i64 0]) /\ Below w.heap.size w w' := by
 obtain ⟨V, e1, AV, BV, hz⟩ := new_box w 55 [.string ⟨#[]⟩, .string ⟨#[]⟩, .slice none 0 0, .int .i64 0]
 obtain ⟨Z, m5, hm5, AZ, q0, q1, q2, q3, q4, q5, q6, q7⟩ := put_box4 AV (.string k) (.string m) (.slice fo fn fc) (.int .i64 0)
 have r0 : Z.cell? ⟨w.heap.size, 0, none⟩ = some (.string k) := AZ.cell 0
 have r1 : Z.cell? ⟨w.heap.size, 1, none⟩ = some (.string m) := AZ.cell 1
 have r2 : Z.cell? ⟨w.heap.size, 2, none⟩ = some (.slice fo fn fc) := AZ.cell 2
 have r3 : Z.cell? ⟨w.heap.size, 3, none⟩ = some (.int .i64 0) := AZ.cell 3
 have BZ : Hid (Below w.heap.size w Z) := by
  show Below _ _ _
  rw [hm5.out]
  exact (((BV.setCell (p := ⟨_, 0, none⟩) (Nat.le_refl _) _).setCell (p := ⟨_, 1, none⟩) (Nat.le_refl _) _).setCell (p := ⟨_, 2, none⟩) (Nat.le_refl _) _).setCell (p := ⟨_, 3, none⟩) (Nat.le_refl _) _
 clear AV BV hz AZ hm5
 go_enter Tryz.func89, Tryz.ntmps89
 go_wp2_with fail
 refine bodyPost_ret (v := .agg #[.string k, .string m, .slice fo fn fc, .int .i64 0]) (by simp [results, Tryz.results89, go_sem, r0, r1, r2, r3]) rfl ?_
 exact ⟨rfl, BZ.out⟩
theorem tab_is {w : World} (hT : Tabs w) : Lib.TabIs Tryz.prog w "internal/strconv.uint64pow10" .u64 Lib.pow10Tab := hT.pow
theorem one_str (w : World) (v : List UInt8) : ∃ V, w.alloc (.cells #[.string (stg v)] 9) = V /\ StrL (ownF w.heap.size [9]) V (some ⟨w.heap.size, 0, none⟩) 1 1 [v] /\ Below w.heap.size w V :=
 new_strs w [v] (by simp) (by simp)
theorem below_gr (w : World) (k : Nat) (os : Array Obj) : Below w.heap.size w (Go.Sort.grow (w.drewN k) os) :=
 ⟨rfl, rfl, rfl, by show w.heap.size <= (w.heap ++ os).size; rw [Array.size_append]; omega, fun g hg => by show (w.heap ++ os)[g]? = _; rw [Array.getElem?_append_left hg]⟩
theorem field_end {w V W : World} {b : Nat} {k : ByteArray} {vo : Option Addr} {vn vc : Nat} {vs : List (List UInt8)} (AV : Arr V b 63 [.string ⟨#[]⟩, .slice none 0 0, .int .i64 0]) (hb : w.heap.size = b) (BV : Below w.heap.size w V) (hz : V.heap.size = w.heap.size + 1) (BW : Below V.heap.size V W) (SL : StrL (ownF V.heap.size [9]) W vo vn vc vs) :
    ∃ Z, ((W.setCell ⟨b, 0, none⟩ (.string k)).setCell ⟨b, 1, none⟩ (.slice vo vn vc)).setCell ⟨b, 2, none⟩ (.int .i64 0) = Z /\
      W.cell? ⟨b, 0, none⟩ = some (.string ⟨#[]⟩) /\ W.frozen? ⟨b, 0, none⟩ = false /\ (W.setCell ⟨b, 0, none⟩ (.string k)).cell? ⟨b, 1, none⟩ = some (.slice none 0 0) /\ (W.setCell ⟨b, 0, none⟩ (.string k)).frozen? ⟨b, 1, none⟩ = false /\
      ((W.setCell ⟨b, 0, none⟩ (.string k)).setCell ⟨b, 1, none⟩ (.slice vo vn vc)).cell? ⟨b, 2, none⟩ = some (.int .i64 0) /\ ((W.setCell ⟨b, 0, none⟩ (.string k)).setCell ⟨b, 1, none⟩ (.slice vo vn vc)).frozen? ⟨b, 2, none⟩ = false /\
      Z.cell? ⟨b, 0, none⟩ = some (.string k) /\ Z.cell? ⟨b, 1, none⟩ = some (.slice vo vn vc) /\ Z.cell? ⟨b, 2, none⟩ = some (.int .i64 0) /\
      Hid (StrL (ownF w.heap.size [9]) Z vo vn vc vs /\ Below w.heap.size w Z) := by
 subst hb
 have AW := AV.kept BW
 obtain ⟨Z, m5, hm5, AZ, q0, q1, q2, q3, q4, q5⟩ := put_box3 AW (.string k) (.slice vo vn vc) (.int .i64 0)
 refine ⟨Z, m5, q0, q1, q2, q3, q4, q5, AZ.cell 0, AZ.cell 1, AZ.cell 2, ?_, ?_⟩
 . refine Row.keep (own_lower SL (by omega)) (stable_own _ _) ?_
   rw [hm5.out]
   exact keeps_put3 AW (by decide) _ _ _
 . rw [hm5.out]
   exact (((BV.trans (BW.mono BV.size)).setCell (p := ⟨_, 0, none⟩) (Nat.le_refl _) _).setCell (p := ⟨_, 1, none⟩) (Nat.le_refl _) _).setCell (p := ⟨_, 2, none⟩) (Nat.le_refl _) _
theorem numeric_c (k : ByteArray) (n : Int) (w : World) (h0 : -9223372036854775808 <= n) (h1 : n <= 9223372036854775807) (hT : Tabs w) :
    Calls Tryz.prog 90 #[.string k, .int .i64 n] w fun e w' => ∃ vo vn vc, e = .returned (.agg #[.string k, .slice vo vn vc, .int .i64 0]) /\ StrL (ownF w.heap.size [9]) w' vo vn vc [Lib.itoa n] /\ Below w.heap.size w w' := by
 obtain ⟨V, e1, AV, BV, hz⟩ := new_box w 63 [.string ⟨#[]⟩, .slice none 0 0, .int .i64 0]
 have HI := Tryz.strconv_Itoa n h0 h1 V (tab_is (hT.below BV))
 obtain ⟨N, hN⟩ : ∃ N, Hid (Lib.itoa n = N) := ⟨_, rfl⟩
 rw [show (⟨(Lib.itoa n).toArray⟩ : ByteArray) = stg N by rw [<- hN.out]; rfl] at HI
 rw [hN.out]
 obtain ⟨KN, hKN⟩ : ∃ K, Hid (stg N = K) := ⟨_, rfl⟩
 rw [hKN.out] at HI
 replace HI := Lib.hid HI
 have HA := Lib.hid (And.intro AV (And.intro BV hz))
 clear AV BV hz hT
 go_enter Tryz.func90, Tryz.ntmps90
 go_wp2_with (first
   | (go_at_call 145; (with_reducible refine HI.out.mono ?_); rintro e w1 ⟨rfl, kk, os, hw1⟩; have B1 : Below V.heap.size V w1 := (by rw [hw1]; exact below_gr _ _ _); obtain ⟨V2, e2, SL, B2⟩ := one_str w1 N; rw [hKN.out] at e2; have HS := Lib.hid (And.intro SL (And.intro B2 B1)); have HF := Lib.hid (fun sl => sField_c k (some ⟨sl, 0, none⟩) 1 1 V2); clear SL B2 hw1 B1)
   | (go_at_call 91; (with_reducible refine (HF.out _).mono ?_); rintro e w3 ⟨rfl, B3⟩; obtain ⟨Z, m5, q0, q1, q2, q3, q4, q5, r0, r1, r2, hfin⟩ := field_end (k := k) HA.out.1 rfl HA.out.2.1 HA.out.2.2 ((HS.out.2.2.trans (HS.out.2.1.mono HS.out.2.2.size)).trans (B3.mono (Nat.le_trans HS.out.2.2.size HS.out.2.1.size))) (own_lower (keep_own HS.out.1 B3) HS.out.2.2.size); clear B3))
 refine bodyPost_ret (v := .agg #[.string k, .slice (some ⟨w1.heap.size, 0, none⟩) 1 1, .int .i64 0]) (by simp [results, Tryz.results90, go_sem, r0, r1, r2]) rfl ?_
 exact ⟨_, 1, 1, rfl, hfin.out.1, hfin.out.2⟩
theorem choice_c (k : List UInt8) (code : Int) (w : World) :
    Calls Tryz.prog 146 #[.string (stg k), .int .i64 code] w fun e w' => ∃ vo vn vc, e = .returned (.agg #[.string (stg k), .slice vo vn vc, .int .i64 0]) /\ StrL (ownF w.heap.size [9]) w' vo vn vc [atI (wordsOf k) code] /\ Below w.heap.size w w' := by
 obtain ⟨V, e1, AV, BV, hz⟩ := new_box w 63 [.string ⟨#[]⟩, .slice none 0 0, .int .i64 0]
 have HI := Lib.hid (words_c k V)
 have HAt := Lib.hid (fun ao n c W (h : StrL anyF W ao n c (wordsOf k)) => at_c (wordsOf k) code ao n c W h)
 obtain ⟨N, hN⟩ : ∃ N, Hid (atI (wordsOf k) code = N) := ⟨_, rfl⟩
 have hN2 : (if 0 <= code then ((wordsOf k)[code.toNat]?).getD [] else []) = N := hN.out
 rw [hN2] at HAt
 rw [hN.out]
 obtain ⟨KN, hKN⟩ : ∃ K, Hid (stg N = K) := ⟨_, rfl⟩
 rw [hKN.out] at HAt
 obtain ⟨KK, hKK⟩ : ∃ K, Hid (stg k = K) := ⟨_, rfl⟩
 rw [hKK.out] at HI |-
 have HA := Lib.hid (And.intro AV (And.intro BV hz))
 clear AV BV hz hN2
 go_enter Tryz.func146, Tryz.ntmps146
 go_wp2_with (first
   | (go_at_call 197; (with_reducible refine HI.out.mono ?_); rintro e w1 ⟨ao, n, c, rfl, SW, B1⟩; have HA1 := Lib.hid (HAt.out ao n c w1 SW); have hB1 := Lib.hid B1; clear SW B1)
   | (go_at_call 123; (with_reducible refine HA1.out.mono ?_); rintro e w1b ⟨rfl, rfl⟩; obtain ⟨V2, e2, SL, B2⟩ := one_str w1 N; rw [hKN.out] at e2; have HS := Lib.hid (And.intro SL (And.intro B2 hB1.out)); have HF := Lib.hid (fun sl => sField_c KK (some ⟨sl, 0, none⟩) 1 1 V2); clear SL B2)
   | (go_at_call 91; (with_reducible refine (HF.out _).mono ?_); rintro e w3 ⟨rfl, B3⟩; obtain ⟨Z, m5, q0, q1, q2, q3, q4, q5, r0, r1, r2, hfin⟩ := field_end (k := KK) HA.out.1 rfl HA.out.2.1 HA.out.2.2 ((HS.out.2.2.trans (HS.out.2.1.mono HS.out.2.2.size)).trans (B3.mono (Nat.le_trans HS.out.2.2.size HS.out.2.1.size))) (own_lower (keep_own HS.out.1 B3) HS.out.2.2.size); clear B3))
 refine bodyPost_ret (v := .agg #[.string KK, .slice (some ⟨w1.heap.size, 0, none⟩) 1 1, .int .i64 0]) (by simp [results, Tryz.results146, go_sem, r0, r1, r2]) rfl ?_
 exact ⟨_, 1, 1, rfl, hfin.out.1, hfin.out.2⟩
theorem pick_c {S1 S2 : World -> Nat -> Prop} (L : List (List UInt8)) (xs : List Int) (lo ao : Option Addr) (ln lc n c : Nat) (w : World) (hl : StrL S1 w lo ln lc L) (h : IntL .i64 S2 w ao n c xs) (hn : n <= 4000000) :
    Calls Tryz.prog 94 #[.slice lo ln lc, .slice ao n c] w fun e w' => ∃ ro m d, e = .returned (.slice ro m d) /\ StrL (ownF w.heap.size [9]) w' ro m d (pickL L xs) /\ Below w.heap.size w w' := by
 have hcap := Row.cap h
 have hroom := Row.room h
 have hlen := Lib.hid (IntL.len h)
 have H := Lib.hid (Row.low (Row.mono h any_of))
 have HLs := Lib.hid (Row.low (Row.mono hl any_of))
 clear h hl
 go_enter Tryz.func94, Tryz.ntmps94
 go_wp2_with fail
 go_loopw [5, 7, 10] (fun v _ i wr => ∃ (j : Nat) (ro : Option Addr) (d : Nat), j <= n /\ i = .int .i64 (j : Int) /\ v = .slice ro j d /\ wr.ownsRow w.heap.size 9 1 (.slice ro j d) j ((xs.take j).map fun x => .string (stg (atI L x))) /\ Below w.heap.size w wr) (fun _ _ i _ => n - (intOf i).toNat)
 case atStart => exact ⟨0, none, 0, Nat.zero_le _, rfl, rfl, World.ownsRow_nil _ _ _ _, Below.refl _ _⟩
 case round =>
  obtain ⟨w1, hw1⟩ : ∃ x, x = wr := ⟨_, rfl⟩
  subst hw1
  obtain ⟨j, ro, d, hj, rfl, rfl, O, B⟩ := hrel
  by_cases hlt : j < n
  . have hlt' : (j : Int) < (n : Int) := by omega
    obtain ⟨x, a, hv, i1, c1⟩ := IntL.get Tryz.underlying58 (show (Tryz.prog.info? 3).map (·.size) = some 1 by kernel_rfl) (Row.keep H.out (stable_low _) (keeps_low B)) j hlt
    have HI := at_c L x lo ln lc w1 (Row.keep HLs.out (stable_low _) (keeps_low B))
    obtain ⟨R, hR⟩ : ∃ R, Hid (stg (atI L x) = R) := ⟨_, rfl⟩
    have hR2 : stg (if 0 <= x then (L[x.toNat]?).getD [] else []) = R := hR.out
    rw [hR2] at HI
    have HS : Hid ((xs.take (j + 1)).map (fun x => Value.string (stg (atI L x))) = (xs.take j).map (fun x => Value.string (stg (atI L x))) ++ [.string R]) := by
     show _ = _
     rw [take_snoc hv, List.map_append, <- hR.out]
     rfl
    replace HI := Lib.hid HI
    have hz : w.heap.size <= w1.heap.size := B.size
    clear hv hR2
    go_wp2_with fail
    refine HI.out.mono ?_
    rintro e w2 ⟨rfl, rfl⟩
    clear HI
    go_wp2_with (at_builtin; refine wpList_appK (vs := [.string R]) Tryz.underlying26 infoS3 rfl (by decide) (by decide) O hz (by omega) rfl (by intro u hu; simp at hu; subst hu; rfl) rfl rfl ?_)
    intro ao3 d3 w3 O3 G3 B3
    have B4 : Hid (Below w.heap.size w w3) := B.trans B3
    rw [<- HS.out] at O3
    have O4 := Lib.hid O3
    clear O3 G3 B3 c1 i1 hz O B
    go_wp2_with fail
    go_roundw
    case rel => exact ⟨j + 1, ao3, d3, by omega, by go_num, rfl, O4.out, B4.out⟩
    case measure => simp [intOf]; omega
  . have hlt' : ¬ (j : Int) < (n : Int) := by omega
    have hR : Hid (xs.take j = xs) := List.take_of_length_le (by have := hlen.out; omega)
    rw [hR.out] at O
    have O2 : Hid (StrL (ownF w.heap.size [9]) w1 ro j d (pickL L xs)) := by
     show Row _ _ _ _ _ _ _
     have := Row.own O (by decide)
     unfold pickL
     rw [List.map_map]
     exact this
    replace B := Lib.hid B
    clear O
    go_wp2_with fail
    go_ret
    exact ⟨ro, j, d, rfl, O2.out, B.out⟩
end Go.Proofs.YtemdkkphmldgjaaGreatDoor
