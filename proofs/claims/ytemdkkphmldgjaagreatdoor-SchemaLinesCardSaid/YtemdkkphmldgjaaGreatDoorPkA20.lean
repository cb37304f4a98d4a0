/-
  Texts of the proof, put together: SchLack SchTog.
-/
import Derived.Test.YtemdkkphmldgjaaGreatDoorPkA19
set_option maxRecDepth 100000
set_option maxHeartbeats 12800000
namespace Go.Proofs.YtemdkkphmldgjaaGreatDoor
open Go.RowKit Lx
namespace Lx
def lackB (b : SBlc) (r : FRule) : Bool := decide (r.kind = b.kind) && !(decide (r.key = wDigits) && !decide (codeB b wMethod = 2)) && !hasF b r.key
theorem lacksF_of (b : SBlc) : lacksF b = fldRules.any (lackB b) := rfl
theorem any_at {α : Type} {p : α -> Bool} {l : List α} {j : Nat} {a : α} (h : l[j]? = some a) (hp : p a = true) : l.any p = true := List.any_eq_true.2 ⟨a, List.mem_of_getElem? h, hp⟩
theorem any_no {α : Type} {p : α -> Bool} {l : List α} (hz : ∀ (t : Nat) b, l[t]? = some b -> p b = false) : l.any p = false := by
 rw [List.any_eq_false]
 intro x hx
 obtain ⟨i, hi, rfl⟩ := List.mem_iff_getElem.1 hx
 rw [hz i _ (List.getElem?_eq_getElem hi)]
 decide
end Lx
theorem lit_eq (u v : List UInt8) : ((stg u).toList == v) = decide (u = v) := by
 by_cases h : u = v
 . rw [decide_eq_true h, h]; exact lit_yes v
 . rw [decide_eq_false h]; exact lit_no h
theorem lacksField_c (b : SBlc) (fo : Option Addr) (fn fc : Nat) (w : World) (h : FldS anyF w fo fn fc b.flds) (hT : Tabs w) :
    Calls Tryz.prog 113 #[.agg #[.string (stg b.kind), .string (stg b.name), .slice fo fn fc, .int .i64 b.line]] w fun e w' => e = .returned (.bool (lacksF b)) /\ Below w.heap.size w w' := by
 obtain ⟨tt, fr, hg⟩ := (hT.fld)
 obtain ⟨V, e1, AV, BV, hz⟩ := new_box w 55 [.string (stg b.kind), .string (stg b.name), .slice fo fn fc, .int .i64 b.line]
 have hgV : V.heap[1]? = some (.cells fCells.toArray tt fr) := (BV.block _ (Array.getElem?_eq_some_iff.1 hg).1).trans hg
 replace hgV := Lib.hid hgV
 have HL := Lib.hid (h.below BV)
 have HCo := fun w1 (hb : Below V.heap.size V w1) => code_sc b wMethod fo fn fc w1 (HL.out.below hb)
 have HHas := fun k w1 (hb : Below V.heap.size V w1) => has_c b k fo fn fc w1 (HL.out.below hb)
 obtain ⟨R, hR⟩ : ∃ R, Hid (lacksF b = R) := ⟨_, rfl⟩
 rw [hR.out]
 obtain ⟨C, hC⟩ : ∃ R, Hid (codeB b wMethod = R) := ⟨_, rfl⟩
 rw [hC.out] at HCo
 have qc := int_nat_eq C 2 2 rfl
 obtain ⟨bb, hbb⟩ : ∃ b, w.heap.size = b := ⟨_, rfl⟩
 rw [hbb] at AV
 obtain ⟨KD, hKD⟩ : ∃ K, Hid (stg b.kind = K) := ⟨_, rfl⟩
 obtain ⟨KN, hKN⟩ : ∃ K, Hid (stg b.name = K) := ⟨_, rfl⟩
 obtain ⟨LN, hLN⟩ : ∃ K, Hid (b.line = K) := ⟨_, rfl⟩
 rw [hKD.out, hKN.out, hLN.out] at e1 AV HCo HHas
 rw [hKD.out, hKN.out, hLN.out]
 have A0 := Lib.hid AV
 have HB : Hid (Below w.heap.size w V) := BV
 replace HCo : Hid (∀ w1 (_ : Below V.heap.size V w1), Calls Tryz.prog 119 #[.agg #[.string KD, .string KN, .slice fo fn fc, .int .i64 LN], .string ⟨#[109, 101, 116, 104, 111, 100]⟩] w1 fun e w' => e = .returned (.int .i64 (C : Int)) /\ Below w1.heap.size w1 w') := HCo
 replace HHas := Lib.hid HHas
 clear hT hg AV BV hz h
 go_enter Tryz.func113, Tryz.ntmps113
 go_wp2_with (with_reducible refine wpList_load_row rfl 218 _ rfl 1 rfl tt fCells.toArray fr _ hgV.out Tryz.underlying218 rfl (by kernel_rfl) ?_)
 clear e1
 go_loopw [4, 5, 7] (fun _ _ i wr => ∃ j : Nat, j <= 19 /\ i = .int .i64 (j : Int) /\ Below V.heap.size V wr /\ Hid (∀ (t : Nat) r, t < j -> fldRules[t]? = some r -> lackB b r = false)) (fun _ _ i _ => 19 - (intOf i).toNat)
 case atStart => exact ⟨0, Nat.zero_le _, rfl, Below.refl _ _, fun t g ht => absurd ht (by omega)⟩
 case round =>
  obtain ⟨w1, hw1⟩ : ∃ x, x = wr := ⟨_, rfl⟩
  subst hw1
  obtain ⟨j, hj, rfl, B, HZ⟩ := hrel
  by_cases hlt : j < 19
  . have hlt' : (j : Int) < 19 := by omega
    obtain ⟨r, hr⟩ : ∃ r, fldRules[j]? = some r := ⟨_, List.getElem?_eq_getElem (by show j < 19; exact hlt)⟩
    have hI := fld_index j r hr
    replace hr := Lib.hid hr
    have hq := str_eq r.kind b.kind
    have hp := lit_eq r.key wDigits
    obtain ⟨U, W1, e3, e4, AW, BW, zW, f0, f1, f2, f3, f4, f5, f6, f7, f8, f9⟩ := new_put5 w1 212 (.string ⟨#[]⟩) (.string ⟨#[]⟩) (.int .i64 0) (.int .i64 0) (.int .i64 0) (.string (stg r.kind)) (.string (stg r.key)) (.int .i64 r.form) (.int .i64 r.least) (.int .i64 r.most)
    have A1 := Lib.hid ((A0.out.kept B).kept BW)
    have AW1 := Lib.hid AW
    have B2 : Hid (Below V.heap.size V W1) := B.trans (BW.mono B.size)
    have HH := HHas.out r.key
    have hLk : Hid (lackB b r = (decide (r.kind = b.kind) && !(decide (r.key = wDigits) && !decide (C = 2)) && !hasF b r.key)) := by show _ = _; rw [<- hC.out]; rfl
    have HZ2 : Hid (lackB b r = false -> ∀ (t : Nat) r, t < j + 1 -> fldRules[t]? = some r -> lackB b r = false) := by
     intro hl t g ht e
     by_cases h1 : t = j
     . rw [h1, hr.out] at e
       injection e with e
       rw [<- e]
       exact hl
     . exact HZ.out t g (by omega) e
    obtain ⟨g, hg⟩ : ∃ g, w1.heap.size = g := ⟨_, rfl⟩
    rw [hg] at AW1 e4 f0 f1 f2 f3 f4 f5 f6 f7 f8 f9
    obtain ⟨K, hK⟩ : ∃ K, Hid (stg r.kind = K) := ⟨_, rfl⟩
    obtain ⟨K2, hK2⟩ : ∃ K, Hid (stg r.key = K) := ⟨_, rfl⟩
    obtain ⟨M0, hM0⟩ : ∃ M, Hid (((r.form : Nat) : Int) = M) := ⟨_, rfl⟩
    obtain ⟨M1, hM1⟩ : ∃ M, Hid (((r.least : Nat) : Int) = M) := ⟨_, rfl⟩
    obtain ⟨M2, hM2⟩ : ∃ M, Hid (((r.most : Nat) : Int) = M) := ⟨_, rfl⟩
    obtain ⟨H, hH⟩ : ∃ H, Hid (hasF b r.key = H) := ⟨_, rfl⟩
    rw [hK.out, hK2.out, hM0.out, hM1.out, hM2.out] at hI e4 AW1
    rw [hK.out] at hq f2 f3 f4 f5 f6 f7 f8 f9
    rw [hKD.out] at hq
    rw [hK2.out] at hp f4 f5 f6 f7 f8 f9 HH
    rw [hM0.out] at f6 f7 f8 f9
    rw [hM1.out] at f8 f9
    rw [hH.out] at HH hLk
    replace HH := Lib.hid HH
    have x0 : W1.cell? ⟨g, 0, none⟩ = some (.string K) := AW1.out.cell 0
    have x1 : W1.cell? ⟨g, 1, none⟩ = some (.string K2) := AW1.out.cell 1
    have y0 : W1.cell? ⟨bb, 0, none⟩ = some (.string KD) := A1.out.cell 0
    have y1 : W1.cell? ⟨bb, 1, none⟩ = some (.string KN) := A1.out.cell 1
    have y2 : W1.cell? ⟨bb, 2, none⟩ = some (.slice fo fn fc) := A1.out.cell 2
    have y3 : W1.cell? ⟨bb, 3, none⟩ = some (.int .i64 LN) := A1.out.cell 3
    replace hp : (K2.toList == [100, 105, 103, 105, 116, 115]) = decide (r.key = wDigits) := hp
    clear B BW AW zW
    by_cases hd : r.key = wDigits
    . rw [decide_eq_true hd] at hp hLk
      have HJ := Lib.hid (HCo.out W1 B2.out)
      clear hd
      go_wp2_with fail
      refine HJ.out.mono ?_
      rintro e w8 ⟨rfl, B8⟩
      have A8 := Lib.hid (A1.out.kept B8)
      have AX := Lib.hid (AW1.out.kept B8)
      have u0 : w8.cell? ⟨g, 0, none⟩ = some (.string K) := AX.out.cell 0
      have u1 : w8.cell? ⟨g, 1, none⟩ = some (.string K2) := AX.out.cell 1
      have v0 : w8.cell? ⟨bb, 0, none⟩ = some (.string KD) := A8.out.cell 0
      have v1 : w8.cell? ⟨bb, 1, none⟩ = some (.string KN) := A8.out.cell 1
      have v2 : w8.cell? ⟨bb, 2, none⟩ = some (.slice fo fn fc) := A8.out.cell 2
      have v3 : w8.cell? ⟨bb, 3, none⟩ = some (.int .i64 LN) := A8.out.cell 3
      replace B8 : Hid (Below V.heap.size V w8) := B2.out.trans (B8.mono B2.out.size)
      clear HJ e3 e4 f0 f1 f2 f3 f4 f5 f6 f7 f8 f9 x0 x1 y0 y1 y2 y3
      by_cases hk : r.kind = b.kind
      . rw [decide_eq_true hk] at hq hLk
        by_cases hc : C = 2
        . rw [decide_eq_true hc] at qc hLk
          have qn : ((C : Int) != 2) = false := by unfold bne; rw [qc]; rfl
          have HJ := Lib.hid (HH.out w8 B8.out)
          clear hk hc
          go_wp2_with fail
          refine HJ.out.mono ?_
          rintro e w9 ⟨rfl, B9⟩
          replace B9 : Hid (Below V.heap.size V w9) := B8.out.trans (B9.mono B8.out.size)
          clear HJ
          cases H with
          | true =>
           have hl : Hid (lackB b r = false) := by show _ = _; rw [hLk.out]; simp
           go_wp2_with fail
           go_roundw
           case rel => exact ⟨j + 1, by omega, by go_num, B9.out, HZ2.out hl.out⟩
           case measure => simp [intOf]; omega
          | false =>
           have hl : Hid (R = true) := by show _ = _; rw [<- hR.out, lacksF_of]; exact any_at hr.out (by rw [hLk.out]; simp)
           have BF : Hid (Below w.heap.size w w9) := HB.out.trans (B9.out.mono HB.out.size)
           go_wp2_with fail
           go_ret
           exact ⟨by rw [hl.out]; rfl, by first | exact BF.out | (rw [<- hbb]; exact BF.out)⟩
        . rw [decide_eq_false hc] at qc hLk
          have qn : ((C : Int) != 2) = true := by unfold bne; rw [qc]; rfl
          have hl : Hid (lackB b r = false) := by show _ = _; rw [hLk.out]; simp
          clear hk hc
          go_wp2_with fail
          go_roundw
          case rel => exact ⟨j + 1, by omega, by go_num, B8.out, HZ2.out hl.out⟩
          case measure => simp [intOf]; omega
      . rw [decide_eq_false hk] at hq hLk
        have hl : Hid (lackB b r = false) := by show _ = _; rw [hLk.out]; simp
        by_cases hc : C = 2
        . rw [decide_eq_true hc] at qc
          have qn : ((C : Int) != 2) = false := by unfold bne; rw [qc]; rfl
          clear hk hc
          go_wp2_with fail
          go_roundw
          case rel => exact ⟨j + 1, by omega, by go_num, B8.out, HZ2.out hl.out⟩
          case measure => simp [intOf]; omega
        . rw [decide_eq_false hc] at qc
          have qn : ((C : Int) != 2) = true := by unfold bne; rw [qc]; rfl
          clear hk hc
          go_wp2_with fail
          go_roundw
          case rel => exact ⟨j + 1, by omega, by go_num, B8.out, HZ2.out hl.out⟩
          case measure => simp [intOf]; omega
    . rw [decide_eq_false hd] at hp hLk
      by_cases hk : r.kind = b.kind
      . rw [decide_eq_true hk] at hq hLk
        have HJ := Lib.hid (HH.out W1 B2.out)
        clear hk hd
        go_wp2_with fail
        refine HJ.out.mono ?_
        rintro e w9 ⟨rfl, B9⟩
        replace B9 : Hid (Below V.heap.size V w9) := B2.out.trans (B9.mono B2.out.size)
        clear HJ
        cases H with
        | true =>
         have hl : Hid (lackB b r = false) := by show _ = _; rw [hLk.out]; simp
         go_wp2_with fail
         go_roundw
         case rel => exact ⟨j + 1, by omega, by go_num, B9.out, HZ2.out hl.out⟩
         case measure => simp [intOf]; omega
        | false =>
         have hl : Hid (R = true) := by show _ = _; rw [<- hR.out, lacksF_of]; exact any_at hr.out (by rw [hLk.out]; simp)
         have BF : Hid (Below w.heap.size w w9) := HB.out.trans (B9.out.mono HB.out.size)
         go_wp2_with fail
         go_ret
         exact ⟨by rw [hl.out]; rfl, by first | exact BF.out | (rw [<- hbb]; exact BF.out)⟩
      . rw [decide_eq_false hk] at hq hLk
        have hl : Hid (lackB b r = false) := by show _ = _; rw [hLk.out]; simp
        clear hk hd
        go_wp2_with fail
        go_roundw
        case rel => exact ⟨j + 1, by omega, by go_num, B2.out, HZ2.out hl.out⟩
        case measure => simp [intOf]; omega
  . have hlt' : ¬ (j : Int) < 19 := by omega
    have hl : Hid (R = false) := by show _ = _; rw [<- hR.out, lacksF_of]; exact any_no fun t r' hb => HZ.out t r' (by have h1 := (List.getElem?_eq_some_iff.1 hb).1; have h2 : t < 19 := h1; omega) hb
    have BF : Hid (Below w.heap.size w w1) := HB.out.trans (B.mono HB.out.size)
    clear B
    go_wp2_with fail
    go_ret
    exact ⟨by rw [hl.out]; rfl, by first | exact BF.out | (rw [<- hbb]; exact BF.out)⟩
end Go.Proofs.YtemdkkphmldgjaaGreatDoor
namespace Go.Proofs.YtemdkkphmldgjaaGreatDoor
open Go.RowKit Lx
namespace Lx
def togOk (b : SBlc) : Prop := (b.kind = kContest -> valueOf b wSeats = [] \/ numB (valueOf b wSeats) = true) /\ (b.kind = kScan -> (valueOf b wBlank = [] \/ numB (valueOf b wBlank) = true) /\ (valueOf b wMarked = [] \/ numB (valueOf b wMarked) = true))
end Lx
theorem fault_box {B g : Nat} {w : World} {v0 v1 : Value} (h : Arr w g 37 [v0, v1]) (a : World) (hb : Below B a w) (hg : B <= g) (u0 u1 : Value) : ∃ V, (w.setCell ⟨g, 0, none⟩ u0).setCell ⟨g, 1, none⟩ u1 = V /\ V.cell? ⟨g, 0, none⟩ = some u0 /\ V.cell? ⟨g, 1, none⟩ = some u1 /\ Below B a V /\
    w.cell? ⟨g, 0, none⟩ = some v0 /\ w.frozen? ⟨g, 0, none⟩ = false /\ (w.setCell ⟨g, 0, none⟩ u0).cell? ⟨g, 1, none⟩ = some v1 /\ (w.setCell ⟨g, 0, none⟩ u0).frozen? ⟨g, 1, none⟩ = false := by
 obtain ⟨V, e, hV, AV, f0, f1, f2, f3⟩ := put_box2 h u0 u1
 refine ⟨V, e, AV.cell 0, AV.cell 1, ?_, f0, f1, f2, f3⟩
 rw [hV.out]
 exact below_put2 hb hg u0 u1
theorem below_on {a b d : World} (h : Below a.heap.size a b) (k : Below b.heap.size b d) : Below a.heap.size a d := h.trans (k.mono h.size)
theorem checkTogether_c (b : SBlc) (fo : Option Addr) (fn fc : Nat) (w : World) (h : FldS anyF w fo fn fc b.flds) (hok : togOk b) (hT : Tabs w) :
    Calls Tryz.prog 114 #[.agg #[.string (stg b.kind), .string (stg b.name), .slice fo fn fc, .int .i64 b.line]] w fun e w' => e = .returned (.agg #[.int .i64 (((togE b).1 : Nat) : Int), .int .i64 (togE b).2]) /\ Below w.heap.size w w' := by
 obtain ⟨V, e1, AV, BV, hz⟩ := new_box w 55 [.string (stg b.kind), .string (stg b.name), .slice fo fn fc, .int .i64 b.line]
 obtain ⟨U, e2, AU, BU, hz2⟩ := new_box V 37 [.int .i64 0, .int .i64 0]
 have HL := Lib.hid ((h.below BV).below BU)
 have HT := Lib.hid ((hT.below BV).below BU)
 have HCo := fun w1 (hb : Below U.heap.size U w1) => code_sc b wMethod fo fn fc w1 (HL.out.below hb)
 have HHas := fun w1 (hb : Below U.heap.size U w1) => has_c b wDigits fo fn fc w1 (HL.out.below hb)
 have HFd := fun w1 (hb : Below U.heap.size U w1) => fieldOf_c b wDigits fo fn fc w1 (HL.out.below hb)
 have HFs := fun w1 (hb : Below U.heap.size U w1) => fieldOf_c b wSeats fo fn fc w1 (HL.out.below hb)
 have HNs := fun hv w1 (hb : Below U.heap.size U w1) => number_sc b wSeats fo fn fc w1 (HL.out.below hb) hv (HT.out.below hb)
 have HNb := fun hv w1 (hb : Below U.heap.size U w1) => number_sc b wBlank fo fn fc w1 (HL.out.below hb) hv (HT.out.below hb)
 have HNm := fun hv w1 (hb : Below U.heap.size U w1) => number_sc b wMarked fo fn fc w1 (HL.out.below hb) hv (HT.out.below hb)
 obtain ⟨bb, hbb⟩ : ∃ b, w.heap.size = b := ⟨_, rfl⟩
 rw [hbb] at AV hz
 rw [hz] at AU
 have A0 := Lib.hid (AV.kept BU)
 have A1 := Lib.hid AU
 have HB : Hid (Below bb w U) := by show Below _ _ _; rw [<- hbb]; exact BV.trans (BU.mono BV.size)
 have hle : Hid (bb <= bb + 1) := by show _ <= _; omega
 have hbs : Hid (bb <= U.heap.size) := by show _ <= _; have := HB.out.size; omega
 rw [<- hbb] at HB
 have hL : Hid (lineF b wDigits = (fldOr b wDigits).line /\ lineF b wSeats = (fldOr b wSeats).line) := ⟨lineF_or _ _, lineF_or _ _⟩
 obtain ⟨C, hC⟩ : ∃ R, Hid (codeB b wMethod = R) := ⟨_, rfl⟩
 obtain ⟨H, hH⟩ : ∃ R, Hid (hasF b wDigits = R) := ⟨_, rfl⟩
 obtain ⟨NS, hNS⟩ : ∃ R, Hid (numberOf b wSeats = R) := ⟨_, rfl⟩
 obtain ⟨NB, hNB⟩ : ∃ R, Hid (numberOf b wBlank = R) := ⟨_, rfl⟩
 obtain ⟨NM, hNM⟩ : ∃ R, Hid (numberOf b wMarked = R) := ⟨_, rfl⟩
 rw [hC.out] at HCo
 rw [hH.out] at HHas
 rw [hNS.out] at HNs
 rw [hNB.out] at HNb
 rw [hNM.out] at HNm
 have qk := lit_eq b.kind kContest
 have qs := lit_eq b.kind kScan
 have qc2 := int_nat_eq C 2 2 rfl
 have qc1 := int_nat_eq C 1 1 rfl
 have hspec : togE b = if b.kind = kContest then if H && !decide (C = 2) then (5, (fldOr b wDigits).line) else if decide (C = 1) && decide (1 < NS) then (4, (fldOr b wSeats).line) else (0, 0)
     else if b.kind = kScan then (if NM < NB then (4, b.line) else (0, 0)) else (0, 0) := by
  rw [<- hC.out, <- hH.out, <- hNS.out, <- hNB.out, <- hNM.out, <- hL.out.1, <- hL.out.2]
  rfl
 obtain ⟨TE, hTE⟩ : ∃ T, togE b = T := ⟨_, rfl⟩
 rw [hTE] at hspec |-
 obtain ⟨KD, hKD⟩ : ∃ K, Hid (stg b.kind = K) := ⟨_, rfl⟩
 obtain ⟨KN, hKN⟩ : ∃ K, Hid (stg b.name = K) := ⟨_, rfl⟩
 obtain ⟨LN, hLN⟩ : ∃ K, Hid (b.line = K) := ⟨_, rfl⟩
 rw [hKD.out, hKN.out, hLN.out] at e1 A0 HCo HHas HFd HFs HNs HNb HNm
 rw [hLN.out] at hspec
 rw [hKD.out] at qk qs
 rw [hKD.out, hKN.out, hLN.out]
 replace qk : (KD.toList == [99, 111, 110, 116, 101, 115, 116]) = decide (b.kind = kContest) := qk
 replace qs : (KD.toList == [115, 99, 97, 110]) = decide (b.kind = kScan) := qs
 have y0 : U.cell? ⟨bb, 0, none⟩ = some (.string KD) := A0.out.cell 0
 have y1 : U.cell? ⟨bb, 1, none⟩ = some (.string KN) := A0.out.cell 1
 have y2 : U.cell? ⟨bb, 2, none⟩ = some (.slice fo fn fc) := A0.out.cell 2
 have y3 : U.cell? ⟨bb, 3, none⟩ = some (.int .i64 LN) := A0.out.cell 3
 clear hT AV AU BV BU hz2 h hTE
 replace HCo : Hid (∀ w1 (_ : Below U.heap.size U w1), Calls Tryz.prog 119 #[.agg #[.string KD, .string KN, .slice fo fn fc, .int .i64 LN], .string ⟨#[109, 101, 116, 104, 111, 100]⟩] w1 fun e w' => e = .returned (.int .i64 (C : Int)) /\ Below w1.heap.size w1 w') := HCo
 replace HHas : Hid (∀ w1 (_ : Below U.heap.size U w1), Calls Tryz.prog 173 #[.agg #[.string KD, .string KN, .slice fo fn fc, .int .i64 LN], .string ⟨#[100, 105, 103, 105, 116, 115]⟩] w1 fun e w' => e = .returned (.bool H) /\ Below w1.heap.size w1 w') := HHas
 replace HFd : Hid (∀ w1 (_ : Below U.heap.size U w1), Calls Tryz.prog 115 #[.agg #[.string KD, .string KN, .slice fo fn fc, .int .i64 LN], .string ⟨#[100, 105, 103, 105, 116, 115]⟩] w1 fun e w' => ∃ vo vn vc, e = .returned (.agg #[.string (stg (fldOr b wDigits).key), .slice vo vn vc, .int .i64 (fldOr b wDigits).line]) /\ StrL anyF w' vo vn vc (fldOr b wDigits).vals /\ Below w1.heap.size w1 w') := HFd
 replace HFs : Hid (∀ w1 (_ : Below U.heap.size U w1), Calls Tryz.prog 115 #[.agg #[.string KD, .string KN, .slice fo fn fc, .int .i64 LN], .string ⟨#[115, 101, 97, 116, 115]⟩] w1 fun e w' => ∃ vo vn vc, e = .returned (.agg #[.string (stg (fldOr b wSeats).key), .slice vo vn vc, .int .i64 (fldOr b wSeats).line]) /\ StrL anyF w' vo vn vc (fldOr b wSeats).vals /\ Below w1.heap.size w1 w') := HFs
 by_cases hk : b.kind = kContest
 . rw [decide_eq_true hk] at qk
   rw [if_pos hk] at hspec
   have HNs2 := HNs (hok.1 hk)
   replace HNs2 : Hid (∀ w1 (_ : Below U.heap.size U w1), Calls Tryz.prog 65 #[.agg #[.string KD, .string KN, .slice fo fn fc, .int .i64 LN], .string ⟨#[115, 101, 97, 116, 115]⟩] w1 fun e w' => e = .returned (.int .i64 (NS : Int)) /\ Below w1.heap.size w1 w') := HNs2
   clear HNs HNb HNm hok hk
   go_enter Tryz.func114, Tryz.ntmps114
   have HJ := Lib.hid (HHas.out U (Below.refl U.heap.size U))
   go_wp2_with fail
   refine HJ.out.mono ?_
   rintro e w2 ⟨rfl, B2⟩
   have A_w2 := Lib.hid (A0.out.kept ((Below.refl U.heap.size U).trans (B2.mono (Below.refl U.heap.size U).size)))
   have F_w2 := Lib.hid (A1.out.kept ((Below.refl U.heap.size U).trans (B2.mono (Below.refl U.heap.size U).size)))
   have a0_w2 : w2.cell? ⟨bb, 0, none⟩ = some (.string KD) := A_w2.out.cell 0
   have a1_w2 : w2.cell? ⟨bb, 1, none⟩ = some (.string KN) := A_w2.out.cell 1
   have a2_w2 : w2.cell? ⟨bb, 2, none⟩ = some (.slice fo fn fc) := A_w2.out.cell 2
   have a3_w2 : w2.cell? ⟨bb, 3, none⟩ = some (.int .i64 LN) := A_w2.out.cell 3
   replace B2 : Hid (Below U.heap.size U w2) := (Below.refl U.heap.size U).trans (B2.mono (Below.refl U.heap.size U).size)
   clear HJ
   clear y0 y1 y2 y3
   cases H with
   | true =>
    have HJ := Lib.hid (HCo.out w2 B2.out)
    go_wp2_with fail
    refine HJ.out.mono ?_
    rintro e w3 ⟨rfl, B3⟩
    have A_w3 := Lib.hid (A0.out.kept (B2.out.trans (B3.mono B2.out.size)))
    have F_w3 := Lib.hid (A1.out.kept (B2.out.trans (B3.mono B2.out.size)))
    have a0_w3 : w3.cell? ⟨bb, 0, none⟩ = some (.string KD) := A_w3.out.cell 0
    have a1_w3 : w3.cell? ⟨bb, 1, none⟩ = some (.string KN) := A_w3.out.cell 1
    have a2_w3 : w3.cell? ⟨bb, 2, none⟩ = some (.slice fo fn fc) := A_w3.out.cell 2
    have a3_w3 : w3.cell? ⟨bb, 3, none⟩ = some (.int .i64 LN) := A_w3.out.cell 3
    replace B3 : Hid (Below U.heap.size U w3) := B2.out.trans (B3.mono B2.out.size)
    clear HJ
    by_cases hc : C = 2
    . rw [decide_eq_true hc] at qc2
      have qn2 : ((C : Int) != 2) = false := by unfold bne; rw [qc2]; rfl
      have hc1 : ¬ C = 1 := by omega
      rw [decide_eq_false hc1] at qc1
      have hspec : Hid (TE = (0, 0)) := by show _ = _; rw [hspec, decide_eq_true hc, decide_eq_false hc1]; rfl
      clear hc hc1
      have HJ := Lib.hid (HCo.out w3 B3.out)
      go_wp2_with fail
      refine HJ.out.mono ?_
      rintro e w4 ⟨rfl, B4⟩
      have A_w4 := Lib.hid (A0.out.kept (B3.out.trans (B4.mono B3.out.size)))
      have F_w4 := Lib.hid (A1.out.kept (B3.out.trans (B4.mono B3.out.size)))
      have a0_w4 : w4.cell? ⟨bb, 0, none⟩ = some (.string KD) := A_w4.out.cell 0
      have a1_w4 : w4.cell? ⟨bb, 1, none⟩ = some (.string KN) := A_w4.out.cell 1
      have a2_w4 : w4.cell? ⟨bb, 2, none⟩ = some (.slice fo fn fc) := A_w4.out.cell 2
      have a3_w4 : w4.cell? ⟨bb, 3, none⟩ = some (.int .i64 LN) := A_w4.out.cell 3
      replace B4 : Hid (Below U.heap.size U w4) := B3.out.trans (B4.mono B3.out.size)
      clear HJ
      have BF0 : Below w.heap.size w w4 := HB.out.trans (B4.out.mono HB.out.size)
      obtain ⟨Y, e9, r0, r1, BF, g0, g1, g2, g3⟩ := fault_box F_w4.out w BF0 (by rw [hbb]; exact hle.out) (.int .i64 0) (.int .i64 0)
      replace BF := Lib.hid BF
      clear BF0
      go_wp2_with fail
      refine bodyPost_ret (v := .agg #[.int .i64 0, .int .i64 0]) (by simp [results, Tryz.results114, go_sem, r0, r1]) rfl ?_
      exact ⟨by rw [hspec.out]; rfl, by first | exact BF.out | (rw [<- hbb]; exact BF.out)⟩
    . rw [decide_eq_false hc] at qc2
      have qn2 : ((C : Int) != 2) = true := by unfold bne; rw [qc2]; rfl
      have hspec : Hid (TE = (5, (fldOr b wDigits).line)) := by show _ = _; rw [hspec, decide_eq_false hc]; rfl
      obtain ⟨LL, hLL⟩ : ∃ L, Hid ((fldOr b wDigits).line = L) := ⟨_, rfl⟩
      rw [hLL.out] at hspec HFd
      clear hc
      have HJ := Lib.hid (HFd.out w3 B3.out)
      go_wp2_with fail
      refine HJ.out.mono ?_
      rintro e w4 ⟨vo, vn, vc, rfl, SL, B4⟩
      have A_w4 := Lib.hid (A0.out.kept (B3.out.trans (B4.mono B3.out.size)))
      have F_w4 := Lib.hid (A1.out.kept (B3.out.trans (B4.mono B3.out.size)))
      have a0_w4 : w4.cell? ⟨bb, 0, none⟩ = some (.string KD) := A_w4.out.cell 0
      have a1_w4 : w4.cell? ⟨bb, 1, none⟩ = some (.string KN) := A_w4.out.cell 1
      have a2_w4 : w4.cell? ⟨bb, 2, none⟩ = some (.slice fo fn fc) := A_w4.out.cell 2
      have a3_w4 : w4.cell? ⟨bb, 3, none⟩ = some (.int .i64 LN) := A_w4.out.cell 3
      replace B4 : Hid (Below U.heap.size U w4) := B3.out.trans (B4.mono B3.out.size)
      clear HJ
      have hfd := field_2 (.string (stg (fldOr b wDigits).key)) (.int .i64 LL) vo vn vc
      clear SL
      have BF0 : Below w.heap.size w w4 := HB.out.trans (B4.out.mono HB.out.size)
      obtain ⟨Y, e9, r0, r1, BF, g0, g1, g2, g3⟩ := fault_box F_w4.out w BF0 (by rw [hbb]; exact hle.out) (.int .i64 5) (.int .i64 LL)
      replace BF := Lib.hid BF
      clear BF0
      go_wp2_with fail
      refine bodyPost_ret (v := .agg #[.int .i64 5, .int .i64 LL]) (by simp [results, Tryz.results114, go_sem, r0, r1]) rfl ?_
      exact ⟨by rw [hspec.out]; rfl, by first | exact BF.out | (rw [<- hbb]; exact BF.out)⟩
   | false =>
    replace hspec : TE = if decide (C = 1) && decide (1 < NS) then (4, (fldOr b wSeats).line) else (0, 0) := hspec
    have HJ := Lib.hid (HCo.out w2 B2.out)
    go_wp2_with fail
    refine HJ.out.mono ?_
    rintro e w4 ⟨rfl, B4⟩
    have A_w4 := Lib.hid (A0.out.kept (B2.out.trans (B4.mono B2.out.size)))
    have F_w4 := Lib.hid (A1.out.kept (B2.out.trans (B4.mono B2.out.size)))
    have a0_w4 : w4.cell? ⟨bb, 0, none⟩ = some (.string KD) := A_w4.out.cell 0
    have a1_w4 : w4.cell? ⟨bb, 1, none⟩ = some (.string KN) := A_w4.out.cell 1
    have a2_w4 : w4.cell? ⟨bb, 2, none⟩ = some (.slice fo fn fc) := A_w4.out.cell 2
    have a3_w4 : w4.cell? ⟨bb, 3, none⟩ = some (.int .i64 LN) := A_w4.out.cell 3
    replace B4 : Hid (Below U.heap.size U w4) := B2.out.trans (B4.mono B2.out.size)
    clear HJ
    by_cases hc1 : C = 1
    . rw [decide_eq_true hc1] at qc1
      rw [decide_eq_true hc1, Bool.true_and] at hspec
      clear hc1
      have HJ := Lib.hid (HNs2.out w4 B4.out)
      go_wp2_with fail
      refine HJ.out.mono ?_
      rintro e w5 ⟨rfl, B5⟩
      have A_w5 := Lib.hid (A0.out.kept (B4.out.trans (B5.mono B4.out.size)))
      have F_w5 := Lib.hid (A1.out.kept (B4.out.trans (B5.mono B4.out.size)))
      have a0_w5 : w5.cell? ⟨bb, 0, none⟩ = some (.string KD) := A_w5.out.cell 0
      have a1_w5 : w5.cell? ⟨bb, 1, none⟩ = some (.string KN) := A_w5.out.cell 1
      have a2_w5 : w5.cell? ⟨bb, 2, none⟩ = some (.slice fo fn fc) := A_w5.out.cell 2
      have a3_w5 : w5.cell? ⟨bb, 3, none⟩ = some (.int .i64 LN) := A_w5.out.cell 3
      replace B5 : Hid (Below U.heap.size U w5) := B4.out.trans (B5.mono B4.out.size)
      clear HJ
      by_cases hns : 1 < NS
      . have b1 : decide ((1 : Int) < (NS : Int)) = true := decide_eq_true (by omega)
        have b2 : decide ((NS : Int) > 1) = true := decide_eq_true (by omega)
        rw [decide_eq_true hns] at hspec
        obtain ⟨LL, hLL⟩ : ∃ L, Hid ((fldOr b wSeats).line = L) := ⟨_, rfl⟩
        rw [hLL.out] at HFs
        replace hspec : Hid (TE = (4, LL)) := by show _ = _; rw [hspec, <- hLL.out]; rfl
        clear hns
        have HJ := Lib.hid (HFs.out w5 B5.out)
        go_wp2_with fail
        refine HJ.out.mono ?_
        rintro e w6 ⟨vo, vn, vc, rfl, SL, B6⟩
        have A_w6 := Lib.hid (A0.out.kept (B5.out.trans (B6.mono B5.out.size)))
        have F_w6 := Lib.hid (A1.out.kept (B5.out.trans (B6.mono B5.out.size)))
        have a0_w6 : w6.cell? ⟨bb, 0, none⟩ = some (.string KD) := A_w6.out.cell 0
        have a1_w6 : w6.cell? ⟨bb, 1, none⟩ = some (.string KN) := A_w6.out.cell 1
        have a2_w6 : w6.cell? ⟨bb, 2, none⟩ = some (.slice fo fn fc) := A_w6.out.cell 2
        have a3_w6 : w6.cell? ⟨bb, 3, none⟩ = some (.int .i64 LN) := A_w6.out.cell 3
        replace B6 : Hid (Below U.heap.size U w6) := B5.out.trans (B6.mono B5.out.size)
        clear HJ
        have hfd := field_2 (.string (stg (fldOr b wSeats).key)) (.int .i64 LL) vo vn vc
        clear SL
        have BF0 : Below w.heap.size w w6 := HB.out.trans (B6.out.mono HB.out.size)
        obtain ⟨Y, e9, r0, r1, BF, g0, g1, g2, g3⟩ := fault_box F_w6.out w BF0 (by rw [hbb]; exact hle.out) (.int .i64 4) (.int .i64 LL)
        replace BF := Lib.hid BF
        clear BF0
        go_wp2_with fail
        refine bodyPost_ret (v := .agg #[.int .i64 4, .int .i64 LL]) (by simp [results, Tryz.results114, go_sem, r0, r1]) rfl ?_
        exact ⟨by rw [hspec.out]; rfl, by first | exact BF.out | (rw [<- hbb]; exact BF.out)⟩
      . have b1 : decide ((1 : Int) < (NS : Int)) = false := decide_eq_false (by omega)
        have b2 : decide ((NS : Int) > 1) = false := decide_eq_false (by omega)
        rw [decide_eq_false hns] at hspec
        replace hspec : Hid (TE = (0, 0)) := hspec
        clear hns
        have BF0 : Below w.heap.size w w5 := HB.out.trans (B5.out.mono HB.out.size)
        obtain ⟨Y, e9, r0, r1, BF, g0, g1, g2, g3⟩ := fault_box F_w5.out w BF0 (by rw [hbb]; exact hle.out) (.int .i64 0) (.int .i64 0)
        replace BF := Lib.hid BF
        clear BF0
        go_wp2_with fail
        refine bodyPost_ret (v := .agg #[.int .i64 0, .int .i64 0]) (by simp [results, Tryz.results114, go_sem, r0, r1]) rfl ?_
        exact ⟨by rw [hspec.out]; rfl, by first | exact BF.out | (rw [<- hbb]; exact BF.out)⟩
    . rw [decide_eq_false hc1] at qc1
      rw [decide_eq_false hc1, Bool.false_and] at hspec
      replace hspec : Hid (TE = (0, 0)) := hspec
      clear hc1
      have BF0 : Below w.heap.size w w4 := HB.out.trans (B4.out.mono HB.out.size)
      obtain ⟨Y, e9, r0, r1, BF, g0, g1, g2, g3⟩ := fault_box F_w4.out w BF0 (by rw [hbb]; exact hle.out) (.int .i64 0) (.int .i64 0)
      replace BF := Lib.hid BF
      clear BF0
      go_wp2_with fail
      refine bodyPost_ret (v := .agg #[.int .i64 0, .int .i64 0]) (by simp [results, Tryz.results114, go_sem, r0, r1]) rfl ?_
      exact ⟨by rw [hspec.out]; rfl, by first | exact BF.out | (rw [<- hbb]; exact BF.out)⟩
 rw [decide_eq_false hk] at qk
 rw [if_neg hk] at hspec
 by_cases hs : b.kind = kScan
 . rw [decide_eq_true hs] at qs
   rw [if_pos hs] at hspec
   have HNb2 := HNb (hok.2 hs).1
   have HNm2 := HNm (hok.2 hs).2
   replace HNb2 : Hid (∀ w1 (_ : Below U.heap.size U w1), Calls Tryz.prog 65 #[.agg #[.string KD, .string KN, .slice fo fn fc, .int .i64 LN], .string ⟨#[98, 108, 97, 110, 107]⟩] w1 fun e w' => e = .returned (.int .i64 (NB : Int)) /\ Below w1.heap.size w1 w') := HNb2
   replace HNm2 : Hid (∀ w1 (_ : Below U.heap.size U w1), Calls Tryz.prog 65 #[.agg #[.string KD, .string KN, .slice fo fn fc, .int .i64 LN], .string ⟨#[109, 97, 114, 107, 101, 100]⟩] w1 fun e w' => e = .returned (.int .i64 (NM : Int)) /\ Below w1.heap.size w1 w') := HNm2
   clear HNs HNb HNm hok hk hs
   have D0 : U.drew.cell? ⟨bb, 0, none⟩ = some (.string KD) := y0
   have D1 : U.drew.cell? ⟨bb, 1, none⟩ = some (.string KN) := y1
   have D2 : U.drew.cell? ⟨bb, 2, none⟩ = some (.slice fo fn fc) := y2
   have D3 : U.drew.cell? ⟨bb, 3, none⟩ = some (.int .i64 LN) := y3
   have HBd : Below U.heap.size U U.drew := (Below.refl _ _).drew
   by_cases hgt : NM < NB
   . have b1 : decide ((NM : Int) < (NB : Int)) = true := decide_eq_true (by omega)
     have b2 : decide ((NB : Int) > (NM : Int)) = true := decide_eq_true (by omega)
     have b3 : decide (NM < NB) = true := decide_eq_true hgt
     rw [if_pos hgt] at hspec
     replace hspec := Lib.hid hspec
     go_enter Tryz.func114, Tryz.ntmps114
     go_wp2_with fail
     go_region_held3 (fun w' => w'.cell? ⟨bb, 0, none⟩ = some (.string KD) /\ w'.cell? ⟨bb, 1, none⟩ = some (.string KN) /\ w'.cell? ⟨bb, 2, none⟩ = some (.slice fo fn fc) /\ w'.cell? ⟨bb, 3, none⟩ = some (.int .i64 LN)) (go_keep) (first
       | (go_at_call 65; (with_reducible refine (HNb2.out _ (by assumption)).mono ?_); rintro e v1 ⟨rfl, B1⟩; have k0v1 : v1.cell? ⟨bb, 0, none⟩ = some (.string KD) := cell_keep (by assumption) B1; have k1v1 : v1.cell? ⟨bb, 1, none⟩ = some (.string KN) := cell_keep (by assumption) B1; have k2v1 : v1.cell? ⟨bb, 2, none⟩ = some (.slice fo fn fc) := cell_keep (by assumption) B1; have k3v1 : v1.cell? ⟨bb, 3, none⟩ = some (.int .i64 LN) := cell_keep (by assumption) B1; replace B1 : Below U.heap.size U v1 := below_on (by assumption) B1)
       | (go_at_call 65; (with_reducible refine (HNm2.out _ (by assumption)).mono ?_); rintro e v2 ⟨rfl, B2⟩; have k0v2 : v2.cell? ⟨bb, 0, none⟩ = some (.string KD) := cell_keep (by assumption) B2; have k1v2 : v2.cell? ⟨bb, 1, none⟩ = some (.string KN) := cell_keep (by assumption) B2; have k2v2 : v2.cell? ⟨bb, 2, none⟩ = some (.slice fo fn fc) := cell_keep (by assumption) B2; have k3v2 : v2.cell? ⟨bb, 3, none⟩ = some (.int .i64 LN) := cell_keep (by assumption) B2; replace B2 : Below U.heap.size U v2 := below_on (by assumption) B2))
     all_goals
       first
       | (
        have BF0 : Below w.heap.size w v2 := HB.out.trans (B2.mono HB.out.size)
        obtain ⟨Y, e9, r0, r1, BF, g0, g1, g2, g3⟩ := fault_box (A1.out.kept B2) w BF0 (by rw [hbb]; exact hle.out) (.int .i64 4) (.int .i64 LN)
        replace BF := Lib.hid BF
        clear BF0
        go_wp2_with fail
        refine bodyPost_ret (v := .agg #[.int .i64 4, .int .i64 LN]) (by simp [results, Tryz.results114, go_sem, r0, r1]) rfl ?_
        exact ⟨by rw [hspec.out]; rfl, by first | exact BF.out | (rw [<- hbb]; exact BF.out)⟩)
       | (
        have BF0 : Below w.heap.size w v1 := HB.out.trans (B1.mono HB.out.size)
        obtain ⟨Y, e9, r0, r1, BF, g0, g1, g2, g3⟩ := fault_box (A1.out.kept B1) w BF0 (by rw [hbb]; exact hle.out) (.int .i64 4) (.int .i64 LN)
        replace BF := Lib.hid BF
        clear BF0
        go_wp2_with fail
        refine bodyPost_ret (v := .agg #[.int .i64 4, .int .i64 LN]) (by simp [results, Tryz.results114, go_sem, r0, r1]) rfl ?_
        exact ⟨by rw [hspec.out]; rfl, by first | exact BF.out | (rw [<- hbb]; exact BF.out)⟩)
   . have b1 : decide ((NM : Int) < (NB : Int)) = false := decide_eq_false (by omega)
     have b2 : decide ((NB : Int) > (NM : Int)) = false := decide_eq_false (by omega)
     have b3 : decide (NM < NB) = false := decide_eq_false hgt
     rw [if_neg hgt] at hspec
     replace hspec := Lib.hid hspec
     go_enter Tryz.func114, Tryz.ntmps114
     go_wp2_with fail
     go_region_held3 (fun w' => w'.cell? ⟨bb, 0, none⟩ = some (.string KD) /\ w'.cell? ⟨bb, 1, none⟩ = some (.string KN) /\ w'.cell? ⟨bb, 2, none⟩ = some (.slice fo fn fc) /\ w'.cell? ⟨bb, 3, none⟩ = some (.int .i64 LN)) (go_keep) (first
       | (go_at_call 65; (with_reducible refine (HNb2.out _ (by assumption)).mono ?_); rintro e v1 ⟨rfl, B1⟩; have k0v1 : v1.cell? ⟨bb, 0, none⟩ = some (.string KD) := cell_keep (by assumption) B1; have k1v1 : v1.cell? ⟨bb, 1, none⟩ = some (.string KN) := cell_keep (by assumption) B1; have k2v1 : v1.cell? ⟨bb, 2, none⟩ = some (.slice fo fn fc) := cell_keep (by assumption) B1; have k3v1 : v1.cell? ⟨bb, 3, none⟩ = some (.int .i64 LN) := cell_keep (by assumption) B1; replace B1 : Below U.heap.size U v1 := below_on (by assumption) B1)
       | (go_at_call 65; (with_reducible refine (HNm2.out _ (by assumption)).mono ?_); rintro e v2 ⟨rfl, B2⟩; have k0v2 : v2.cell? ⟨bb, 0, none⟩ = some (.string KD) := cell_keep (by assumption) B2; have k1v2 : v2.cell? ⟨bb, 1, none⟩ = some (.string KN) := cell_keep (by assumption) B2; have k2v2 : v2.cell? ⟨bb, 2, none⟩ = some (.slice fo fn fc) := cell_keep (by assumption) B2; have k3v2 : v2.cell? ⟨bb, 3, none⟩ = some (.int .i64 LN) := cell_keep (by assumption) B2; replace B2 : Below U.heap.size U v2 := below_on (by assumption) B2))
     all_goals
       first
       | (
        have BF0 : Below w.heap.size w v2 := HB.out.trans (B2.mono HB.out.size)
        obtain ⟨Y, e9, r0, r1, BF, g0, g1, g2, g3⟩ := fault_box (A1.out.kept B2) w BF0 (by rw [hbb]; exact hle.out) (.int .i64 0) (.int .i64 0)
        replace BF := Lib.hid BF
        clear BF0
        go_wp2_with fail
        refine bodyPost_ret (v := .agg #[.int .i64 0, .int .i64 0]) (by simp [results, Tryz.results114, go_sem, r0, r1]) rfl ?_
        exact ⟨by rw [hspec.out]; rfl, by first | exact BF.out | (rw [<- hbb]; exact BF.out)⟩)
       | (
        have BF0 : Below w.heap.size w v1 := HB.out.trans (B1.mono HB.out.size)
        obtain ⟨Y, e9, r0, r1, BF, g0, g1, g2, g3⟩ := fault_box (A1.out.kept B1) w BF0 (by rw [hbb]; exact hle.out) (.int .i64 0) (.int .i64 0)
        replace BF := Lib.hid BF
        clear BF0
        go_wp2_with fail
        refine bodyPost_ret (v := .agg #[.int .i64 0, .int .i64 0]) (by simp [results, Tryz.results114, go_sem, r0, r1]) rfl ?_
        exact ⟨by rw [hspec.out]; rfl, by first | exact BF.out | (rw [<- hbb]; exact BF.out)⟩)
 rw [decide_eq_false hs] at qs
 rw [if_neg hs] at hspec
 replace hspec := Lib.hid hspec
 clear HNs HNb HNm hok hk hs
 go_enter Tryz.func114, Tryz.ntmps114
 have BF0 : Below w.heap.size w U := HB.out.trans ((Below.refl U.heap.size U).mono HB.out.size)
 obtain ⟨Y, e9, r0, r1, BF, g0, g1, g2, g3⟩ := fault_box (A1.out.kept (Below.refl U.heap.size U)) w BF0 (by rw [hbb]; exact hle.out) (.int .i64 0) (.int .i64 0)
 replace BF := Lib.hid BF
 clear BF0
 go_wp2_with fail
 refine bodyPost_ret (v := .agg #[.int .i64 0, .int .i64 0]) (by simp [results, Tryz.results114, go_sem, r0, r1]) rfl ?_
 exact ⟨by rw [hspec.out]; rfl, by first | exact BF.out | (rw [<- hbb]; exact BF.out)⟩
end Go.Proofs.YtemdkkphmldgjaaGreatDoor
