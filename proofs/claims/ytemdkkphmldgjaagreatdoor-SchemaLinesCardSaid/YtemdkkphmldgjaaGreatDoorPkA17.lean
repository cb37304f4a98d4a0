/-
  Texts of the proof, put together: SchGet SchRules.
-/
import Derived.Laws.Rows
import Derived.Test.YtemdkkphmldgjaaGreatDoorPkA11
import Derived.Test.YtemdkkphmldgjaaGreatDoorPkA16
set_option maxRecDepth 100000
set_option maxHeartbeats 6400000
namespace Go.Proofs.YtemdkkphmldgjaaGreatDoor
open Go.RowKit Lx
namespace Lx
def fldOr (b : SBlc) (k : List UInt8) : SFld := (fieldOf b k).getD ⟨[], [], 0⟩
theorem valuesOf_or (b : SBlc) (k : List UInt8) : valuesOf b k = (fldOr b k).vals := by
 unfold valuesOf fldOr
 cases fieldOf b k <;> rfl
theorem lineF_or (b : SBlc) (k : List UInt8) : lineF b k = (fldOr b k).line := by
 unfold lineF fldOr
 cases fieldOf b k <;> rfl
theorem idxF_cases (b : SBlc) (k : List UInt8) : (idxF b.flds k = -1 /\ fldOr b k = ⟨[], [], 0⟩) \/ ∃ j : Nat, idxF b.flds k = (j : Int) /\ b.flds[j]? = some (fldOr b k) := by
 unfold idxF fldOr fieldOf
 cases h : idxK k b.flds with
 | none => rw [idxK_find h]; exact Or.inl ⟨rfl, rfl⟩
 | some j =>
  obtain ⟨f, h1, h2⟩ := idxK_get h
  rw [h2]
  exact Or.inr ⟨j, rfl, h1⟩
end Lx
theorem field_1 (K z : Value) (vo : Option Addr) (vn vc : Nat) (W : World) : (Instr.field 63 (.agg #[K, .slice vo vn vc, z]) 1).run Tryz.prog W = .ok (.slice vo vn vc) W := by kernel_rfl
theorem field_2 (K z : Value) (vo : Option Addr) (vn vc : Nat) (W : World) : (Instr.field 63 (.agg #[K, .slice vo vn vc, z]) 2).run Tryz.prog W = .ok z W := by kernel_rfl
theorem has_c (b : SBlc) (k : List UInt8) (fo : Option Addr) (fn fc : Nat) (w : World) (h : FldS anyF w fo fn fc b.flds) :
    Calls Tryz.prog 173 #[.agg #[.string (stg b.kind), .string (stg b.name), .slice fo fn fc, .int .i64 b.line], .string (stg k)] w fun e w' => e = .returned (.bool (hasF b k)) /\ Below w.heap.size w w' := by
 obtain ⟨V, e1, AV, BV, hz⟩ := new_box w 55 [.string (stg b.kind), .string (stg b.name), .slice fo fn fc, .int .i64 b.line]
 have HF := indexOf_c b k fo fn fc V (h.below BV)
 have HA := Lib.hid (idxF_has b k)
 obtain ⟨R, hR⟩ : ∃ R, Hid (idxF b.flds k = R) := ⟨_, rfl⟩
 rw [hR.out] at HF HA
 obtain ⟨K, hK⟩ : ∃ K, Hid (stg b.kind = K) := ⟨_, rfl⟩
 obtain ⟨N, hN⟩ : ∃ K, Hid (stg b.name = K) := ⟨_, rfl⟩
 obtain ⟨L, hL⟩ : ∃ K, Hid (stg k = K) := ⟨_, rfl⟩
 rw [hK.out, hN.out] at e1 AV
 rw [hK.out, hN.out, hL.out] at HF
 rw [hK.out, hN.out, hL.out]
 have y0 : V.cell? ⟨w.heap.size, 0, none⟩ = some (.string K) := AV.cell 0
 have y1 : V.cell? ⟨w.heap.size, 1, none⟩ = some (.string N) := AV.cell 1
 have y2 : V.cell? ⟨w.heap.size, 2, none⟩ = some (.slice fo fn fc) := AV.cell 2
 have y3 : V.cell? ⟨w.heap.size, 3, none⟩ = some (.int .i64 b.line) := AV.cell 3
 replace HF := Lib.hid HF
 have HB := Lib.hid BV
 clear h AV BV hz
 go_enter Tryz.func173, Tryz.ntmps173
 go_wp2_with fail
 refine HF.out.mono ?_
 rintro e w1 ⟨rfl, B1⟩
 replace B1 : Hid (Below w.heap.size w w1) := HB.out.trans (B1.mono HB.out.size)
 clear HF
 go_wp2_with fail
 go_ret
 exact ⟨by rw [<- HA.out]; rfl, B1.out⟩
theorem fieldOfB_c (B : Nat) (b : SBlc) (k : List UInt8) (fo : Option Addr) (fn fc : Nat) (w : World) (h : FldS (lowF B) w fo fn fc b.flds) (hB : B <= w.heap.size) :
    Calls Tryz.prog 115 #[.agg #[.string (stg b.kind), .string (stg b.name), .slice fo fn fc, .int .i64 b.line], .string (stg k)] w fun e w' => ∃ vo vn vc, e = .returned (.agg #[.string (stg (fldOr b k).key), .slice vo vn vc, .int .i64 (fldOr b k).line]) /\ StrL (lowF B) w' vo vn vc (fldOr b k).vals /\ Below w.heap.size w w' := by
 obtain ⟨V, e1, AV, BV, hz⟩ := new_box w 55 [.string (stg b.kind), .string (stg b.name), .slice fo fn fc, .int .i64 b.line]
 obtain ⟨U, e2, AU, BU, hz2⟩ := new_box V 63 [.string ⟨#[]⟩, .slice none 0 0, .int .i64 0]
 have HF := indexOf_c b k fo fn fc U (((h.mono any_of).below BV).below BU)
 have HL := Lib.hid ((h.keep (stable_low _) (keeps_low (BV.mono hB))).keep (stable_low _) (keeps_low (BU.mono (Nat.le_trans hB BV.size))))
 have hB' := Lib.hid hB
 obtain ⟨hcap, hroom⟩ := h.caps
 have hlen := Lib.hid h.len
 have hR := idxF_cases b k
 obtain ⟨K, hK⟩ : ∃ K, Hid (stg b.kind = K) := ⟨_, rfl⟩
 obtain ⟨N, hN⟩ : ∃ K, Hid (stg b.name = K) := ⟨_, rfl⟩
 obtain ⟨L, hL⟩ : ∃ K, Hid (stg k = K) := ⟨_, rfl⟩
 rw [hK.out, hN.out] at e1 AV
 rw [hK.out, hN.out, hL.out] at HF
 rw [hK.out, hN.out, hL.out]
 obtain ⟨bb, hbb⟩ : ∃ b, w.heap.size = b := ⟨_, rfl⟩
 rw [hbb] at AV hz
 rw [hz] at AU
 have A0 := Lib.hid (AV.kept BU)
 have A1 := Lib.hid AU
 have y0 : U.cell? ⟨bb, 0, none⟩ = some (.string K) := A0.out.cell 0
 have y1 : U.cell? ⟨bb, 1, none⟩ = some (.string N) := A0.out.cell 1
 have y2 : U.cell? ⟨bb, 2, none⟩ = some (.slice fo fn fc) := A0.out.cell 2
 have y3 : U.cell? ⟨bb, 3, none⟩ = some (.int .i64 b.line) := A0.out.cell 3
 have HB : Hid (Below w.heap.size w U) := BV.trans (BU.mono BV.size)
 clear h AV AU BV BU hz2 hB
 rcases hR with ⟨h1, h2⟩ | ⟨j, h1, h2⟩
 . rw [h1] at HF
   rw [h2]
   replace HF := Lib.hid HF
   clear h1 h2
   go_enter Tryz.func115, Tryz.ntmps115
   go_wp2_with fail
   refine HF.out.mono ?_
   rintro e w1 ⟨rfl, B1⟩
   have Aw := A1.out.kept B1
   obtain ⟨Y, e3, hY, AY, f0, f1, f2, f3, f4, f5⟩ := put_box3 Aw (.string ⟨#[]⟩) (.slice none 0 0) (.int .i64 0)
   have r0 : Y.cell? ⟨bb + 1, 0, none⟩ = some (.string ⟨#[]⟩) := AY.cell 0
   have r1 : Y.cell? ⟨bb + 1, 1, none⟩ = some (.slice none 0 0) := AY.cell 1
   have r2 : Y.cell? ⟨bb + 1, 2, none⟩ = some (.int .i64 0) := AY.cell 2
   have BY : Hid (Below w.heap.size w Y) := by
    show Below _ _ _
    rw [hY.out]
    have hle : w.heap.size <= bb + 1 := by omega
    exact (((HB.out.trans (B1.mono HB.out.size)).setCell (p := ⟨_, 0, none⟩) hle _).setCell (p := ⟨_, 1, none⟩) hle _).setCell (p := ⟨_, 2, none⟩) hle _
   clear HF AY Aw B1
   go_wp2_with fail
   refine bodyPost_ret (v := .agg #[.string ⟨#[]⟩, .slice none 0 0, .int .i64 0]) (by simp [results, Tryz.results115, go_sem, r0, r1, r2]) rfl ?_
   exact ⟨none, 0, 0, rfl, Row.nil _ _ _, BY.out⟩
 . rw [h1] at HF
   replace HF := Lib.hid HF
   obtain ⟨F, hF⟩ : ∃ F, Hid (fldOr b k = F) := ⟨_, rfl⟩
   rw [hF.out] at h2 |-
   have hjn : j < fn := by have := (List.getElem?_eq_some_iff.1 h2).1; have := hlen.out; omega
   have hjn' : (j : Int) < (fn : Int) := by omega
   have h0j : (0 : Int) <= (j : Int) := by omega
   clear h1
   go_enter Tryz.func115, Tryz.ntmps115
   go_wp2_with fail
   refine HF.out.mono ?_
   rintro e w1 ⟨rfl, B1⟩
   obtain ⟨f, a, vo, vn, vc, hf, i1, c0, c1, c2, SL⟩ := (HL.out.keep (stable_low _) (keeps_low (B1.mono (Nat.le_trans hB'.out HB.out.size)))).get j hjn
   rw [h2] at hf
   obtain rfl : F = f := by injection hf
   have Aw := A1.out.kept B1
   have z2 : w1.cell? ⟨bb, 2, none⟩ = some (.slice fo fn fc) := (A0.out.kept B1).cell 2
   obtain ⟨Q1, hQ1⟩ : ∃ K, Hid (stg F.key = K) := ⟨_, rfl⟩
   rw [hQ1.out] at c0
   obtain ⟨Y, e3, hY, AY, f0, f1, f2, f3, f4, f5⟩ := put_box3 Aw (.string Q1) (.slice vo vn vc) (.int .i64 F.line)
   have r0 : Y.cell? ⟨bb + 1, 0, none⟩ = some (.string Q1) := AY.cell 0
   have r1 : Y.cell? ⟨bb + 1, 1, none⟩ = some (.slice vo vn vc) := AY.cell 1
   have r2 : Y.cell? ⟨bb + 1, 2, none⟩ = some (.int .i64 F.line) := AY.cell 2
   have hle : w.heap.size <= bb + 1 := by omega
   have BY : Hid (Below w.heap.size w Y) := by
    show Below _ _ _
    rw [hY.out]
    exact (((HB.out.trans (B1.mono HB.out.size)).setCell (p := ⟨_, 0, none⟩) hle _).setCell (p := ⟨_, 1, none⟩) hle _).setCell (p := ⟨_, 2, none⟩) hle _
   have SY : Hid (StrL (lowF B) Y vo vn vc F.vals) := by
    show StrL _ _ _ _ _ _
    rw [hY.out]
    exact Row.keep SL (stable_low _) (keeps_low (((((Below.refl w.heap.size _).setCell (p := ⟨_, 0, none⟩) hle _).setCell (p := ⟨_, 1, none⟩) hle _).setCell (p := ⟨_, 2, none⟩) hle _).mono hB'.out))
   clear HF AY Aw B1 hf h2
   go_wp2_with fail
   refine bodyPost_ret (v := .agg #[.string Q1, .slice vo vn vc, .int .i64 F.line]) (by simp [results, Tryz.results115, go_sem, r0, r1, r2]) rfl ?_
   exact ⟨vo, vn, vc, by rw [hQ1.out], SY.out, BY.out⟩
theorem fieldOf_c (b : SBlc) (k : List UInt8) (fo : Option Addr) (fn fc : Nat) (w : World) (h : FldS anyF w fo fn fc b.flds) :
    Calls Tryz.prog 115 #[.agg #[.string (stg b.kind), .string (stg b.name), .slice fo fn fc, .int .i64 b.line], .string (stg k)] w fun e w' => ∃ vo vn vc, e = .returned (.agg #[.string (stg (fldOr b k).key), .slice vo vn vc, .int .i64 (fldOr b k).line]) /\ StrL anyF w' vo vn vc (fldOr b k).vals /\ Below w.heap.size w w' :=
 (fieldOfB_c w.heap.size b k fo fn fc w h.low (Nat.le_refl _)).mono fun _ _ ⟨vo, vn, vc, h1, h2, h3⟩ => ⟨vo, vn, vc, h1, Row.mono h2 any_of, h3⟩
namespace Lx
theorem value_or (b : SBlc) (k : List UInt8) : valueOf b k = ((fldOr b k).vals[0]?).getD [] := by unfold valueOf; rw [valuesOf_or]
end Lx
theorem value_sc (b : SBlc) (k : List UInt8) (fo : Option Addr) (fn fc : Nat) (w : World) (h : FldS anyF w fo fn fc b.flds) :
    Calls Tryz.prog 69 #[.agg #[.string (stg b.kind), .string (stg b.name), .slice fo fn fc, .int .i64 b.line], .string (stg k)] w fun e w' => e = .returned (.string (stg (valueOf b k))) /\ Below w.heap.size w w' := by
 obtain ⟨V, e1, AV, BV, hz⟩ := new_box w 55 [.string (stg b.kind), .string (stg b.name), .slice fo fn fc, .int .i64 b.line]
 have HF := fieldOf_c b k fo fn fc V (h.below BV)
 have hv := Lib.hid (value_or b k)
 obtain ⟨K, hK⟩ : ∃ K, Hid (stg b.kind = K) := ⟨_, rfl⟩
 obtain ⟨N, hN⟩ : ∃ K, Hid (stg b.name = K) := ⟨_, rfl⟩
 obtain ⟨L, hL⟩ : ∃ K, Hid (stg k = K) := ⟨_, rfl⟩
 rw [hK.out, hN.out] at e1 AV
 rw [hK.out, hN.out, hL.out] at HF
 rw [hK.out, hN.out, hL.out]
 have y0 : V.cell? ⟨w.heap.size, 0, none⟩ = some (.string K) := AV.cell 0
 have y1 : V.cell? ⟨w.heap.size, 1, none⟩ = some (.string N) := AV.cell 1
 have y2 : V.cell? ⟨w.heap.size, 2, none⟩ = some (.slice fo fn fc) := AV.cell 2
 have y3 : V.cell? ⟨w.heap.size, 3, none⟩ = some (.int .i64 b.line) := AV.cell 3
 replace HF := Lib.hid HF
 have HB := Lib.hid BV
 clear h AV BV hz
 go_enter Tryz.func69, Tryz.ntmps69
 go_wp2_with fail
 refine HF.out.mono ?_
 rintro e w1 ⟨vo, vn, vc, rfl, SL, B1⟩
 have HA := at_c (fldOr b k).vals 0 vo vn vc w1 SL
 rw [if_pos (Int.le_refl 0)] at HA
 replace HA : Hid (Calls Tryz.prog 123 #[.slice vo vn vc, .int .i64 0] w1 fun e w' => e = .returned (.string (stg (valueOf b k))) /\ w1 = w') := by
  show Calls _ _ _ _ _
  rw [hv.out]
  exact HA
 replace B1 : Hid (Below w.heap.size w w1) := HB.out.trans (B1.mono HB.out.size)
 clear HF SL
 obtain ⟨F, hF⟩ : ∃ F, Hid (fldOr b k = F) := ⟨_, rfl⟩
 rw [hF.out]
 have hfd := field_1 (.string (stg F.key)) (.int .i64 F.line) vo vn vc
 go_wp2_with fail
 refine HA.out.mono ?_
 rintro e w2 ⟨rfl, rfl⟩
 clear HA hfd
 go_wp2_with fail
 go_ret
 exact ⟨rfl, B1.out⟩
theorem number_sc (b : SBlc) (k : List UInt8) (fo : Option Addr) (fn fc : Nat) (w : World) (h : FldS anyF w fo fn fc b.flds) (hv : valueOf b k = [] \/ numB (valueOf b k) = true) (hT : Tabs w) :
    Calls Tryz.prog 65 #[.agg #[.string (stg b.kind), .string (stg b.name), .slice fo fn fc, .int .i64 b.line], .string (stg k)] w fun e w' => e = .returned (.int .i64 ((numberOf b k : Nat) : Int)) /\ Below w.heap.size w w' := by
 obtain ⟨V, e1, AV, BV, hz⟩ := new_box w 55 [.string (stg b.kind), .string (stg b.name), .slice fo fn fc, .int .i64 b.line]
 have HF := value_sc b k fo fn fc V (h.below BV)
 have HI := fun w1 hb => scInt_c (valueOf b k) w1 hv ((hT.below BV).below hb)
 replace HI : ∀ w1 (_ : Below V.heap.size V w1), Calls Tryz.prog 118 #[.string (stg (valueOf b k))] w1 fun e w' => e = .returned (.int .i64 ((numberOf b k : Nat) : Int)) /\ Below w1.heap.size w1 w' := HI
 obtain ⟨R, hR⟩ : ∃ K, Hid (numberOf b k = K) := ⟨_, rfl⟩
 rw [hR.out] at HI |-
 obtain ⟨X, hX⟩ : ∃ K, Hid (stg (valueOf b k) = K) := ⟨_, rfl⟩
 rw [hX.out] at HI HF
 obtain ⟨K, hK⟩ : ∃ K, Hid (stg b.kind = K) := ⟨_, rfl⟩
 obtain ⟨N, hN⟩ : ∃ K, Hid (stg b.name = K) := ⟨_, rfl⟩
 obtain ⟨L, hL⟩ : ∃ K, Hid (stg k = K) := ⟨_, rfl⟩
 rw [hK.out, hN.out] at e1 AV
 rw [hK.out, hN.out, hL.out] at HF
 rw [hK.out, hN.out, hL.out]
 have y0 : V.cell? ⟨w.heap.size, 0, none⟩ = some (.string K) := AV.cell 0
 have y1 : V.cell? ⟨w.heap.size, 1, none⟩ = some (.string N) := AV.cell 1
 have y2 : V.cell? ⟨w.heap.size, 2, none⟩ = some (.slice fo fn fc) := AV.cell 2
 have y3 : V.cell? ⟨w.heap.size, 3, none⟩ = some (.int .i64 b.line) := AV.cell 3
 replace HF := Lib.hid HF
 replace HI := Lib.hid HI
 have HB := Lib.hid BV
 clear h AV BV hz hv hT
 go_enter Tryz.func65, Tryz.ntmps65
 go_wp2_with fail
 refine HF.out.mono ?_
 rintro e w1 ⟨rfl, B1⟩
 have HA := Lib.hid (HI.out w1 B1)
 replace B1 : Hid (Below w.heap.size w w1) := HB.out.trans (B1.mono HB.out.size)
 clear HF HI
 go_wp2_with fail
 refine HA.out.mono ?_
 rintro e w2 ⟨rfl, B2⟩
 replace B2 : Hid (Below w.heap.size w w2) := B1.out.trans (B2.mono B1.out.size)
 clear HA
 go_wp2_with fail
 go_ret
 exact ⟨rfl, B2.out⟩
theorem code_sc (b : SBlc) (k : List UInt8) (fo : Option Addr) (fn fc : Nat) (w : World) (h : FldS anyF w fo fn fc b.flds) :
    Calls Tryz.prog 119 #[.agg #[.string (stg b.kind), .string (stg b.name), .slice fo fn fc, .int .i64 b.line], .string (stg k)] w fun e w' => e = .returned (.int .i64 ((codeB b k : Nat) : Int)) /\ Below w.heap.size w w' := by
 obtain ⟨V, e1, AV, BV, hz⟩ := new_box w 55 [.string (stg b.kind), .string (stg b.name), .slice fo fn fc, .int .i64 b.line]
 have HF := value_sc b k fo fn fc V (h.below BV)
 have HI := fun w1 => codeOf_c k (valueOf b k) w1
 replace HI : ∀ w1, Calls Tryz.prog 177 #[.string (stg k), .string (stg (valueOf b k))] w1 fun e w' => e = .returned (.int .i64 ((codeB b k : Nat) : Int)) /\ Below w1.heap.size w1 w' := HI
 obtain ⟨R, hR⟩ : ∃ K, Hid (codeB b k = K) := ⟨_, rfl⟩
 rw [hR.out] at HI |-
 obtain ⟨X, hX⟩ : ∃ K, Hid (stg (valueOf b k) = K) := ⟨_, rfl⟩
 rw [hX.out] at HI HF
 obtain ⟨K, hK⟩ : ∃ K, Hid (stg b.kind = K) := ⟨_, rfl⟩
 obtain ⟨N, hN⟩ : ∃ K, Hid (stg b.name = K) := ⟨_, rfl⟩
 obtain ⟨L, hL⟩ : ∃ K, Hid (stg k = K) := ⟨_, rfl⟩
 rw [hK.out, hN.out] at e1 AV
 rw [hK.out, hN.out, hL.out] at HF
 rw [hL.out] at HI
 rw [hK.out, hN.out, hL.out]
 have y0 : V.cell? ⟨w.heap.size, 0, none⟩ = some (.string K) := AV.cell 0
 have y1 : V.cell? ⟨w.heap.size, 1, none⟩ = some (.string N) := AV.cell 1
 have y2 : V.cell? ⟨w.heap.size, 2, none⟩ = some (.slice fo fn fc) := AV.cell 2
 have y3 : V.cell? ⟨w.heap.size, 3, none⟩ = some (.int .i64 b.line) := AV.cell 3
 replace HF := Lib.hid HF
 replace HI := Lib.hid HI
 have HB := Lib.hid BV
 clear h AV BV hz
 go_enter Tryz.func119, Tryz.ntmps119
 go_wp2_with fail
 refine HF.out.mono ?_
 rintro e w1 ⟨rfl, B1⟩
 have HA := Lib.hid (HI.out w1)
 replace B1 : Hid (Below w.heap.size w w1) := HB.out.trans (B1.mono HB.out.size)
 clear HF HI
 go_wp2_with fail
 refine HA.out.mono ?_
 rintro e w2 ⟨rfl, B2⟩
 replace B2 : Hid (Below w.heap.size w w2) := B1.out.trans (B2.mono B1.out.size)
 clear HA
 go_wp2_with fail
 go_ret
 exact ⟨rfl, B2.out⟩
end Go.Proofs.YtemdkkphmldgjaaGreatDoor
namespace Go.Proofs.YtemdkkphmldgjaaGreatDoor
open Go.RowKit Lx
namespace Lx
theorem find_at {α : Type} {p : α -> Bool} : ∀ {l : List α} {j : Nat} {a : α}, l[j]? = some a -> p a = true -> (∀ (t : Nat) b, t < j -> l[t]? = some b -> p b = false) -> l.find? p = some a
  | [], j, a, h, _, _ => by simp at h
  | u :: r, 0, a, h, hp, _ => by
   have : u = a := by simpa using h
   subst this
   rw [List.find?_cons, hp]
  | u :: r, j + 1, a, h, hp, hz => by
   rw [List.find?_cons, hz 0 u (by omega) (by simp)]
   exact find_at (l := r) (j := j) (by simpa using h) hp (fun t b ht hb => hz (t + 1) b (by omega) (by simpa using hb))
theorem find_no {α : Type} {p : α -> Bool} {l : List α} (hz : ∀ (t : Nat) b, l[t]? = some b -> p b = false) : l.find? p = none := by
 rw [List.find?_eq_none]
 intro x hx
 obtain ⟨i, hi, rfl⟩ := List.mem_iff_getElem.1 hx
 rw [hz i _ (List.getElem?_eq_getElem hi)]
 decide
end Lx
theorem blk_index : ∀ (j : Nat) (r : BRule), blkRules[j]? = some r -> ∀ W, (Instr.index 113 (.agg bCells.toArray) (.int .i64 (j : Int))).run Tryz.prog W = .ok (.agg #[.string (stg r.kind), .int .i64 r.most, .bool r.named]) W
  | 0, _, rfl, W => by kernel_rfl
  | 1, _, rfl, W => by kernel_rfl
  | 2, _, rfl, W => by kernel_rfl
  | 3, _, rfl, W => by kernel_rfl
  | 4, _, rfl, W => by kernel_rfl
  | 5, _, rfl, W => by kernel_rfl
  | 6, _, rfl, W => by kernel_rfl
  | j + 7, r, h, W => by rw [List.getElem?_eq_none (by show 7 <= j + 7; omega)] at h; cases h
theorem fld_index : ∀ (j : Nat) (r : FRule), fldRules[j]? = some r -> ∀ W, (Instr.index 218 (.agg fCells.toArray) (.int .i64 (j : Int))).run Tryz.prog W = .ok (.agg #[.string (stg r.kind), .string (stg r.key), .int .i64 r.form, .int .i64 r.least, .int .i64 r.most]) W
  | 0, _, rfl, W => by kernel_rfl
  | 1, _, rfl, W => by kernel_rfl
  | 2, _, rfl, W => by kernel_rfl
  | 3, _, rfl, W => by kernel_rfl
  | 4, _, rfl, W => by kernel_rfl
  | 5, _, rfl, W => by kernel_rfl
  | 6, _, rfl, W => by kernel_rfl
  | 7, _, rfl, W => by kernel_rfl
  | 8, _, rfl, W => by kernel_rfl
  | 9, _, rfl, W => by kernel_rfl
  | 10, _, rfl, W => by kernel_rfl
  | 11, _, rfl, W => by kernel_rfl
  | 12, _, rfl, W => by kernel_rfl
  | 13, _, rfl, W => by kernel_rfl
  | 14, _, rfl, W => by kernel_rfl
  | 15, _, rfl, W => by kernel_rfl
  | 16, _, rfl, W => by kernel_rfl
  | 17, _, rfl, W => by kernel_rfl
  | 18, _, rfl, W => by kernel_rfl
  | j + 19, r, h, W => by rw [List.getElem?_eq_none (by show 19 <= j + 19; omega)] at h; cases h
def brOut (o : Option BRule) : Value := match o with
 | some r => .tuple #[.agg #[.string (stg r.kind), .int .i64 r.most, .bool r.named], .bool true]
 | none => .tuple #[.agg #[.string ⟨#[]⟩, .int .i64 0, .bool false], .bool false]
def frOut (o : Option FRule) : Value := match o with
 | some r => .tuple #[.agg #[.string (stg r.kind), .string (stg r.key), .int .i64 r.form, .int .i64 r.least, .int .i64 r.most], .bool true]
 | none => .tuple #[.agg #[.string ⟨#[]⟩, .string ⟨#[]⟩, .int .i64 0, .int .i64 0, .int .i64 0], .bool false]
theorem blockRuleOf_c (k : List UInt8) (w : World) (hT : Tabs w) :
    Calls Tryz.prog 166 #[.string (stg k)] w fun e w' => e = .returned (brOut (blkRule k)) /\ Below w.heap.size w w' := by
 obtain ⟨tt, fr, hg⟩ := (hT.blk)
 obtain ⟨V, e1, AV, BV, hz⟩ := new_box w 112 [.string ⟨#[]⟩, .int .i64 0, .bool false]
 have hgV : V.heap[0]? = some (.cells bCells.toArray tt fr) := (BV.block _ (Array.getElem?_eq_some_iff.1 hg).1).trans hg
 replace hgV := Lib.hid hgV
 obtain ⟨L, hL⟩ : ∃ K, Hid (stg k = K) := ⟨_, rfl⟩
 rw [hL.out]
 obtain ⟨R, hRr⟩ : ∃ R, Hid (blkRule k = R) := ⟨_, rfl⟩
 rw [hRr.out]
 obtain ⟨bb, hbb⟩ : ∃ b, w.heap.size = b := ⟨_, rfl⟩
 rw [hbb] at AV
 have A0 := Lib.hid AV
 have HB : Hid (Below w.heap.size w V) := BV
 have hle : Hid (w.heap.size <= bb) := by show _ <= _; omega
 clear hT hg AV BV hz
 go_enter Tryz.func166, Tryz.ntmps166
 go_wp2_with (with_reducible refine wpList_load_row rfl 113 _ rfl 0 rfl tt bCells.toArray fr _ hgV.out Tryz.underlying113 rfl (by kernel_rfl) ?_)
 go_loopw [5, 7] (fun _ i wr => ∃ j : Nat, j <= 7 /\ i = .int .i64 (j : Int) /\ Below V.heap.size V wr /\ Hid (∀ (t : Nat) r, t < j -> blkRules[t]? = some r -> decide (r.kind = k) = false)) (fun _ i _ => 7 - (intOf i).toNat)
 case atStart => exact ⟨0, Nat.zero_le _, rfl, Below.refl _ _, fun t g ht => absurd ht (by omega)⟩
 case round =>
  obtain ⟨w1, hw1⟩ : ∃ x, x = wr := ⟨_, rfl⟩
  subst hw1
  obtain ⟨j, hj, rfl, B, HZ⟩ := hrel
  by_cases hlt : j < 7
  . have hlt' : (j : Int) < 7 := by omega
    obtain ⟨r, hr⟩ : ∃ r, blkRules[j]? = some r := ⟨_, List.getElem?_eq_getElem (by show j < 7; exact hlt)⟩
    have hI := blk_index j r hr
    replace hr := Lib.hid hr
    have hq := str_eq r.kind k
    rw [hL.out] at hq
    obtain ⟨U, W1, e3, e4, AW, BW, zW, f0, f1, f2, f3, f4, f5⟩ := new_put3 w1 112 (.string ⟨#[]⟩) (.int .i64 0) (.bool false) (.string (stg r.kind)) (.int .i64 r.most) (.bool r.named)
    have y0 : W1.cell? ⟨w1.heap.size, 0, none⟩ = some (.string (stg r.kind)) := AW.cell 0
    have y1 : W1.cell? ⟨w1.heap.size, 1, none⟩ = some (.int .i64 r.most) := AW.cell 1
    have y2 : W1.cell? ⟨w1.heap.size, 2, none⟩ = some (.bool r.named) := AW.cell 2
    have A1 := Lib.hid ((A0.out.kept B).kept BW)
    have B2 : Hid (Below V.heap.size V W1) := B.trans (BW.mono B.size)
    by_cases hk : r.kind = k
    . rw [decide_eq_true hk] at hq
      have hF : Hid (blkRule k = some r) := find_at hr.out (decide_eq_true hk) HZ.out
      obtain ⟨Y, e5, hY, AY, g0, g1, g2, g3, g4, g5⟩ := put_box3 A1.out (.string (stg r.kind)) (.int .i64 r.most) (.bool r.named)
      have r0 : Y.cell? ⟨bb, 0, none⟩ = some (.string (stg r.kind)) := AY.cell 0
      have r1 : Y.cell? ⟨bb, 1, none⟩ = some (.int .i64 r.most) := AY.cell 1
      have r2 : Y.cell? ⟨bb, 2, none⟩ = some (.bool r.named) := AY.cell 2
      have BY : Hid (Below w.heap.size w Y) := by
       show Below _ _ _
       rw [hY.out]
       exact (((HB.out.trans (B2.out.mono HB.out.size)).setCell (p := ⟨_, 0, none⟩) hle.out _).setCell (p := ⟨_, 1, none⟩) hle.out _).setCell (p := ⟨_, 2, none⟩) hle.out _
      obtain ⟨K, hK⟩ : ∃ K, Hid (stg r.kind = K) := ⟨_, rfl⟩
      obtain ⟨M, hM⟩ : ∃ M, Hid (r.most = M) := ⟨_, rfl⟩
      obtain ⟨Z, hZ2⟩ : ∃ M, Hid (r.named = M) := ⟨_, rfl⟩
      rw [hK.out, hM.out, hZ2.out] at hI e4 e5
      rw [hM.out] at y1 r1
      rw [hZ2.out] at y2 r2
      rw [hK.out] at y0 r0 hq f2 f3 f4 f5 g2 g3 g4 g5
      rw [hM.out] at f4 f5 g4 g5
      have hO : Hid (brOut (some r) = .tuple #[.agg #[.string K, .int .i64 M, .bool Z], .bool true]) := by show _ = _; rw [<- hK.out, <- hM.out, <- hZ2.out]; rfl
      clear hk B BW AW AY hY zW
      go_wp2_with fail
      refine bodyPost_ret (v := .tuple #[.agg #[.string K, .int .i64 M, .bool Z], .bool true]) (by simp [results, Tryz.results166, go_sem, r0, r1, r2]) rfl ?_
      exact ⟨by rw [<- hRr.out, hF.out, hO.out], BY.out⟩
    . rw [decide_eq_false hk] at hq
      have HZ2 : Hid (∀ (t : Nat) r, t < j + 1 -> blkRules[t]? = some r -> decide (r.kind = k) = false) := by
       intro t g ht e
       by_cases h1 : t = j
       . rw [h1, hr.out] at e
         injection e with e
         rw [<- e]
         exact decide_eq_false hk
       . exact HZ.out t g (by omega) e
      obtain ⟨K, hK⟩ : ∃ K, Hid (stg r.kind = K) := ⟨_, rfl⟩
      obtain ⟨M, hM⟩ : ∃ M, Hid (r.most = M) := ⟨_, rfl⟩
      obtain ⟨Z, hZ2⟩ : ∃ M, Hid (r.named = M) := ⟨_, rfl⟩
      rw [hK.out, hM.out, hZ2.out] at hI e4
      rw [hM.out] at y1
      rw [hZ2.out] at y2
      rw [hK.out] at y0 hq f2 f3 f4 f5
      rw [hM.out] at f4 f5
      clear hk B BW AW zW
      go_wp2_with fail
      go_roundw
      case rel => exact ⟨j + 1, by omega, by go_num, B2.out, HZ2⟩
      case measure => simp [intOf]; omega
  . have hlt' : ¬ (j : Int) < 7 := by omega
    have hF : Hid (blkRule k = none) := find_no fun t b hb => HZ.out t b (by have h1 := (List.getElem?_eq_some_iff.1 hb).1; have h2 : t < 7 := h1; omega) hb
    obtain ⟨Y, e5, hY, AY, g0, g1, g2, g3, g4, g5⟩ := put_box3 (A0.out.kept B) (.string ⟨#[]⟩) (.int .i64 0) (.bool false)
    have r0 : Y.cell? ⟨bb, 0, none⟩ = some (.string ⟨#[]⟩) := AY.cell 0
    have r1 : Y.cell? ⟨bb, 1, none⟩ = some (.int .i64 0) := AY.cell 1
    have r2 : Y.cell? ⟨bb, 2, none⟩ = some (.bool false) := AY.cell 2
    have BY : Hid (Below w.heap.size w Y) := by
     show Below _ _ _
     rw [hY.out]
     exact (((HB.out.trans (B.mono HB.out.size)).setCell (p := ⟨_, 0, none⟩) hle.out _).setCell (p := ⟨_, 1, none⟩) hle.out _).setCell (p := ⟨_, 2, none⟩) hle.out _
    clear B AY hY
    go_wp2_with fail
    refine bodyPost_ret (v := .tuple #[.agg #[.string ⟨#[]⟩, .int .i64 0, .bool false], .bool false]) (by simp [results, Tryz.results166, go_sem, r0, r1, r2]) rfl ?_
    exact ⟨by rw [<- hRr.out, hF.out]; rfl, by first | exact BY.out | (rw [<- hbb]; exact BY.out)⟩
theorem fieldRuleOf_c (kd k : List UInt8) (w : World) (hT : Tabs w) :
    Calls Tryz.prog 168 #[.string (stg kd), .string (stg k)] w fun e w' => e = .returned (frOut (fldRule kd k)) /\ Below w.heap.size w w' := by
 obtain ⟨tt, fr, hg⟩ := (hT.fld)
 obtain ⟨V, e1, AV, BV, hz⟩ := new_box w 212 [.string ⟨#[]⟩, .string ⟨#[]⟩, .int .i64 0, .int .i64 0, .int .i64 0]
 have hgV : V.heap[1]? = some (.cells fCells.toArray tt fr) := (BV.block _ (Array.getElem?_eq_some_iff.1 hg).1).trans hg
 replace hgV := Lib.hid hgV
 obtain ⟨D, hD⟩ : ∃ K, Hid (stg kd = K) := ⟨_, rfl⟩
 obtain ⟨L, hL⟩ : ∃ K, Hid (stg k = K) := ⟨_, rfl⟩
 rw [hD.out, hL.out]
 obtain ⟨R, hRr⟩ : ∃ R, Hid (fldRule kd k = R) := ⟨_, rfl⟩
 rw [hRr.out]
 obtain ⟨bb, hbb⟩ : ∃ b, w.heap.size = b := ⟨_, rfl⟩
 rw [hbb] at AV
 have A0 := Lib.hid AV
 have HB : Hid (Below w.heap.size w V) := BV
 have hle : Hid (w.heap.size <= bb) := by show _ <= _; omega
 clear hT hg AV BV hz
 go_enter Tryz.func168, Tryz.ntmps168
 go_wp2_with (with_reducible refine wpList_load_row rfl 218 _ rfl 1 rfl tt fCells.toArray fr _ hgV.out Tryz.underlying218 rfl (by kernel_rfl) ?_)
 go_loopw [7, 9] (fun _ i wr => ∃ j : Nat, j <= 19 /\ i = .int .i64 (j : Int) /\ Below V.heap.size V wr /\ Hid (∀ (t : Nat) r, t < j -> fldRules[t]? = some r -> (decide (r.kind = kd) && decide (r.key = k)) = false)) (fun _ i _ => 19 - (intOf i).toNat)
 case atStart => exact ⟨0, Nat.zero_le _, rfl, Below.refl _ _, fun t g ht => absurd ht (by omega)⟩
 case round =>
  obtain ⟨w1, hw1⟩ : ∃ x, x = wr := ⟨_, rfl⟩
  subst hw1
  obtain ⟨j, hj, rfl, B, HZ⟩ := hrel
  by_cases hlt : j < 19
  . have hlt' : (j : Int) < 19 := by omega
    obtain ⟨r, hr⟩ : ∃ r, fldRules[j]? = some r := ⟨_, List.getElem?_eq_getElem (by show j < 19; exact hlt)⟩
    have hI := fld_index j r hr
    replace hr := Lib.hid hr
    have hq := str_eq r.kind kd
    have hp := str_eq r.key k
    rw [hD.out] at hq
    rw [hL.out] at hp
    obtain ⟨U, W1, e3, e4, AW, BW, zW, f0, f1, f2, f3, f4, f5, f6, f7, f8, f9⟩ := new_put5 w1 212 (.string ⟨#[]⟩) (.string ⟨#[]⟩) (.int .i64 0) (.int .i64 0) (.int .i64 0) (.string (stg r.kind)) (.string (stg r.key)) (.int .i64 r.form) (.int .i64 r.least) (.int .i64 r.most)
    have y0 : W1.cell? ⟨w1.heap.size, 0, none⟩ = some (.string (stg r.kind)) := AW.cell 0
    have y1 : W1.cell? ⟨w1.heap.size, 1, none⟩ = some (.string (stg r.key)) := AW.cell 1
    have y2 : W1.cell? ⟨w1.heap.size, 2, none⟩ = some (.int .i64 r.form) := AW.cell 2
    have y3 : W1.cell? ⟨w1.heap.size, 3, none⟩ = some (.int .i64 r.least) := AW.cell 3
    have y4 : W1.cell? ⟨w1.heap.size, 4, none⟩ = some (.int .i64 r.most) := AW.cell 4
    have A1 := Lib.hid ((A0.out.kept B).kept BW)
    have B2 : Hid (Below V.heap.size V W1) := B.trans (BW.mono B.size)
    obtain ⟨Y, e5, AY, _, hBY, g0, g1, g2, g3, g4, g5, g6, g7, g8, g9⟩ := put_box5 A1.out (.string (stg r.kind)) (.string (stg r.key)) (.int .i64 r.form) (.int .i64 r.least) (.int .i64 r.most)
    have r0 : Y.cell? ⟨bb, 0, none⟩ = some (.string (stg r.kind)) := AY.cell 0
    have r1 : Y.cell? ⟨bb, 1, none⟩ = some (.string (stg r.key)) := AY.cell 1
    have r2 : Y.cell? ⟨bb, 2, none⟩ = some (.int .i64 r.form) := AY.cell 2
    have r3 : Y.cell? ⟨bb, 3, none⟩ = some (.int .i64 r.least) := AY.cell 3
    have r4 : Y.cell? ⟨bb, 4, none⟩ = some (.int .i64 r.most) := AY.cell 4
    have BY : Hid (Below w.heap.size w Y) := hBY _ _ (HB.out.trans (B2.out.mono HB.out.size)) hle.out
    obtain ⟨K, hK⟩ : ∃ K, Hid (stg r.kind = K) := ⟨_, rfl⟩
    obtain ⟨K2, hK2⟩ : ∃ K, Hid (stg r.key = K) := ⟨_, rfl⟩
    obtain ⟨M0, hM0⟩ : ∃ M, Hid (((r.form : Nat) : Int) = M) := ⟨_, rfl⟩
    obtain ⟨M1, hM1⟩ : ∃ M, Hid (((r.least : Nat) : Int) = M) := ⟨_, rfl⟩
    obtain ⟨M2, hM2⟩ : ∃ M, Hid (((r.most : Nat) : Int) = M) := ⟨_, rfl⟩
    rw [hK.out, hK2.out, hM0.out, hM1.out, hM2.out] at hI e4 e5
    rw [hK.out] at y0 r0 hq f2 f3 f4 f5 f6 f7 f8 f9 g2 g3 g4 g5 g6 g7 g8 g9
    rw [hK2.out] at y1 r1 hp f4 f5 f6 f7 f8 f9 g4 g5 g6 g7 g8 g9
    rw [hM0.out] at y2 r2 f6 f7 f8 f9 g6 g7 g8 g9
    rw [hM1.out] at y3 r3 f8 f9 g8 g9
    rw [hM2.out] at y4 r4
    have hO : Hid (frOut (some r) = .tuple #[.agg #[.string K, .string K2, .int .i64 M0, .int .i64 M1, .int .i64 M2], .bool true]) := by show _ = _; rw [<- hK.out, <- hK2.out, <- hM0.out, <- hM1.out, <- hM2.out]; rfl
    clear B BW AW AY hBY zW
    by_cases hk : r.kind = kd
    . rw [decide_eq_true hk] at hq
      by_cases hk2 : r.key = k
      . rw [decide_eq_true hk2] at hp
        have hF : Hid (fldRule kd k = some r) := find_at hr.out (by rw [decide_eq_true hk, decide_eq_true hk2]; rfl) HZ.out
        clear hk hk2
        go_wp2_with fail
        refine bodyPost_ret (v := .tuple #[.agg #[.string K, .string K2, .int .i64 M0, .int .i64 M1, .int .i64 M2], .bool true]) (by simp [results, Tryz.results168, go_sem, r0, r1, r2, r3, r4]) rfl ?_
        exact ⟨by rw [<- hRr.out, hF.out, hO.out], BY.out⟩
      . rw [decide_eq_false hk2] at hp
        have HZ2 : Hid (∀ (t : Nat) r, t < j + 1 -> fldRules[t]? = some r -> (decide (r.kind = kd) && decide (r.key = k)) = false) := by
         intro t g ht e
         by_cases h1 : t = j
         . rw [h1, hr.out] at e
           injection e with e
           rw [<- e, decide_eq_false hk2, Bool.and_false]
         . exact HZ.out t g (by omega) e
        clear hk hk2 e5 g0 g1 g2 g3 g4 g5 g6 g7 g8 g9 r0 r1 r2 r3 r4 BY
        go_wp2_with fail
        go_roundw
        case rel => exact ⟨j + 1, by omega, by go_num, B2.out, HZ2⟩
        case measure => simp [intOf]; omega
    . rw [decide_eq_false hk] at hq
      have HZ2 : Hid (∀ (t : Nat) r, t < j + 1 -> fldRules[t]? = some r -> (decide (r.kind = kd) && decide (r.key = k)) = false) := by
       intro t g ht e
       by_cases h1 : t = j
       . rw [h1, hr.out] at e
         injection e with e
         rw [<- e, decide_eq_false hk, Bool.false_and]
       . exact HZ.out t g (by omega) e
      clear hk e5 g0 g1 g2 g3 g4 g5 g6 g7 g8 g9 r0 r1 r2 r3 r4 BY
      go_wp2_with fail
      go_roundw
      case rel => exact ⟨j + 1, by omega, by go_num, B2.out, HZ2⟩
      case measure => simp [intOf]; omega
  . have hlt' : ¬ (j : Int) < 19 := by omega
    have hF : Hid (fldRule kd k = none) := find_no fun t b hb => HZ.out t b (by have h1 := (List.getElem?_eq_some_iff.1 hb).1; have h2 : t < 19 := h1; omega) hb
    obtain ⟨Y, e5, AY, _, hBY, g0, g1, g2, g3, g4, g5, g6, g7, g8, g9⟩ := put_box5 (A0.out.kept B) (.string ⟨#[]⟩) (.string ⟨#[]⟩) (.int .i64 0) (.int .i64 0) (.int .i64 0)
    have r0 : Y.cell? ⟨bb, 0, none⟩ = some (.string ⟨#[]⟩) := AY.cell 0
    have r1 : Y.cell? ⟨bb, 1, none⟩ = some (.string ⟨#[]⟩) := AY.cell 1
    have r2 : Y.cell? ⟨bb, 2, none⟩ = some (.int .i64 0) := AY.cell 2
    have r3 : Y.cell? ⟨bb, 3, none⟩ = some (.int .i64 0) := AY.cell 3
    have r4 : Y.cell? ⟨bb, 4, none⟩ = some (.int .i64 0) := AY.cell 4
    have BY : Hid (Below w.heap.size w Y) := hBY _ _ (HB.out.trans (B.mono HB.out.size)) hle.out
    clear B AY hBY
    go_wp2_with fail
    refine bodyPost_ret (v := .tuple #[.agg #[.string ⟨#[]⟩, .string ⟨#[]⟩, .int .i64 0, .int .i64 0, .int .i64 0], .bool false]) (by simp [results, Tryz.results168, go_sem, r0, r1, r2, r3, r4]) rfl ?_
    exact ⟨by rw [<- hRr.out, hF.out]; rfl, by first | exact BY.out | (rw [<- hbb]; exact BY.out)⟩
end Go.Proofs.YtemdkkphmldgjaaGreatDoor
