/-
  Texts of the proof, put together: SchCf SchHd SchPl2 SchCb.
-/
import Derived.Test.YtemdkkphmldgjaaGreatDoorPkA18
import Derived.Test.YtemdkkphmldgjaaGreatDoorPkA19
import Derived.Test.YtemdkkphmldgjaaGreatDoorPkA20
import Derived.Test.YtemdkkphmldgjaaGreatDoorPkA25
set_option maxRecDepth 100000
set_option maxHeartbeats 12800000
namespace Go.Proofs.YtemdkkphmldgjaaGreatDoor
open Go.RowKit Lx
theorem checkField_c (kind : List UInt8) (fs : List SFld) (f : SFld) (eo vo : Option Addr) (en ec vn vc : Nat) (w : World) (hE : FldS anyF w eo en ec fs) (hV : StrL anyF w vo vn vc f.vals) (hs : shortFld kind f) (hT : Tabs w) :
    Calls Tryz.prog 112 #[.string (stg kind), .slice eo en ec, .agg #[.string (stg f.key), .slice vo vn vc, .int .i64 f.line]] w fun e w' => e = .returned (.int .i64 ((fieldE kind fs f : Nat) : Int)) /\ Below w.heap.size w w' := by
 obtain ⟨V, e1, AV, BV, hz⟩ := new_box w 63 [.string (stg f.key), .slice vo vn vc, .int .i64 f.line]
 have HR := fieldRuleOf_c kind f.key V (hT.below BV)
 have hlen := Lib.hid (StrL.len hV)
 have hcap := Row.cap hV
 have hroom := Row.room hV
 have HE := Lib.hid (hE.below BV)
 have HVs := Lib.hid (StrL.below hV BV)
 have HT := Lib.hid (hT.below BV)
 obtain ⟨E, hEE⟩ : ∃ E, Hid (fieldE kind fs f = E) := ⟨_, rfl⟩
 rw [hEE.out]
 have hspec : fieldE kind fs f = match fldRule kind f.key with
  | none => 2
  | some r => if fs.any (fun g => decide (g.key = f.key)) then 3 else if r.form = 2 then namesE r f.vals else if f.vals.length ≠ 1 then 7 else valueE r ((f.vals[0]?).getD []) := rfl
 rw [hEE.out] at hspec
 obtain ⟨g, hg⟩ : ∃ g, w.heap.size = g := ⟨_, rfl⟩
 rw [hg] at AV
 have A0 := Lib.hid AV
 have HB : Hid (Below w.heap.size w V) := BV
 obtain ⟨KD, hKD⟩ : ∃ K, Hid (stg kind = K) := ⟨_, rfl⟩
 obtain ⟨KK, hKK⟩ : ∃ K, Hid (stg f.key = K) := ⟨_, rfl⟩
 obtain ⟨LN, hLN⟩ : ∃ K, Hid (f.line = K) := ⟨_, rfl⟩
 have y0 : V.cell? ⟨g, 0, none⟩ = some (.string (stg f.key)) := AV.cell 0
 rw [hKK.out, hLN.out] at e1
 rw [hKK.out] at y0
 rw [hKD.out, hKK.out] at HR
 rw [hKD.out, hKK.out, hLN.out]
 clear hE hV AV BV hz hT
 unfold shortFld at hs
 cases hr : fldRule kind f.key with
 | none =>
  rw [hr] at HR hspec
  replace HR : Hid (Calls Tryz.prog 168 #[.string KD, .string KK] V fun e w' => e = .returned (.tuple #[.agg #[.string ⟨#[]⟩, .string ⟨#[]⟩, .int .i64 0, .int .i64 0, .int .i64 0], .bool false]) /\ Below V.heap.size V w') := HR
  replace hspec : Hid (E = 2) := hspec
  clear hr hs
  go_enter Tryz.func112, Tryz.ntmps112
  go_wp2_with fail
  refine HR.out.mono ?_
  rintro e w1 ⟨rfl, B1⟩
  obtain ⟨U, e3, AU, BU, _⟩ := new_box w1 212 [.string ⟨#[]⟩, .string ⟨#[]⟩, .int .i64 0, .int .i64 0, .int .i64 0]
  obtain ⟨U', U2, e4, e5, AU2, BU2, hzU, f0, f1, f2, f3, f4, f5, f6, f7, f8, f9⟩ := new_put5 w1 212 (.string ⟨#[]⟩) (.string ⟨#[]⟩) (.int .i64 0) (.int .i64 0) (.int .i64 0) (.string ⟨#[]⟩) (.string ⟨#[]⟩) (.int .i64 0) (.int .i64 0) (.int .i64 0)
  have BF : Hid (Below w.heap.size w U2) := (HB.out.trans (B1.mono HB.out.size)).trans (BU2.mono (HB.out.trans (B1.mono HB.out.size)).size)
  clear HR e3 AU BU AU2 BU2 hzU B1
  go_wp2_with fail
  go_ret
  exact ⟨by rw [hspec.out]; rfl, by first | exact BF.out | (rw [<- hg]; exact BF.out)⟩
 | some r =>
  rw [hr] at HR hspec
  replace hs := hs r hr
  obtain ⟨X1, hX1⟩ : ∃ K, Hid (stg r.kind = K) := ⟨_, rfl⟩
  obtain ⟨X2, hX2⟩ : ∃ K, Hid (stg r.key = K) := ⟨_, rfl⟩
  obtain ⟨M0, hM0⟩ : ∃ M, Hid (((r.form : Nat) : Int) = M) := ⟨_, rfl⟩
  obtain ⟨M1, hM1⟩ : ∃ M, Hid (((r.least : Nat) : Int) = M) := ⟨_, rfl⟩
  obtain ⟨M2, hM2⟩ : ∃ M, Hid (((r.most : Nat) : Int) = M) := ⟨_, rfl⟩
  replace HR : Calls Tryz.prog 168 #[.string KD, .string KK] V fun e w' => e = .returned (.tuple #[.agg #[.string (stg r.kind), .string (stg r.key), .int .i64 r.form, .int .i64 r.least, .int .i64 r.most], .bool true]) /\ Below V.heap.size V w' := HR
  rw [hX1.out, hX2.out, hM0.out, hM1.out, hM2.out] at HR
  replace HR := Lib.hid HR
  replace hspec : E = if fs.any (fun g => decide (g.key = f.key)) then 3 else if r.form = 2 then namesE r f.vals else if f.vals.length ≠ 1 then 7 else valueE r ((f.vals[0]?).getD []) := hspec
  obtain ⟨Z, hZ⟩ : ∃ Z, fs.any (fun g => decide (g.key = f.key)) = Z := ⟨_, rfl⟩
  rw [hZ] at hspec
  have hq := int_nat_eq r.form 2 2 rfl
  rw [hM0.out] at hq
  replace hspec := Lib.hid hspec
  replace hs := Lib.hid hs
  replace hZ := Lib.hid hZ
  clear hr
  go_enter Tryz.func112, Tryz.ntmps112
  go_wp2_with fail
  refine HR.out.mono ?_
  rintro e w1 ⟨rfl, B1⟩
  obtain ⟨U', U, e4, e5, AU, BU, hzU, f0, f1, f2, f3, f4, f5, f6, f7, f8, f9⟩ := new_put5 w1 212 (.string ⟨#[]⟩) (.string ⟨#[]⟩) (.int .i64 0) (.int .i64 0) (.int .i64 0) (.string X1) (.string X2) (.int .i64 M0) (.int .i64 M1) (.int .i64 M2)
  obtain ⟨p, hp⟩ : ∃ p, w1.heap.size = p := ⟨_, rfl⟩
  rw [hp] at AU e5 f0 f1 f2 f3 f4 f5 f6 f7 f8 f9
  have BU1 : Below V.heap.size V U := B1.trans (BU.mono B1.size)
  have AR := Lib.hid AU
  have AF := Lib.hid (A0.out.kept BU1)
  have HC := keyIn_c fs f.key g eo en ec U (HE.out.below BU1) (AF.out.cell 0)
  rw [hZ.out] at HC
  replace HC := Lib.hid HC
  have HV2 := Lib.hid (StrL.below HVs.out BU1)
  have HT2 := Lib.hid (HT.out.below BU1)
  have BW : Hid (Below w.heap.size w U) := HB.out.trans (BU1.mono HB.out.size)
  clear HR AU BU hzU B1 BU1 y0
  go_wp2_with fail
  clear f0 f1 f2 f3 f4 f5 f6 f7 f8 f9 e4 e5
  refine HC.out.mono ?_
  rintro e w2 ⟨rfl, B2⟩
  have AR2 := Lib.hid (AR.out.kept B2)
  have AF2 := Lib.hid (AF.out.kept B2)
  have HV3 := Lib.hid (StrL.below HV2.out B2)
  have HT3 := Lib.hid (HT2.out.below B2)
  have BW2 : Hid (Below w.heap.size w w2) := BW.out.trans (B2.mono BW.out.size)
  have x0 : w2.cell? ⟨p, 0, none⟩ = some (.string X1) := AR2.out.cell 0
  have x1 : w2.cell? ⟨p, 1, none⟩ = some (.string X2) := AR2.out.cell 1
  have x2 : w2.cell? ⟨p, 2, none⟩ = some (.int .i64 M0) := AR2.out.cell 2
  have x3 : w2.cell? ⟨p, 3, none⟩ = some (.int .i64 M1) := AR2.out.cell 3
  have x4 : w2.cell? ⟨p, 4, none⟩ = some (.int .i64 M2) := AR2.out.cell 4
  have z1 : w2.cell? ⟨g, 1, none⟩ = some (.slice vo vn vc) := AF2.out.cell 1
  clear HC B2
  cases Z with
  | true =>
   have hE3 : Hid (E = 3) := hspec.out
   go_wp2_with fail
   go_ret
   exact ⟨by rw [hE3.out]; rfl, by first | exact BW2.out | (rw [<- hg]; exact BW2.out)⟩
  | false =>
   have hs2 : E = if r.form = 2 then namesE r f.vals else if f.vals.length ≠ 1 then 7 else valueE r ((f.vals[0]?).getD []) := hspec.out
   by_cases hf : r.form = 2
   . rw [if_pos hf] at hs2
     rw [decide_eq_true hf] at hq
     have HN := checkNames_c r f.vals vo vn vc w2 HV3.out
     rw [<- hs2, hX1.out, hX2.out, hM0.out, hM1.out, hM2.out] at HN
     replace HN := Lib.hid HN
     clear hf hs2
     go_wp2_with fail
     refine HN.out.mono ?_
     rintro e w3 ⟨rfl, B3⟩
     replace B3 : Hid (Below w.heap.size w w3) := BW2.out.trans (B3.mono BW2.out.size)
     clear HN
     go_wp2_with fail
     go_ret
     exact ⟨rfl, by first | exact B3.out | (rw [<- hg]; exact B3.out)⟩
   . rw [if_neg hf] at hs2
     rw [decide_eq_false hf] at hq
     by_cases h1 : vn = 1
     . rw [if_neg (by rw [hlen.out]; simp [h1])] at hs2
       subst h1
       obtain ⟨v, a, hv, i1, c1⟩ := StrL.get HV3.out 0 (by omega)
       have i1' : ∀ W, (Instr.indexAt 26 (.slice vo 1 vc) (.int .i64 0)).run Tryz.prog W = .ok (.pointer (some a)) W := i1
       rw [hv] at hs2
       replace hs2 : E = valueE r v := hs2
       have hvm : v ∈ f.vals := List.mem_of_getElem? hv
       have HX := checkValue_c r v w2.drew (hs.out v hvm) (HT3.out.below (Below.refl _ _).drew)
       rw [<- hs2, hX1.out, hX2.out, hM0.out, hM1.out, hM2.out] at HX
       obtain ⟨K, hK⟩ : ∃ K, Hid (stg v = K) := ⟨_, rfl⟩
       rw [hK.out] at c1 HX
       replace HX := Lib.hid HX
       have BWd : Hid (Below w.heap.size w w2.drew) := BW2.out.drew
       clear hf hs2 hv i1 hvm
       go_wp2_with fail
       go_region_held3 (fun w' => w'.cell? ⟨p, 0, none⟩ = some (.string X1) /\ w'.cell? ⟨p, 1, none⟩ = some (.string X2) /\ w'.cell? ⟨p, 2, none⟩ = some (.int .i64 M0) /\ w'.cell? ⟨p, 3, none⟩ = some (.int .i64 M1) /\ w'.cell? ⟨p, 4, none⟩ = some (.int .i64 M2) /\ w'.cell? ⟨g, 1, none⟩ = some (.slice vo 1 vc) /\ w'.cell? a = some (.string K)) (go_keep) ((go_at_call 172; (with_reducible refine HX.out.mono ?_); rintro e w3 ⟨rfl, B3⟩; have k0 := cell_keep (w := w2.drew) x0 B3; have k1 := cell_keep (w := w2.drew) x1 B3; have k2 := cell_keep (w := w2.drew) x2 B3; have k3 := cell_keep (w := w2.drew) x3 B3; have k4 := cell_keep (w := w2.drew) x4 B3; have k5 := cell_keep (w := w2.drew) z1 B3; have k6 := cell_keep (w := w2.drew) c1 B3; have B3 := Lib.hid (BWd.out.trans (B3.mono BWd.out.size))))
       all_goals
         go_wp2_with fail
         go_ret
         exact ⟨rfl, by first | exact B3.out | (rw [<- hg]; exact B3.out)⟩
     . have h1' : ((vn : Int) == 1) = false := by simp; omega
       rw [if_pos (by rw [hlen.out]; exact h1)] at hs2
       replace hs2 := Lib.hid hs2
       clear hf
       go_wp2_with fail
       go_ret
       exact ⟨by rw [hs2.out]; rfl, by first | exact BW2.out | (rw [<- hg]; exact BW2.out)⟩
end Go.Proofs.YtemdkkphmldgjaaGreatDoor
namespace Go.Proofs.YtemdkkphmldgjaaGreatDoor
open Go.RowKit Lx
theorem checkHead_c (earlier : List SBlc) (b : SBlc) (ao fo : Option Addr) (n c fn fc : Nat) (w : World) (h : BlkS anyF w ao n c earlier) (hn : n <= 2000000) (hT : Tabs w) :
    Calls Tryz.prog 111 #[.slice ao n c, .agg #[.string (stg b.kind), .string (stg b.name), .slice fo fn fc, .int .i64 b.line]] w fun e w' => e = .returned (.int .i64 ((headE earlier b : Nat) : Int)) /\ Below w.heap.size w w' := by
 obtain ⟨V, e1, AV, BV, hz⟩ := new_box w 55 [.string (stg b.kind), .string (stg b.name), .slice fo fn fc, .int .i64 b.line]
 have HR := blockRuleOf_c b.kind V (hT.below BV)
 have HL := Lib.hid (h.below BV)
 have HK := fun w1 (hb : Below V.heap.size V w1) => ofKind_c earlier b.kind ao n c w1 (HL.out.below hb) hn
 have hlenE := Lib.hid h.len
 have hlK := Lib.hid (ofKind_len b.kind earlier)
 obtain ⟨E, hE⟩ : ∃ E, Hid (headE earlier b = E) := ⟨_, rfl⟩
 rw [hE.out]
 have hspec := headE_of earlier b
 rw [hE.out] at hspec
 obtain ⟨g, hg⟩ : ∃ g, w.heap.size = g := ⟨_, rfl⟩
 rw [hg] at AV
 have A0 := Lib.hid AV
 have HB : Hid (Below w.heap.size w V) := BV
 have y0 : V.cell? ⟨g, 0, none⟩ = some (.string (stg b.kind)) := AV.cell 0
 obtain ⟨KD, hKD⟩ : ∃ K, Hid (stg b.kind = K) := ⟨_, rfl⟩
 obtain ⟨KN, hKN⟩ : ∃ K, Hid (stg b.name = K) := ⟨_, rfl⟩
 obtain ⟨LN, hLN⟩ : ∃ K, Hid (b.line = K) := ⟨_, rfl⟩
 have A0' : Hid (Arr V g 55 [.string KD, .string KN, .slice fo fn fc, .int .i64 LN]) := by show Arr _ _ _ _; rw [<- hKD.out, <- hKN.out, <- hLN.out]; exact AV
 rw [hKD.out, hKN.out, hLN.out] at e1
 rw [hKD.out] at y0 HR HK
 rw [hKD.out, hKN.out, hLN.out]
 replace HK := Lib.hid HK
 clear h AV BV hz hT A0
 cases hr : blkRule b.kind with
 | none =>
  rw [hr] at HR hspec
  replace HR : Hid (Calls Tryz.prog 166 #[.string KD] V fun e w' => e = .returned (.tuple #[.agg #[.string ⟨#[]⟩, .int .i64 0, .bool false], .bool false]) /\ Below V.heap.size V w') := HR
  replace hspec : Hid (E = 2) := hspec
  clear hr HK
  go_enter Tryz.func111, Tryz.ntmps111
  go_wp2_with fail
  refine HR.out.mono ?_
  rintro e w1 ⟨rfl, B1⟩
  obtain ⟨U', U2, e4, e5, AU2, BU2, hzU, f0, f1, f2, f3, f4, f5⟩ := new_put3 w1 112 (.string ⟨#[]⟩) (.int .i64 0) (.bool false) (.string ⟨#[]⟩) (.int .i64 0) (.bool false)
  have BF : Hid (Below w.heap.size w U2) := (HB.out.trans (B1.mono HB.out.size)).trans (BU2.mono (HB.out.trans (B1.mono HB.out.size)).size)
  clear HR AU2 BU2 hzU B1
  go_wp2_with fail
  go_ret
  exact ⟨by rw [hspec.out]; rfl, by first | exact BF.out | (rw [<- hg]; exact BF.out)⟩
 | some r =>
  rw [hr] at HR hspec
  obtain ⟨X1, hX1⟩ : ∃ K, Hid (stg r.kind = K) := ⟨_, rfl⟩
  obtain ⟨M1, hM1⟩ : ∃ M, Hid (((r.most : Nat) : Int) = M) := ⟨_, rfl⟩
  replace HR : Calls Tryz.prog 166 #[.string KD] V fun e w' => e = .returned (.tuple #[.agg #[.string (stg r.kind), .int .i64 r.most, .bool r.named], .bool true]) /\ Below V.heap.size V w' := HR
  rw [hX1.out, hM1.out] at HR
  obtain ⟨Z, hZ⟩ : ∃ Z, r.named = Z := ⟨_, rfl⟩
  replace hspec : E = if r.named then namedE r.most (ofKind b.kind earlier) b.name else if b.name ≠ [] then 2 else if r.most <= (ofKind b.kind earlier).length then 3 else 0 := hspec
  have HNd := fun ao n c w2 h hn => checkNamed_c r (ofKind b.kind earlier) b.name ao n c w2 h hn
  rw [hX1.out, hM1.out, hKN.out] at HNd
  rw [hZ] at HR hspec HNd
  replace HR := Lib.hid HR
  replace HNd := Lib.hid HNd
  replace hspec := Lib.hid hspec
  replace hZ := Lib.hid hZ
  clear hr
  go_enter Tryz.func111, Tryz.ntmps111
  go_wp2_with fail
  refine HR.out.mono ?_
  rintro e w1 ⟨rfl, B1⟩
  obtain ⟨U', U, e4, e5, AU, BU, hzU, f0, f1, f2, f3, f4, f5⟩ := new_put3 w1 112 (.string ⟨#[]⟩) (.int .i64 0) (.bool false) (.string X1) (.int .i64 M1) (.bool Z)
  obtain ⟨p, hp⟩ : ∃ p, w1.heap.size = p := ⟨_, rfl⟩
  rw [hp] at AU e5 f0 f1 f2 f3 f4 f5
  have BU1 : Below V.heap.size V U := B1.trans (BU.mono B1.size)
  have AR := Lib.hid AU
  have AF := Lib.hid (A0'.out.kept BU1)
  have HKU := Lib.hid (HK.out U BU1)
  have BW : Hid (Below w.heap.size w U) := HB.out.trans (BU1.mono HB.out.size)
  have z0 : U.cell? ⟨g, 0, none⟩ = some (.string KD) := AF.out.cell 0
  clear HR AU BU hzU B1 BU1 y0 HK
  go_wp2_with fail
  clear f0 f1 f2 f3 f4 f5 e4 e5 z0
  refine HKU.out.mono ?_
  rintro e w2 ⟨ro, m, d, rfl, BL, B2⟩
  have hml : Hid ((ofKind b.kind earlier).length = m) := BL.len
  have hm : m <= 2000000 := by have h1 := hml.out; have h2 := hlK.out; have h3 := hlenE.out; omega
  obtain ⟨hcap, hroom⟩ := BL.caps
  have AR2 := Lib.hid (AR.out.kept B2)
  have AF2 := Lib.hid (AF.out.kept B2)
  have HJ := HNd.out ro m d w2 BL hm
  have BW2 : Hid (Below w.heap.size w w2) := BW.out.trans (B2.mono BW.out.size)
  have x0 : w2.cell? ⟨p, 0, none⟩ = some (.string X1) := AR2.out.cell 0
  have x1 : w2.cell? ⟨p, 1, none⟩ = some (.int .i64 M1) := AR2.out.cell 1
  have x2 : w2.cell? ⟨p, 2, none⟩ = some (.bool Z) := AR2.out.cell 2
  have z1 : w2.cell? ⟨g, 1, none⟩ = some (.string KN) := AF2.out.cell 1
  clear HKU B2 HNd BL
  cases Z with
  | true =>
   have hE3 : E = namedE r.most (ofKind b.kind earlier) b.name := hspec.out
   rw [<- hE3] at HJ
   replace HJ := Lib.hid HJ
   clear hE3
   go_wp2_with fail
   refine HJ.out.mono ?_
   rintro e w3 ⟨rfl, B3⟩
   replace B3 : Hid (Below w.heap.size w w3) := BW2.out.trans (B3.mono BW2.out.size)
   clear HJ
   go_wp2_with fail
   go_ret
   exact ⟨rfl, by first | exact B3.out | (rw [<- hg]; exact B3.out)⟩
  | false =>
   have hs2 : E = if b.name ≠ [] then 2 else if r.most <= (ofKind b.kind earlier).length then 3 else 0 := hspec.out
   rw [hml.out] at hs2
   clear HJ
   by_cases h0 : b.name = []
   . rw [if_neg (by simpa using h0)] at hs2
     have t0 : KN.toList = [] := by rw [<- hKN.out, h0, ByteArray.toList_eq]; rfl
     have t1 : KN.toList.isEmpty = true := by rw [t0]; rfl
     by_cases h2 : r.most <= m
     . rw [if_pos h2] at hs2
       have b4 : decide (M1 <= (m : Int)) = true := decide_eq_true (by rw [<- hM1.out]; omega)
       replace hs2 := Lib.hid hs2
       clear h2 h0
       go_wp2_with fail
       go_ret
       exact ⟨by rw [hs2.out]; rfl, by first | exact BW2.out | (rw [<- hg]; exact BW2.out)⟩
     . rw [if_neg h2] at hs2
       have b4 : decide (M1 <= (m : Int)) = false := decide_eq_false (by rw [<- hM1.out]; omega)
       replace hs2 := Lib.hid hs2
       clear h2 h0
       go_wp2_with fail
       go_ret
       exact ⟨by rw [hs2.out]; rfl, by first | exact BW2.out | (rw [<- hg]; exact BW2.out)⟩
   . rw [if_pos h0] at hs2
     have hne : KN.toList ≠ [] := by rw [<- hKN.out, ByteArray.toList_eq]; exact h0
     have hie : KN.toList.isEmpty = false := by rw [List.isEmpty_eq_false_iff]; exact hne
     replace hs2 := Lib.hid hs2
     clear h0
     go_wp2_with fail
     go_ret
     exact ⟨by rw [hs2.out]; rfl, by first | exact BW2.out | (rw [<- hg]; exact BW2.out)⟩
end Go.Proofs.YtemdkkphmldgjaaGreatDoor
namespace Go.Proofs.YtemdkkphmldgjaaGreatDoor.Lx
theorem flds_step {k : List UInt8} {fs : List SFld} {j : Nat} {f : SFld} (h : fs[j]? = some f) : fldsGo k (fs.take j) (fs.drop j) = if fieldE k (fs.take j) f ≠ 0 then (fieldE k (fs.take j) f, f.line) else fldsGo k (fs.take (j + 1)) (fs.drop (j + 1)) := by
 rw [drop_get h, fldsGo, take_snoc h]
theorem flds_end {k : List UInt8} {fs : List SFld} {j : Nat} (h : fs.length <= j) : fldsGo k (fs.take j) (fs.drop j) = (0, 0) := by
 rw [List.drop_eq_nil_of_le h]
 rfl
theorem flds_ok {k : List UInt8} {fs : List SFld} (h : (fldsGo k [] fs).1 = 0) : ∀ (i : Nat) (f : SFld), fs[i]? = some f -> fieldE k (fs.take i) f = 0 := by
 have key : ∀ j, j <= fs.length -> (fldsGo k (fs.take j) (fs.drop j)).1 = 0 /\ ∀ (i : Nat) (f : SFld), i < j -> fs[i]? = some f -> fieldE k (fs.take i) f = 0 := by
  intro j
  induction j with
  | zero => intro _; exact ⟨h, fun i f hi => absurd hi (by omega)⟩
  | succ j ih =>
   intro hj
   obtain ⟨h1, h2⟩ := ih (by omega)
   have hf : fs[j]? = some fs[j] := List.getElem?_eq_getElem (by omega)
   rw [flds_step hf] at h1
   by_cases he : fieldE k (fs.take j) fs[j] ≠ 0
   . rw [if_pos he] at h1
     exact absurd h1 he
   . rw [if_neg he] at h1
     refine ⟨h1, fun i f hi hg => ?_⟩
     by_cases e : i = j
     . subst e
       rw [hf] at hg
       injection hg with hg
       rw [<- hg]
       simpa using he
     . exact h2 i f (by omega) hg
 intro i f hg
 exact (key fs.length (Nat.le_refl _)).2 i f (List.getElem?_eq_some_iff.1 hg).1 hg
theorem field_num {b : SBlc} {k : List UInt8} {r : FRule} (h : (fldsGo b.kind [] b.flds).1 = 0) (hr : fldRule b.kind k = some r) (hf : r.form = 0) : valueOf b k = [] \/ numB (valueOf b k) = true := by
 rw [value_or]
 rcases idxF_cases b k with ⟨_, h2⟩ | ⟨j, h1, h2⟩
 . rw [h2]; exact Or.inl rfl
 . have hE := flds_ok h j _ h2
   have hkey : (fldOr b k).key = k := by
    unfold fldOr fieldOf
    cases hx : b.flds.find? (fun f => decide (f.key = k)) with
    | none =>
     unfold fldOr fieldOf at h2
     unfold idxF at h1
     cases hi : idxK k b.flds with
     | none => rw [hi] at h1; simp at h1
     | some i =>
      obtain ⟨f, _, h3⟩ := idxK_get hi
      rw [hx] at h3; cases h3
    | some f => simpa using List.find?_some hx
   unfold fieldE at hE
   rw [hkey, hr] at hE
   simp only at hE
   split at hE
   . omega
   . rw [if_neg (by omega)] at hE
     split at hE
     . omega
     . unfold valueE at hE
       rw [if_pos hf] at hE
       unfold numE at hE
       cases hn : numB (((fldOr b k).vals[0]?).getD []) with
       | true => exact Or.inr rfl
       | false => rw [hn] at hE; simp at hE
theorem togOk_of {b : SBlc} (h : (fldsGo b.kind [] b.flds).1 = 0) : togOk b :=
 ⟨fun hk => field_num (r := ⟨kContest, wSeats, 0, 1, 5⟩) h (by rw [hk]; rfl) rfl, fun hk => ⟨field_num (r := ⟨kScan, wBlank, 0, 1, 100⟩) h (by rw [hk]; rfl) rfl, field_num (r := ⟨kScan, wMarked, 0, 1, 100⟩) h (by rw [hk]; rfl) rfl⟩⟩
theorem blks_step {bs : List SBlc} {j : Nat} {b : SBlc} (h : bs[j]? = some b) : blksGo (bs.take j) (bs.drop j) = if (blockE (bs.take j) b).1 ≠ 0 then blockE (bs.take j) b else blksGo (bs.take (j + 1)) (bs.drop (j + 1)) := by
 rw [drop_get h, blksGo, take_snoc h]
theorem blks_end {bs : List SBlc} {j : Nat} (h : bs.length <= j) : blksGo (bs.take j) (bs.drop j) = (0, 0) := by
 rw [List.drop_eq_nil_of_le h]
 rfl
theorem blks_ok {bs : List SBlc} (h : (blksGo [] bs).1 = 0) : ∀ (i : Nat) (b : SBlc), bs[i]? = some b -> (blockE (bs.take i) b).1 = 0 := by
 have key : ∀ j, j <= bs.length -> (blksGo (bs.take j) (bs.drop j)).1 = 0 /\ ∀ (i : Nat) (b : SBlc), i < j -> bs[i]? = some b -> (blockE (bs.take i) b).1 = 0 := by
  intro j
  induction j with
  | zero => intro _; exact ⟨h, fun i f hi => absurd hi (by omega)⟩
  | succ j ih =>
   intro hj
   obtain ⟨h1, h2⟩ := ih (by omega)
   have hf : bs[j]? = some bs[j] := List.getElem?_eq_getElem (by omega)
   rw [blks_step hf] at h1
   by_cases he : (blockE (bs.take j) bs[j]).1 ≠ 0
   . rw [if_pos he] at h1
     exact absurd h1 he
   . rw [if_neg he] at h1
     refine ⟨h1, fun i f hi hg => ?_⟩
     by_cases e : i = j
     . subst e
       rw [hf] at hg
       injection hg with hg
       rw [<- hg]
       simpa using he
     . exact h2 i f (by omega) hg
 intro i f hg
 exact (key bs.length (Nat.le_refl _)).2 i f (List.getElem?_eq_some_iff.1 hg).1 hg
end Go.Proofs.YtemdkkphmldgjaaGreatDoor.Lx
namespace Go.Proofs.YtemdkkphmldgjaaGreatDoor
open Go.RowKit Lx
namespace Lx
def shortBlc (b : SBlc) : Prop := ∀ f ∈ b.flds, shortFld b.kind f
end Lx
theorem checkBlock_c (earlier : List SBlc) (b : SBlc) (ao fo : Option Addr) (n c fn fc : Nat) (w : World) (hE : BlkS anyF w ao n c earlier) (hn : n <= 2000000) (h : FldS anyF w fo fn fc b.flds) (hsh : shortBlc b) (hT : Tabs w) :
    Calls Tryz.prog 60 #[.slice ao n c, .agg #[.string (stg b.kind), .string (stg b.name), .slice fo fn fc, .int .i64 b.line]] w fun e w' => e = .returned (.agg #[.int .i64 (((blockE earlier b).1 : Nat) : Int), .int .i64 (blockE earlier b).2]) /\ Below w.heap.size w w' := by
 obtain ⟨V, e1, AV, BV, hz⟩ := new_box w 55 [.string (stg b.kind), .string (stg b.name), .slice fo fn fc, .int .i64 b.line]
 obtain ⟨U, e2, AU, BU, hz2⟩ := new_box V 37 [.int .i64 0, .int .i64 0]
 have HL := Lib.hid ((h.below BV).below BU)
 have HT := Lib.hid ((hT.below BV).below BU)
 have hlen := Lib.hid h.len
 obtain ⟨hcap, hroom⟩ := h.caps
 have HH := checkHead_c earlier b ao fo n c fn fc U ((hE.below BV).below BU) hn HT.out
 have HLk := fun w1 (hb : Below U.heap.size U w1) => lacksField_c b fo fn fc w1 (HL.out.below hb) (HT.out.below hb)
 have HTg := fun hok w1 (hb : Below U.heap.size U w1) => checkTogether_c b fo fn fc w1 (HL.out.below hb) hok (HT.out.below hb)
 obtain ⟨bb, hbb⟩ : ∃ b, w.heap.size = b := ⟨_, rfl⟩
 rw [hbb] at AV hz
 rw [hz] at AU
 have A0 := Lib.hid (AV.kept BU)
 have A1 := Lib.hid AU
 have HB : Hid (Below w.heap.size w U) := BV.trans (BU.mono BV.size)
 have hle : Hid (w.heap.size <= bb + 1) := by show _ <= _; omega
 obtain ⟨TE, hTE⟩ : ∃ T, blockE earlier b = T := ⟨_, rfl⟩
 have hspec : TE = if headE earlier b ≠ 0 then (headE earlier b, b.line) else if (fldsGo b.kind [] b.flds).1 ≠ 0 then fldsGo b.kind [] b.flds else if lacksF b then (6, b.line) else togE b := hTE.symm
 rw [hTE]
 obtain ⟨HE, hHE⟩ : ∃ T, headE earlier b = T := ⟨_, rfl⟩
 rw [hHE] at hspec HH
 obtain ⟨KD, hKD⟩ : ∃ K, Hid (stg b.kind = K) := ⟨_, rfl⟩
 obtain ⟨KN, hKN⟩ : ∃ K, Hid (stg b.name = K) := ⟨_, rfl⟩
 obtain ⟨LN, hLN⟩ : ∃ K, Hid (b.line = K) := ⟨_, rfl⟩
 rw [hKD.out, hKN.out, hLN.out] at e1 A0 HH HLk HTg
 rw [hLN.out] at hspec
 rw [hKD.out, hKN.out, hLN.out]
 have y0 : U.cell? ⟨bb, 0, none⟩ = some (.string KD) := A0.out.cell 0
 have y1 : U.cell? ⟨bb, 1, none⟩ = some (.string KN) := A0.out.cell 1
 have y2 : U.cell? ⟨bb, 2, none⟩ = some (.slice fo fn fc) := A0.out.cell 2
 have y3 : U.cell? ⟨bb, 3, none⟩ = some (.int .i64 LN) := A0.out.cell 3
 have qh := int_nat_eq HE 0 0 rfl
 replace HH := Lib.hid HH
 replace HLk := Lib.hid HLk
 replace HTg := Lib.hid HTg
 replace hsh := Lib.hid hsh
 clear hT AV AU BV BU hz2 h hTE hE hHE
 by_cases h0 : HE = 0
 case neg =>
  rw [decide_eq_false h0] at qh
  have qn : ((HE : Int) != 0) = true := by unfold bne; rw [qh]; rfl
  rw [if_pos h0] at hspec
  replace hspec := Lib.hid hspec
  clear h0
  go_enter Tryz.func60, Tryz.ntmps60
  go_wp2_with fail
  refine HH.out.mono ?_
  rintro e w1 ⟨rfl, B1⟩
  have y4 : w1.cell? ⟨bb, 3, none⟩ = some (.int .i64 LN) := (A0.out.kept B1).cell 3
  obtain ⟨Y, e9, r0, r1, BF, g0, g1, g2, g3⟩ := fault_box (A1.out.kept B1) w (HB.out.trans (B1.mono HB.out.size)) hle.out (.int .i64 (HE : Int)) (.int .i64 LN)
  replace BF := Lib.hid BF
  clear HH B1
  go_wp2_with fail
  refine bodyPost_ret (v := .agg #[.int .i64 (HE : Int), .int .i64 LN]) (by simp [results, Tryz.results60, go_sem, r0, r1]) rfl ?_
  exact ⟨by rw [hspec.out], by first | exact BF.out | (rw [<- hbb]; exact BF.out)⟩
 subst h0
 rw [if_neg (by simp)] at hspec
 replace HH : Hid (Calls Tryz.prog 111 #[.slice ao n c, .agg #[.string KD, .string KN, .slice fo fn fc, .int .i64 LN]] U fun e w' => e = .returned (.int .i64 0) /\ Below U.heap.size U w') := HH.out
 obtain ⟨X, hX⟩ : ∃ X, fldsGo b.kind [] b.flds = X := ⟨_, rfl⟩
 have hX0 : Hid (X = fldsGo b.kind (b.flds.take 0) (b.flds.drop 0)) := hX.symm
 rw [hX] at hspec
 replace hspec := Lib.hid hspec
 replace hX := Lib.hid hX
 clear qh
 go_enter Tryz.func60, Tryz.ntmps60
 go_wp2_with fail
 refine HH.out.mono ?_
 rintro e w1 ⟨rfl, B1⟩
 have y4 : w1.cell? ⟨bb, 2, none⟩ = some (.slice fo fn fc) := (A0.out.kept B1).cell 2
 replace B1 := Lib.hid B1
 clear HH
 go_wp2_with fail
 clear e1 e2 y0 y1 y2 y3 y4
 go_loopw [6, 7, 8, 21] (fun _ _ _ i wr => ∃ j : Nat, j <= fn /\ i = .int .i64 (j : Int) /\ Below U.heap.size U wr /\ Hid (X = fldsGo b.kind (b.flds.take j) (b.flds.drop j))) (fun _ _ _ i _ => fn - (intOf i).toNat)
 case atStart => exact ⟨0, Nat.zero_le _, rfl, B1.out, hX0.out⟩
 case round =>
  obtain ⟨w2, hw2⟩ : ∃ x, x = wr := ⟨_, rfl⟩
  subst hw2
  clear B1 hX0
  obtain ⟨j, hj, rfl, B, HX⟩ := hrel
  by_cases hlt : j < fn
  . have hlt' : (j : Int) < (fn : Int) := by omega
    have hjc : (j : Int) <= (fc : Int) := by omega
    have hj0 : (0 : Int) <= (j : Int) := by omega
    obtain ⟨f, a, vo, vn, vc, hf, i1, c0, c1, c2, SL⟩ := (HL.out.below B).get j hlt
    have hs := HX.out
    rw [flds_step hf] at hs
    obtain ⟨V1, W1, e3, e4, AW, BW, zW, f0, f1, f2, f3, f4, f5⟩ := new_put3 w2 63 (.string ⟨#[]⟩) (.slice none 0 0) (.int .i64 0) (.string (stg f.key)) (.slice vo vn vc) (.int .i64 f.line)
    obtain ⟨p, hp⟩ : ∃ p, w2.heap.size = p := ⟨_, rfl⟩
    rw [hp] at AW e4 f0 f1 f2 f3 f4 f5
    have BW1 : Below U.heap.size U W1 := B.trans (BW.mono B.size)
    have HCf := checkField_c b.kind (b.flds.take j) f fo vo j fc vn vc W1.drew ((HL.out.below BW1.drew).take (by omega)) (StrL.below SL BW.drew) (hsh.out f (List.mem_of_getElem? hf)) (HT.out.below BW1.drew)
    obtain ⟨FE, hFE⟩ : ∃ F, fieldE b.kind (b.flds.take j) f = F := ⟨_, rfl⟩
    rw [hFE] at hs HCf
    obtain ⟨KK, hKK⟩ : ∃ K, Hid (stg f.key = K) := ⟨_, rfl⟩
    obtain ⟨FL, hFL⟩ : ∃ K, Hid (f.line = K) := ⟨_, rfl⟩
    rw [hKK.out] at c0 e4 AW f2 f3 f4 f5
    rw [hFL.out] at c2 e4 AW hs
    rw [hKD.out, hKK.out, hFL.out] at HCf
    replace HCf := Lib.hid HCf
    have AFd := Lib.hid AW
    have A2 := Lib.hid (A0.out.kept BW1)
    have A3 := Lib.hid (A1.out.kept BW1)
    have x0 : W1.cell? ⟨bb, 0, none⟩ = some (.string KD) := A2.out.cell 0
    have x2 : W1.cell? ⟨bb, 2, none⟩ = some (.slice fo fn fc) := A2.out.cell 2
    have z0 : W1.cell? ⟨p, 0, none⟩ = some (.string KK) := AFd.out.cell 0
    have z1 : W1.cell? ⟨p, 1, none⟩ = some (.slice vo vn vc) := AFd.out.cell 1
    have z2 : W1.cell? ⟨p, 2, none⟩ = some (.int .i64 FL) := AFd.out.cell 2
    have BD : Hid (Below U.heap.size U W1.drew) := BW1.drew
    clear B AW BW zW BW1 hf SL hFE
    go_wp2_with fail
    clear e3 e4 f0 f1 f2 f3 f4 f5 c0 c1 c2 i1
    go_region_held3 (fun w' => w'.cell? ⟨bb, 0, none⟩ = some (.string KD) /\ w'.cell? ⟨bb, 2, none⟩ = some (.slice fo fn fc) /\ w'.cell? ⟨p, 0, none⟩ = some (.string KK) /\ w'.cell? ⟨p, 1, none⟩ = some (.slice vo vn vc) /\ w'.cell? ⟨p, 2, none⟩ = some (.int .i64 FL)) (go_keep) ((go_at_call 112; (with_reducible refine HCf.out.mono ?_); rintro e w3 ⟨rfl, B3⟩; have k0 := cell_keep (w := W1.drew) x0 B3; have k1 := cell_keep (w := W1.drew) x2 B3; have k2 := cell_keep (w := W1.drew) z0 B3; have k3 := cell_keep (w := W1.drew) z1 B3; have k4 := cell_keep (w := W1.drew) z2 B3; have B3 := Lib.hid (BD.out.trans (B3.mono BD.out.size))))
    all_goals
      have qf := int_nat_eq FE 0 0 rfl
      by_cases h0 : FE = 0
      . subst h0
        rw [if_neg (by simp)] at hs
        replace hs := Lib.hid hs
        clear qf
        go_wp2_with fail
        go_roundw
        case rel => exact ⟨j + 1, by omega, by go_num, B3.out, hs.out⟩
        case measure => simp [intOf]; omega
      . rw [decide_eq_false h0] at qf
        have qn : ((FE : Int) != 0) = true := by unfold bne; rw [qf]; rfl
        rw [if_pos h0] at hs
        have hTE : Hid (TE = (FE, FL)) := by show _ = _; rw [hspec.out, hs, if_pos h0]
        obtain ⟨Y, e9, r0, r1, BF, g0, g1, g2, g3⟩ := fault_box (A1.out.kept B3.out) w (HB.out.trans (B3.out.mono HB.out.size)) hle.out (.int .i64 (FE : Int)) (.int .i64 FL)
        replace BF := Lib.hid BF
        clear h0 hs
        go_wp2_with fail
        refine bodyPost_ret (v := .agg #[.int .i64 (FE : Int), .int .i64 FL]) (by simp [results, Tryz.results60, go_sem, r0, r1]) rfl ?_
        exact ⟨by rw [hTE.out], by first | exact BF.out | (rw [<- hbb]; exact BF.out)⟩
  . have hlt' : ¬ (j : Int) < (fn : Int) := by omega
    have hs : X = (0, 0) := by rw [HX.out]; exact flds_end (by rw [hlen.out]; omega)
    have hs2 := hspec.out
    rw [hs] at hs2
    replace hs2 : TE = if lacksF b then (6, LN) else togE b := hs2
    have hok := togOk_of (b := b) (by rw [hX.out, hs])
    have HJ := HLk.out w2 B
    have HG := HTg.out hok
    obtain ⟨Z, hZ⟩ : ∃ Z, lacksF b = Z := ⟨_, rfl⟩
    rw [hZ] at hs2 HJ
    replace HJ := Lib.hid HJ
    replace HG := Lib.hid HG
    have A2 := Lib.hid (A0.out.kept B)
    have x0 : w2.cell? ⟨bb, 0, none⟩ = some (.string KD) := A2.out.cell 0
    have x1 : w2.cell? ⟨bb, 1, none⟩ = some (.string KN) := A2.out.cell 1
    have x2 : w2.cell? ⟨bb, 2, none⟩ = some (.slice fo fn fc) := A2.out.cell 2
    have x3 : w2.cell? ⟨bb, 3, none⟩ = some (.int .i64 LN) := A2.out.cell 3
    replace B := Lib.hid B
    clear hs hok hZ HX
    cases Z with
    | true =>
     have hTE : Hid (TE = (6, LN)) := hs2
     clear hs2
     go_wp2_with fail
     refine HJ.out.mono ?_
     rintro e w3 ⟨rfl, B3⟩
     have B4 : Below U.heap.size U w3 := B.out.trans (B3.mono B.out.size)
     have k3 : w3.cell? ⟨bb, 3, none⟩ = some (.int .i64 LN) := (A2.out.kept B3).cell 3
     obtain ⟨Y, e9, r0, r1, BF, g0, g1, g2, g3⟩ := fault_box (A1.out.kept B4) w (HB.out.trans (B4.mono HB.out.size)) hle.out (.int .i64 6) (.int .i64 LN)
     replace BF := Lib.hid BF
     clear HJ B3 B4
     go_wp2_with fail
     refine bodyPost_ret (v := .agg #[.int .i64 6, .int .i64 LN]) (by simp [results, Tryz.results60, go_sem, r0, r1]) rfl ?_
     exact ⟨by rw [hTE.out]; rfl, by first | exact BF.out | (rw [<- hbb]; exact BF.out)⟩
    | false =>
     have hTE : TE = togE b := hs2
     clear hs2
     go_wp2_with fail
     refine HJ.out.mono ?_
     rintro e w3 ⟨rfl, B3⟩
     have B4 : Below U.heap.size U w3 := B.out.trans (B3.mono B.out.size)
     have HK := HG.out w3 B4
     rw [<- hTE] at HK
     obtain ⟨T1, hT1⟩ : ∃ T, ((TE.1 : Nat) : Int) = T := ⟨_, rfl⟩
     obtain ⟨T2, hT2⟩ : ∃ T, TE.2 = T := ⟨_, rfl⟩
     rw [hT1, hT2] at HK
     replace HK := Lib.hid HK
     have A4 := Lib.hid (A2.out.kept B3)
     have k0 : w3.cell? ⟨bb, 0, none⟩ = some (.string KD) := A4.out.cell 0
     have k1 : w3.cell? ⟨bb, 1, none⟩ = some (.string KN) := A4.out.cell 1
     have k2 : w3.cell? ⟨bb, 2, none⟩ = some (.slice fo fn fc) := A4.out.cell 2
     have k3 : w3.cell? ⟨bb, 3, none⟩ = some (.int .i64 LN) := A4.out.cell 3
     have HT12 : Hid (((TE.1 : Nat) : Int) = T1 /\ TE.2 = T2) := ⟨hT1, hT2⟩
     replace B4 := Lib.hid B4
     clear HJ HG hTE hT1 hT2 B3
     go_wp2_with fail
     refine HK.out.mono ?_
     rintro e w5 ⟨rfl, B5⟩
     have B6 : Below U.heap.size U w5 := B4.out.trans (B5.mono B4.out.size)
     obtain ⟨Y, e9, r0, r1, BF, g0, g1, g2, g3⟩ := fault_box (A1.out.kept B6) w (HB.out.trans (B6.mono HB.out.size)) hle.out (.int .i64 T1) (.int .i64 T2)
     replace BF := Lib.hid BF
     clear HK B5 B6
     go_wp2_with fail
     refine bodyPost_ret (v := .agg #[.int .i64 T1, .int .i64 T2]) (by simp [results, Tryz.results60, go_sem, r0, r1]) rfl ?_
     exact ⟨by rw [HT12.out.1, HT12.out.2], by first | exact BF.out | (rw [<- hbb]; exact BF.out)⟩
end Go.Proofs.YtemdkkphmldgjaaGreatDoor
