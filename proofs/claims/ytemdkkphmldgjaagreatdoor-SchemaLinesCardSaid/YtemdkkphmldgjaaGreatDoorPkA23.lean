/-
  Texts of the proof, put together: SchDs3 SchRat.
-/
import Derived.Deep.Onto
import Derived.Test.YtemdkkphmldgjaaGreatDoorPkA6
import Derived.Test.YtemdkkphmldgjaaGreatDoorPkA19
import Derived.Test.YtemdkkphmldgjaaGreatDoorPkA21
import Derived.Test.YtemdkkphmldgjaaGreatDoorPkA22
set_option maxRecDepth 100000
set_option maxHeartbeats 25600000
namespace Go.Proofs.YtemdkkphmldgjaaGreatDoor
open Go.RowKit Lx
def FRow (B : Nat) (w : World) (ao : Option Addr) (n c : Nat) (fs : List SFld) : Prop := ∃ us, w.ownsRow B 63 3 (.slice ao n c) n us /\ FC (ownF B [9]) w fs us
section
variable {B : Nat} {w w' : World} {ao : Option Addr} {n c : Nat} {fs : List SFld}
theorem FRow.below (h : FRow B w ao n c fs) (hb : Below w.heap.size w w') : FRow B w' ao n c fs := by
 obtain ⟨us, h1, h2⟩ := h
 exact ⟨us, ownsRow_keep h1 hb, h2.keep (stable_own _ _) (keeps_below _ hb)⟩
theorem FRow.lower {B' : Nat} (h : FRow B w ao n c fs) (hB : B' <= B) : FRow B' w ao n c fs := by
 obtain ⟨us, h1, h2⟩ := h
 exact ⟨us, World.ownsRow.mono h1 hB, h2.mono (own_wide hB (fun _ h => h))⟩
theorem frow_new {m : Nat} (w : World) (B : Nat) (fs : List SFld) (us : List Value) (h : FC (ownF B [9]) w fs us) (hB : B <= w.heap.size) (hl : fs.length = m) (hm : m <= 100) : ∃ V, w.alloc (.cells us.toArray 63) = V /\ FRow B V (some ⟨w.heap.size, 0, none⟩) m m fs /\ Below w.heap.size w V := by
 have b1 : Below w.heap.size w (w.alloc (.cells us.toArray 63)) := (Below.refl _ _).alloc (Nat.le_refl _) _
 have hu := h.len
 refine ⟨_, rfl, ⟨us, ?_, h.keep (stable_own _ _) (keeps_below _ b1)⟩, b1⟩
 have := World.ownsRow_lit (e := 63) (base := w.heap.size) (size := 3) w us.toArray m (Nat.le_refl _) (by unfold maxLen; omega) (by simp; omega)
 simpa using World.ownsRow.mono this hB
theorem FRow.app {m : Nat} {gs : List SFld} {vs us : List Value} {ao' : Option Addr} {c' : Nat} (h1 : w.ownsRow B 63 3 (.slice ao n c) n us) (h2 : FC (ownF B [9]) w fs us) (hx : FC (ownF B [9]) w gs vs)
    (ho : w'.ownsRow B 63 3 (.slice ao' (n + m) c') (n + m) (us ++ vs)) (hg : w.grownBy w' (Value.slice ao n c).ownBlock) : FRow B w' ao' (n + m) c' (fs ++ gs) := by
 have k1 : Keeps (ownF B [9]) w w' := keeps_row h1 hg (by decide)
 exact ⟨_, ho, FC.append (h2.keep (stable_own _ _) k1) (hx.keep (stable_own _ _) k1)⟩
theorem FRow.row (h : FRow B w ao n c fs) : FldS (ownF B [9, 63]) w ao n c fs := by
 obtain ⟨us, h1, h2⟩ := h
 exact ⟨us, (Row.own h1 (by decide)).mono (own_wide (Nat.le_refl _) (by decide)), h2.mono (own_wide (Nat.le_refl _) (by decide))⟩
theorem FRow.box {g : Nat} {T : TypeId} {cs : List Value} (h : FRow B w ao n c fs) (hA : Arr w g T cs) (hT : T ∉ [9, 63]) (hg : w.grownBy w' (some g)) : FRow B w' ao n c fs := by
 obtain ⟨us, h1, h2⟩ := h
 simp only [List.mem_cons, List.not_mem_nil, or_false, not_or] at hT
 exact ⟨us, World.ownsRow.kept h1 hg (Or.inr (row_ne_box h1 hA hT.2)), h2.keep (stable_own _ _) (keeps_gbox hA (by simp [hT.1]) hg)⟩
end
theorem fc_one {B : Nat} {w : World} {k : List UInt8} {vs : List (List UInt8)} {vo : Option Addr} {vn vc : Nat} {fs : List SFld} {us : List Value} (h : StrL (ownF B [9]) w vo vn vc vs) (hr : FC (ownF B [9]) w fs us) : FC (ownF B [9]) w (⟨k, vs, 0⟩ :: fs) (.string (stg k) :: .slice vo vn vc :: .int .i64 0 :: us) := ⟨vo, vn, vc, us, rfl, h, hr⟩
theorem fc_nil {B : Nat} {w : World} : FC (ownF B [9]) w [] [] := rfl
theorem block_fin {w U W Z : World} {b : Nat} {v0 v1 v2 v3 u0 u1 u2 u3 : Value} {ao : Option Addr} {n c : Nat} {fs : List SFld} (A : Arr W b 55 [v0, v1, v2, v3]) (hZ : Hid (Z = put4 W b u0 u1 u2 u3)) (F : FRow U.heap.size W ao n c fs) (D : Below U.heap.size U W) (HB : Below w.heap.size w U) (hle : w.heap.size <= b) : Hid (FRow w.heap.size Z ao n c fs /\ Below w.heap.size w Z) := by
 have hb := HB.trans (D.mono HB.size)
 have hg : W.grownBy Z (some b) := by
  rw [hZ.out]
  exact grown_trans (grown_trans (grown_trans (set_grown W b 0 u0) (set_grown _ b 1 u1)) (set_grown _ b 2 u2)) (set_grown _ b 3 u3)
 refine ⟨(F.lower HB.size).box A (by decide) hg, ?_⟩
 rw [hZ.out]
 exact (((hb.setCell (p := ⟨_, 0, none⟩) hle _).setCell (p := ⟨_, 1, none⟩) hle _).setCell (p := ⟨_, 2, none⟩) hle _).setCell (p := ⟨_, 3, none⟩) hle _
def I64 (x : Int) : Prop := -9223372036854775808 <= x /\ x <= 9223372036854775807
theorem describeContest_meek (nm : List UInt8) (cs : List (List UInt8)) (m se ra di ti ov sk : Int) (vo : Option Addr) (vn vc : Nat) (w : World) (hm : m = 2) (h : StrL anyF w vo vn vc cs) (hse : I64 se) (hra : I64 ra) (hdi : I64 di) (hn : vn <= 4000000) (hT : Tabs w) :
    Calls Tryz.prog 93 #[.agg #[.string (stg nm), .slice vo vn vc, .int .i64 m, .int .i64 se, .int .i64 ra, .int .i64 di, .int .i64 ti, .int .i64 ov, .int .i64 sk]] w fun e w' => ∃ fo fn fc, e = .returned (.agg #[.string (stg kContest), .string (stg nm), .slice fo fn fc, .int .i64 0]) /\ FRow w.heap.size w' fo fn fc (descCF ⟨nm, cs, m, se, ra, di, ti, ov, sk⟩) /\ Below w.heap.size w w' := by
 obtain ⟨V, e1, AV, BV, hz⟩ := new_box w 76 [.string (stg nm), .slice vo vn vc, .int .i64 m, .int .i64 se, .int .i64 ra, .int .i64 di, .int .i64 ti, .int .i64 ov, .int .i64 sk]
 obtain ⟨U, e2, AU, BU, hz2⟩ := new_box V 55 [.string ⟨#[]⟩, .string ⟨#[]⟩, .slice none 0 0, .int .i64 0]
 obtain ⟨KN, hKN⟩ : ∃ K, Hid (stg nm = K) := ⟨_, rfl⟩
 rw [hKN.out] at e1 AV |-
 have HT := Lib.hid ((hT.below BV).below BU)
 have HL : Hid (∀ W, Below U.heap.size U W -> StrL anyF W vo vn vc cs) := fun W hb => StrL.below (StrL.below (StrL.below h BV) BU) hb
 obtain ⟨bb, hbb⟩ : ∃ b, w.heap.size = b := ⟨_, rfl⟩
 rw [hbb] at AV hz
 rw [hz] at AU
 have A0 := Lib.hid (AV.kept BU)
 have A1 := Lib.hid AU
 have HB : Hid (Below w.heap.size w U) := BV.trans (BU.mono BV.size)
 have hle : Hid (w.heap.size <= bb + 1) := by show _ <= _; omega
 have hlo : Hid (w.heap.size <= U.heap.size) := HB.out.size
 have HM := fun W => choice_c wMethod m W
 have HTi := fun W => choice_c wTies ti W
 have HOv := fun W => choice_c wOvervote ov W
 have HSk := fun W => choice_c wSkip sk W
 replace HM : Hid (∀ W, Calls Tryz.prog 146 #[.string ⟨#[109, 101, 116, 104, 111, 100]⟩, .int .i64 m] W fun e w' => ∃ vo vn vc, e = .returned (.agg #[.string ⟨#[109, 101, 116, 104, 111, 100]⟩, .slice vo vn vc, .int .i64 0]) /\ StrL (ownF W.heap.size [9]) w' vo vn vc [atI (wordsOf wMethod) m] /\ Below W.heap.size W w') := HM
 replace HTi : Hid (∀ W, Calls Tryz.prog 146 #[.string ⟨#[116, 105, 101, 115]⟩, .int .i64 ti] W fun e w' => ∃ vo vn vc, e = .returned (.agg #[.string ⟨#[116, 105, 101, 115]⟩, .slice vo vn vc, .int .i64 0]) /\ StrL (ownF W.heap.size [9]) w' vo vn vc [atI (wordsOf wTies) ti] /\ Below W.heap.size W w') := HTi
 replace HOv : Hid (∀ W, Calls Tryz.prog 146 #[.string ⟨#[111, 118, 101, 114, 118, 111, 116, 101]⟩, .int .i64 ov] W fun e w' => ∃ vo vn vc, e = .returned (.agg #[.string ⟨#[111, 118, 101, 114, 118, 111, 116, 101]⟩, .slice vo vn vc, .int .i64 0]) /\ StrL (ownF W.heap.size [9]) w' vo vn vc [atI (wordsOf wOvervote) ov] /\ Below W.heap.size W w') := HOv
 replace HSk : Hid (∀ W, Calls Tryz.prog 146 #[.string ⟨#[115, 107, 105, 112]⟩, .int .i64 sk] W fun e w' => ∃ vo vn vc, e = .returned (.agg #[.string ⟨#[115, 107, 105, 112]⟩, .slice vo vn vc, .int .i64 0]) /\ StrL (ownF W.heap.size [9]) w' vo vn vc [atI (wordsOf wSkip) sk] /\ Below W.heap.size W w') := HSk
 have HSe : Hid (∀ W, Below U.heap.size U W -> Calls Tryz.prog 90 #[.string ⟨#[115, 101, 97, 116, 115]⟩, .int .i64 se] W fun e w' => ∃ vo vn vc, e = .returned (.agg #[.string ⟨#[115, 101, 97, 116, 115]⟩, .slice vo vn vc, .int .i64 0]) /\ StrL (ownF W.heap.size [9]) w' vo vn vc [Lib.itoa se] /\ Below W.heap.size W w') := fun W hb => numeric_c ⟨#[115, 101, 97, 116, 115]⟩ se W hse.1 hse.2 (HT.out.below hb)
 have HRa : Hid (∀ W, Below U.heap.size U W -> Calls Tryz.prog 90 #[.string ⟨#[114, 97, 110, 107, 115]⟩, .int .i64 ra] W fun e w' => ∃ vo vn vc, e = .returned (.agg #[.string ⟨#[114, 97, 110, 107, 115]⟩, .slice vo vn vc, .int .i64 0]) /\ StrL (ownF W.heap.size [9]) w' vo vn vc [Lib.itoa ra] /\ Below W.heap.size W w') := fun W hb => numeric_c ⟨#[114, 97, 110, 107, 115]⟩ ra W hra.1 hra.2 (HT.out.below hb)
 have HDi : Hid (∀ W, Below U.heap.size U W -> Calls Tryz.prog 90 #[.string ⟨#[100, 105, 103, 105, 116, 115]⟩, .int .i64 di] W fun e w' => ∃ vo vn vc, e = .returned (.agg #[.string ⟨#[100, 105, 103, 105, 116, 115]⟩, .slice vo vn vc, .int .i64 0]) /\ StrL (ownF W.heap.size [9]) w' vo vn vc [Lib.itoa di] /\ Below W.heap.size W w') := fun W hb => numeric_c ⟨#[100, 105, 103, 105, 116, 115]⟩ di W hdi.1 hdi.2 (HT.out.below hb)
 have HCl : Hid (∀ W, Below U.heap.size U W -> Calls Tryz.prog 92 #[.slice vo vn vc] W fun e w' => ∃ ro m d, e = .returned (.slice ro m d) /\ StrL (ownF W.heap.size [9]) w' ro m d cs /\ Below W.heap.size W w') := fun W hb => sClone_c cs vo vn vc W (HL.out W hb) (by omega)
 have HFd : Hid (∀ W vo vn vc, Calls Tryz.prog 91 #[.string ⟨#[99, 97, 110, 100, 105, 100, 97, 116, 101, 115]⟩, .slice vo vn vc] W fun e w' => e = .returned (.agg #[.string ⟨#[99, 97, 110, 100, 105, 100, 97, 116, 101, 115]⟩, .slice vo vn vc, .int .i64 0]) /\ Below W.heap.size W w') := fun W vo vn vc => sField_c _ vo vn vc W
 have y_0 : U.cell? ⟨bb, 0, none⟩ = some (.string KN) := A0.out.cell 0
 have y_1 : U.cell? ⟨bb, 1, none⟩ = some (.slice vo vn vc) := A0.out.cell 1
 have y_2 : U.cell? ⟨bb, 2, none⟩ = some (.int .i64 m) := A0.out.cell 2
 have y_3 : U.cell? ⟨bb, 3, none⟩ = some (.int .i64 se) := A0.out.cell 3
 have y_4 : U.cell? ⟨bb, 4, none⟩ = some (.int .i64 ra) := A0.out.cell 4
 have y_5 : U.cell? ⟨bb, 5, none⟩ = some (.int .i64 di) := A0.out.cell 5
 have y_6 : U.cell? ⟨bb, 6, none⟩ = some (.int .i64 ti) := A0.out.cell 6
 have y_7 : U.cell? ⟨bb, 7, none⟩ = some (.int .i64 ov) := A0.out.cell 7
 have y_8 : U.cell? ⟨bb, 8, none⟩ = some (.int .i64 sk) := A0.out.cell 8
 have hmb : ((m : Int) == 2) = true := by rw [hm]; rfl
 have hcf : descCF ⟨nm, cs, m, se, ra, di, ti, ov, sk⟩ = ([fC wMethod m, fN wSeats se, fN wRanks ra] ++ [fN wDigits di]) ++ [fC wTies ti, fC wOvervote ov, fC wSkip sk, ⟨wCandidates, cs, 0⟩] := by
  show _ ++ (if m = 2 then _ else _) ++ _ = _
  rw [if_pos hm]
 rw [hcf]
 have HD : Below U.heap.size U U.drew := (Below.refl _ _).drew
 clear h hT AV AU BV BU hz2 hse hra hdi hn hm hcf
 go_enter Tryz.func93, Tryz.ntmps93
 go_wp2_with fail
 go_region_held3 (fun w' => w'.cell? ⟨bb, 2, none⟩ = some (.int .i64 m) /\ w'.cell? ⟨bb, 3, none⟩ = some (.int .i64 se) /\ w'.cell? ⟨bb, 4, none⟩ = some (.int .i64 ra)) (go_keep) (first
   | (go_at_call 146; (with_reducible refine (HM.out U.drew).mono ?_); rintro e v1 ⟨a1, n1, c1, rfl, S1, B1⟩; have p1_0 := cell_keep (w := U.drew) y_0 B1; have p1_1 := cell_keep (w := U.drew) y_1 B1; have p1_2 := cell_keep (w := U.drew) y_2 B1; have p1_3 := cell_keep (w := U.drew) y_3 B1; have p1_4 := cell_keep (w := U.drew) y_4 B1; have p1_5 := cell_keep (w := U.drew) y_5 B1; have p1_6 := cell_keep (w := U.drew) y_6 B1; have p1_7 := cell_keep (w := U.drew) y_7 B1; have p1_8 := cell_keep (w := U.drew) y_8 B1; have C1 : Below U.heap.size U v1 := HD.trans (B1.mono HD.size); have T1 : StrL (ownF U.heap.size [9]) v1 a1 n1 c1 [atI (wordsOf wMethod) m] := S1)
   | (go_at_call 90; (with_reducible refine (HSe.out v1 C1).mono ?_); rintro e v2 ⟨a2, n2, c2, rfl, S2, B2⟩; have p2_0 := cell_keep p1_0 B2; have p2_1 := cell_keep p1_1 B2; have p2_2 := cell_keep p1_2 B2; have p2_3 := cell_keep p1_3 B2; have p2_4 := cell_keep p1_4 B2; have p2_5 := cell_keep p1_5 B2; have p2_6 := cell_keep p1_6 B2; have p2_7 := cell_keep p1_7 B2; have p2_8 := cell_keep p1_8 B2; have C2 : Below U.heap.size U v2 := C1.trans (B2.mono C1.size); have T2a := keep_own T1 B2; have T2b := own_lower S2 C1.size)
   | (go_at_call 90; (with_reducible refine (HRa.out v2 C2).mono ?_); rintro e v3 ⟨a3, n3, c3, rfl, S3, B3⟩; have p3_0 := cell_keep p2_0 B3; have p3_1 := cell_keep p2_1 B3; have p3_2 := cell_keep p2_2 B3; have p3_3 := cell_keep p2_3 B3; have p3_4 := cell_keep p2_4 B3; have p3_5 := cell_keep p2_5 B3; have p3_6 := cell_keep p2_6 B3; have p3_7 := cell_keep p2_7 B3; have p3_8 := cell_keep p2_8 B3; have C3 : Below U.heap.size U v3 := C2.trans (B3.mono C2.size); have T3a := keep_own T2a B3; have T3b := keep_own T2b B3; have T3c := own_lower S3 C2.size; obtain ⟨X, e4, FR, BX⟩ := frow_new (m := 3) v3 U.heap.size [fC wMethod m, fN wSeats se, fN wRanks ra] _ (fc_one T3a (fc_one T3b (fc_one T3c fc_nil))) C3.size rfl (by decide : 3 <= 100); replace e4 : v3.alloc (.cells #[.string ⟨#[109, 101, 116, 104, 111, 100]⟩, .slice a1 n1 c1, .int .i64 0, .string ⟨#[115, 101, 97, 116, 115]⟩, .slice a2 n2 c2, .int .i64 0, .string ⟨#[114, 97, 110, 107, 115]⟩, .slice a3 n3 c3, .int .i64 0] 63) = X := e4; have z_0 := cell_keep p3_0 BX; have z_1 := cell_keep p3_1 BX; have z_2 := cell_keep p3_2 BX; have z_3 := cell_keep p3_3 BX; have z_4 := cell_keep p3_4 BX; have z_5 := cell_keep p3_5 BX; have z_6 := cell_keep p3_6 BX; have z_7 := cell_keep p3_7 BX; have z_8 := cell_keep p3_8 BX))
 all_goals
   have CX : Hid (Below U.heap.size U X) := C3.trans (BX.mono C3.size)
   have FRH := Lib.hid FR
   clear FR BX C3 C2 C1 B1 B2 B3 S1 S2 S3 T1 T2a T2b T3a T3b T3c p1_0 p1_1 p1_2 p1_3 p1_4 p1_5 p1_6 p1_7 p1_8 p2_0 p2_1 p2_2 p2_3 p2_4 p2_5 p2_6 p2_7 p2_8 p3_0 p3_1 p3_2 p3_3 p3_4 p3_5 p3_6 p3_7 p3_8
   obtain ⟨us, OR, FCs⟩ := FRH.out
   go_wp2_with (first
     | (go_at_call 90; (with_reducible refine (HDi.out X CX.out).mono ?_); rintro e v5 ⟨a5, n5, c5, rfl, S5, B5⟩; have r_0 := cell_keep z_0 B5; have r_1 := cell_keep z_1 B5; have r_2 := cell_keep z_2 B5; have r_3 := cell_keep z_3 B5; have r_4 := cell_keep z_4 B5; have r_5 := cell_keep z_5 B5; have r_6 := cell_keep z_6 B5; have r_7 := cell_keep z_7 B5; have r_8 := cell_keep z_8 B5; have C5 := Lib.hid (CX.out.trans (B5.mono CX.out.size)); have T5 := own_lower S5 CX.out.size; have OR5 := ownsRow_keep OR B5; have FC5 := FC.keep (stable_own _ _) (keeps_below _ B5) FCs; have hU5 := C5.out.size; clear S5 B5)
     | (at_builtin; refine wpList_appK (vs := [.string ⟨#[100, 105, 103, 105, 116, 115]⟩, .slice a5 n5 c5, .int .i64 0]) Tryz.underlying53 infoF rfl (by decide) (by decide) OR5 hU5 (by omega) rfl (by intro u hu; simp at hu; rcases hu with rfl | rfl | rfl <;> rfl) rfl rfl ?_; intro fo fc Y O6 G6 B6; have FR6 : FRow U.heap.size Y fo 4 fc ([fC wMethod m, fN wSeats se, fN wRanks ra] ++ [fN wDigits di]) := FRow.app (m := 1) OR5 FC5 (fc_one (k := wDigits) T5 fc_nil) O6 G6; have FRY := Lib.hid FR6; have CY : Hid (Below U.heap.size U Y) := C5.out.trans B6; have A0Y := Lib.hid ((A0.out.kept C5.out).row OR5 (by decide) G6); clear FR6 O6 G6 B6))
   have A1Y : Hid (Arr Y (bb + 1) 55 [.string ⟨#[]⟩, .string ⟨#[]⟩, .slice none 0 0, .int .i64 0]) := A1.out.kept CY.out
   obtain ⟨us6, OR6, FC6⟩ := FRY.out
   have x_0 : Y.drew.cell? ⟨bb, 0, none⟩ = some (.string KN) := A0Y.out.cell 0
   have x_1 : Y.drew.cell? ⟨bb, 1, none⟩ = some (.slice vo vn vc) := A0Y.out.cell 1
   have x_2 : Y.drew.cell? ⟨bb, 2, none⟩ = some (.int .i64 m) := A0Y.out.cell 2
   have x_3 : Y.drew.cell? ⟨bb, 3, none⟩ = some (.int .i64 se) := A0Y.out.cell 3
   have x_4 : Y.drew.cell? ⟨bb, 4, none⟩ = some (.int .i64 ra) := A0Y.out.cell 4
   have x_5 : Y.drew.cell? ⟨bb, 5, none⟩ = some (.int .i64 di) := A0Y.out.cell 5
   have x_6 : Y.drew.cell? ⟨bb, 6, none⟩ = some (.int .i64 ti) := A0Y.out.cell 6
   have x_7 : Y.drew.cell? ⟨bb, 7, none⟩ = some (.int .i64 ov) := A0Y.out.cell 7
   have x_8 : Y.drew.cell? ⟨bb, 8, none⟩ = some (.int .i64 sk) := A0Y.out.cell 8
   have DY : Below U.heap.size U Y.drew := CY.out.drew
   have OR7 : Y.drew.ownsRow U.heap.size 63 3 (.slice fo 4 fc) 4 us6 := OR6
   have FC7 : FC (ownF U.heap.size [9]) Y.drew ([fC wMethod m, fN wSeats se, fN wRanks ra] ++ [fN wDigits di]) us6 := FC.keep (stable_own _ _) (keeps_below _ (Below.refl _ _).drew) FC6
   clear FRH us OR FCs OR5 FC5 T5 C5 hU5 r_0 r_1 r_2 r_3 r_4 r_5 r_6 r_7 r_8 z_0 z_1 z_2 z_3 z_4 z_5 z_6 z_7 z_8
   go_region_held3 (fun w' => w'.cell? ⟨bb, 1, none⟩ = some (.slice vo vn vc) /\ w'.cell? ⟨bb, 6, none⟩ = some (.int .i64 ti) /\ w'.cell? ⟨bb, 7, none⟩ = some (.int .i64 ov) /\ w'.cell? ⟨bb, 8, none⟩ = some (.int .i64 sk)) (go_keep) (first
     | (go_at_call 146; (with_reducible refine (HTi.out Y.drew).mono ?_); rintro e u1 ⟨b1, m1, d1, rfl, S1, B1⟩; have s1_0 := cell_keep (w := Y.drew) x_0 B1; have s1_1 := cell_keep (w := Y.drew) x_1 B1; have s1_6 := cell_keep (w := Y.drew) x_6 B1; have s1_7 := cell_keep (w := Y.drew) x_7 B1; have s1_8 := cell_keep (w := Y.drew) x_8 B1; have D1 : Below U.heap.size U u1 := DY.trans (B1.mono DY.size); have O1 := ownsRow_keep OR7 B1; have F1 := FC.keep (stable_own _ _) (keeps_below _ B1) FC7; have P1 := own_lower S1 DY.size)
     | (go_at_call 146; (with_reducible refine (HOv.out u1).mono ?_); rintro e u2 ⟨b2, m2, d2, rfl, S2, B2⟩; have s2_0 := cell_keep s1_0 B2; have s2_1 := cell_keep s1_1 B2; have s2_6 := cell_keep s1_6 B2; have s2_7 := cell_keep s1_7 B2; have s2_8 := cell_keep s1_8 B2; have D2 : Below U.heap.size U u2 := D1.trans (B2.mono D1.size); have O2 := ownsRow_keep O1 B2; have F2 := FC.keep (stable_own _ _) (keeps_below _ B2) F1; have P2a := keep_own P1 B2; have P2b := own_lower S2 D1.size)
     | (go_at_call 146; (with_reducible refine (HSk.out u2).mono ?_); rintro e u3 ⟨b3, m3, d3, rfl, S3, B3⟩; have s3_0 := cell_keep s2_0 B3; have s3_1 := cell_keep s2_1 B3; have s3_6 := cell_keep s2_6 B3; have s3_7 := cell_keep s2_7 B3; have s3_8 := cell_keep s2_8 B3; have D3 : Below U.heap.size U u3 := D2.trans (B3.mono D2.size); have O3 := ownsRow_keep O2 B3; have F3 := FC.keep (stable_own _ _) (keeps_below _ B3) F2; have P3a := keep_own P2a B3; have P3b := keep_own P2b B3; have P3c := own_lower S3 D2.size)
     | (go_at_call 92; (with_reducible refine (HCl.out u3 D3).mono ?_); rintro e u4 ⟨b4, m4, d4, rfl, S4, B4⟩; have s4_0 := cell_keep s3_0 B4; have s4_1 := cell_keep s3_1 B4; have s4_6 := cell_keep s3_6 B4; have s4_7 := cell_keep s3_7 B4; have s4_8 := cell_keep s3_8 B4; have D4 : Below U.heap.size U u4 := D3.trans (B4.mono D3.size); have O4 := ownsRow_keep O3 B4; have F4 := FC.keep (stable_own _ _) (keeps_below _ B4) F3; have P4a := keep_own P3a B4; have P4b := keep_own P3b B4; have P4c := keep_own P3c B4; have P4d := own_lower S4 D3.size)
     | (go_at_call 91; (with_reducible refine (HFd.out u4 b4 m4 d4).mono ?_); rintro e u5 ⟨rfl, B5⟩; have s5_0 := cell_keep s4_0 B5; have s5_1 := cell_keep s4_1 B5; have s5_6 := cell_keep s4_6 B5; have s5_7 := cell_keep s4_7 B5; have s5_8 := cell_keep s4_8 B5; have D5 : Below U.heap.size U u5 := D4.trans (B5.mono D4.size); have O5 := ownsRow_keep O4 B5; have F5 := FC.keep (stable_own _ _) (keeps_below _ B5) F4; have P5a := keep_own P4a B5; have P5b := keep_own P4b B5; have P5c := keep_own P4c B5; have P5d := keep_own P4d B5; obtain ⟨Xa, e9, _, BXa, _⟩ := new_box u5 63 [.string ⟨#[116, 105, 101, 115]⟩, .slice b1 m1 d1, .int .i64 0, .string ⟨#[111, 118, 101, 114, 118, 111, 116, 101]⟩, .slice b2 m2 d2, .int .i64 0, .string ⟨#[115, 107, 105, 112]⟩, .slice b3 m3 d3, .int .i64 0, .string ⟨#[99, 97, 110, 100, 105, 100, 97, 116, 101, 115]⟩, .slice b4 m4 d4, .int .i64 0]; have hU5 := D5.size; have s6_0 := cell_keep s5_0 BXa; have s6_1 := cell_keep s5_1 BXa; have s6_6 := cell_keep s5_6 BXa; have s6_7 := cell_keep s5_7 BXa; have s6_8 := cell_keep s5_8 BXa)
     | (refine step_appM (m := 4) (vs := [.string ⟨#[116, 105, 101, 115]⟩, .slice b1 m1 d1, .int .i64 0, .string ⟨#[111, 118, 101, 114, 118, 111, 116, 101]⟩, .slice b2 m2 d2, .int .i64 0, .string ⟨#[115, 107, 105, 112]⟩, .slice b3 m3 d3, .int .i64 0, .string ⟨#[99, 97, 110, 100, 105, 100, 97, 116, 101, 115]⟩, .slice b4 m4 d4, .int .i64 0]) Tryz.underlying53 infoF rfl (by decide) (by decide) (by decide) (by decide) _ _ rfl rfl e9 O5 hU5 (by omega) rfl (by intro u hu; simp at hu; rcases hu with rfl | rfl | rfl | rfl | rfl | rfl | rfl | rfl | rfl | rfl | rfl | rfl <;> rfl) rfl rfl ?_; intro ao9 c9 Z9 O9 G9 B9; have FR9 := FRow.app (m := 4) O5 F5 (fc_one (k := wTies) P5a (fc_one (k := wOvervote) P5b (fc_one (k := wSkip) P5c (fc_one (k := wCandidates) P5d fc_nil)))) O9 G9; have A9 := (Arr.kept (w := Y.drew) A0Y.out (B1.trans ((B2.mono B1.size).trans ((B3.mono (Nat.le_trans B1.size B2.size)).trans ((B4.mono (Nat.le_trans B1.size (Nat.le_trans B2.size B3.size))).trans (B5.mono (Nat.le_trans B1.size (Nat.le_trans B2.size (Nat.le_trans B3.size B4.size))))))))).row O5 (by decide) G9; have A10 := (Arr.kept (w := Y.drew) A1Y.out (B1.trans ((B2.mono B1.size).trans ((B3.mono (Nat.le_trans B1.size B2.size)).trans ((B4.mono (Nat.le_trans B1.size (Nat.le_trans B2.size B3.size))).trans (B5.mono (Nat.le_trans B1.size (Nat.le_trans B2.size (Nat.le_trans B3.size B4.size))))))))).row O5 (by decide) G9; have z9_0 : Z9.cell? ⟨bb, 0, none⟩ = some (.string KN) := A9.cell 0; have z9_1 : Z9.cell? ⟨bb, 1, none⟩ = some (.slice vo vn vc) := A9.cell 1; have z9_6 : Z9.cell? ⟨bb, 6, none⟩ = some (.int .i64 ti) := A9.cell 6; have z9_7 : Z9.cell? ⟨bb, 7, none⟩ = some (.int .i64 ov) := A9.cell 7; have z9_8 : Z9.cell? ⟨bb, 8, none⟩ = some (.int .i64 sk) := A9.cell 8; have D9 : Below U.heap.size U Z9 := D5.trans B9))
   all_goals
     have FZ := Lib.hid FR9
     have DZ := Lib.hid D9
     have A10H := Lib.hid A10
     clear FR9 D9 A9 A10 O9 G9 B9 O5 F5 O4 F4 O3 F3 O2 F2 O1 F1 OR7 FC7 OR6 FC6 P5a P5b P5c P5d BXa e9 hU5
     go_wp2_with (go_at_call 89; refine (sBlock_c _ _ _ _ _ _).mono ?_; rintro e q1 ⟨rfl, Bq⟩; obtain ⟨Z, m5, hm5, AZ, q0, q1', q2, q3, q4, q5, q6, q7⟩ := put_box4 (A10H.out.kept Bq) (.string ⟨#[99, 111, 110, 116, 101, 115, 116]⟩) (.string KN) (.slice ao9 (4 + 4) c9) (.int .i64 0); have r0 : Z.cell? ⟨bb + 1, 0, none⟩ = some (.string ⟨#[99, 111, 110, 116, 101, 115, 116]⟩) := AZ.cell 0; have r1 : Z.cell? ⟨bb + 1, 1, none⟩ = some (.string KN) := AZ.cell 1; have r2 : Z.cell? ⟨bb + 1, 2, none⟩ = some (.slice ao9 (4 + 4) c9) := AZ.cell 2; have r3 : Z.cell? ⟨bb + 1, 3, none⟩ = some (.int .i64 0) := AZ.cell 3; have FZ2 := FRow.below FZ.out Bq; have DZ2 := DZ.out.trans (Bq.mono DZ.out.size); have hfin := block_fin (A10H.out.kept Bq) hm5 FZ2 DZ2 HB.out hle.out)
     refine bodyPost_ret (v := .agg #[.string ⟨#[99, 111, 110, 116, 101, 115, 116]⟩, .string KN, .slice ao9 (4 + 4) c9, .int .i64 0]) (by simp [results, Tryz.results93, go_sem, r0, r1, r2, r3]) rfl ?_
     exact ⟨_, _, _, rfl, by first | exact hfin.out.1 | (rw [<- hbb]; exact hfin.out.1), by first | exact hfin.out.2 | (rw [<- hbb]; exact hfin.out.2)⟩
theorem describeContest_other (nm : List UInt8) (cs : List (List UInt8)) (m se ra di ti ov sk : Int) (vo : Option Addr) (vn vc : Nat) (w : World) (hm : ¬ m = 2) (h : StrL anyF w vo vn vc cs) (hse : I64 se) (hra : I64 ra) (_ : I64 di) (hn : vn <= 4000000) (hT : Tabs w) :
    Calls Tryz.prog 93 #[.agg #[.string (stg nm), .slice vo vn vc, .int .i64 m, .int .i64 se, .int .i64 ra, .int .i64 di, .int .i64 ti, .int .i64 ov, .int .i64 sk]] w fun e w' => ∃ fo fn fc, e = .returned (.agg #[.string (stg kContest), .string (stg nm), .slice fo fn fc, .int .i64 0]) /\ FRow w.heap.size w' fo fn fc (descCF ⟨nm, cs, m, se, ra, di, ti, ov, sk⟩) /\ Below w.heap.size w w' := by
 obtain ⟨V, e1, AV, BV, hz⟩ := new_box w 76 [.string (stg nm), .slice vo vn vc, .int .i64 m, .int .i64 se, .int .i64 ra, .int .i64 di, .int .i64 ti, .int .i64 ov, .int .i64 sk]
 obtain ⟨U, e2, AU, BU, hz2⟩ := new_box V 55 [.string ⟨#[]⟩, .string ⟨#[]⟩, .slice none 0 0, .int .i64 0]
 obtain ⟨KN, hKN⟩ : ∃ K, Hid (stg nm = K) := ⟨_, rfl⟩
 rw [hKN.out] at e1 AV |-
 have HT := Lib.hid ((hT.below BV).below BU)
 have HL : Hid (∀ W, Below U.heap.size U W -> StrL anyF W vo vn vc cs) := fun W hb => StrL.below (StrL.below (StrL.below h BV) BU) hb
 obtain ⟨bb, hbb⟩ : ∃ b, w.heap.size = b := ⟨_, rfl⟩
 rw [hbb] at AV hz
 rw [hz] at AU
 have A0 := Lib.hid (AV.kept BU)
 have A1 := Lib.hid AU
 have HB : Hid (Below w.heap.size w U) := BV.trans (BU.mono BV.size)
 have hle : Hid (w.heap.size <= bb + 1) := by show _ <= _; omega
 have hlo : Hid (w.heap.size <= U.heap.size) := HB.out.size
 have HM := fun W => choice_c wMethod m W
 have HTi := fun W => choice_c wTies ti W
 have HOv := fun W => choice_c wOvervote ov W
 have HSk := fun W => choice_c wSkip sk W
 replace HM : Hid (∀ W, Calls Tryz.prog 146 #[.string ⟨#[109, 101, 116, 104, 111, 100]⟩, .int .i64 m] W fun e w' => ∃ vo vn vc, e = .returned (.agg #[.string ⟨#[109, 101, 116, 104, 111, 100]⟩, .slice vo vn vc, .int .i64 0]) /\ StrL (ownF W.heap.size [9]) w' vo vn vc [atI (wordsOf wMethod) m] /\ Below W.heap.size W w') := HM
 replace HTi : Hid (∀ W, Calls Tryz.prog 146 #[.string ⟨#[116, 105, 101, 115]⟩, .int .i64 ti] W fun e w' => ∃ vo vn vc, e = .returned (.agg #[.string ⟨#[116, 105, 101, 115]⟩, .slice vo vn vc, .int .i64 0]) /\ StrL (ownF W.heap.size [9]) w' vo vn vc [atI (wordsOf wTies) ti] /\ Below W.heap.size W w') := HTi
 replace HOv : Hid (∀ W, Calls Tryz.prog 146 #[.string ⟨#[111, 118, 101, 114, 118, 111, 116, 101]⟩, .int .i64 ov] W fun e w' => ∃ vo vn vc, e = .returned (.agg #[.string ⟨#[111, 118, 101, 114, 118, 111, 116, 101]⟩, .slice vo vn vc, .int .i64 0]) /\ StrL (ownF W.heap.size [9]) w' vo vn vc [atI (wordsOf wOvervote) ov] /\ Below W.heap.size W w') := HOv
 replace HSk : Hid (∀ W, Calls Tryz.prog 146 #[.string ⟨#[115, 107, 105, 112]⟩, .int .i64 sk] W fun e w' => ∃ vo vn vc, e = .returned (.agg #[.string ⟨#[115, 107, 105, 112]⟩, .slice vo vn vc, .int .i64 0]) /\ StrL (ownF W.heap.size [9]) w' vo vn vc [atI (wordsOf wSkip) sk] /\ Below W.heap.size W w') := HSk
 have HSe : Hid (∀ W, Below U.heap.size U W -> Calls Tryz.prog 90 #[.string ⟨#[115, 101, 97, 116, 115]⟩, .int .i64 se] W fun e w' => ∃ vo vn vc, e = .returned (.agg #[.string ⟨#[115, 101, 97, 116, 115]⟩, .slice vo vn vc, .int .i64 0]) /\ StrL (ownF W.heap.size [9]) w' vo vn vc [Lib.itoa se] /\ Below W.heap.size W w') := fun W hb => numeric_c ⟨#[115, 101, 97, 116, 115]⟩ se W hse.1 hse.2 (HT.out.below hb)
 have HRa : Hid (∀ W, Below U.heap.size U W -> Calls Tryz.prog 90 #[.string ⟨#[114, 97, 110, 107, 115]⟩, .int .i64 ra] W fun e w' => ∃ vo vn vc, e = .returned (.agg #[.string ⟨#[114, 97, 110, 107, 115]⟩, .slice vo vn vc, .int .i64 0]) /\ StrL (ownF W.heap.size [9]) w' vo vn vc [Lib.itoa ra] /\ Below W.heap.size W w') := fun W hb => numeric_c ⟨#[114, 97, 110, 107, 115]⟩ ra W hra.1 hra.2 (HT.out.below hb)
 have HCl : Hid (∀ W, Below U.heap.size U W -> Calls Tryz.prog 92 #[.slice vo vn vc] W fun e w' => ∃ ro m d, e = .returned (.slice ro m d) /\ StrL (ownF W.heap.size [9]) w' ro m d cs /\ Below W.heap.size W w') := fun W hb => sClone_c cs vo vn vc W (HL.out W hb) (by omega)
 have HFd : Hid (∀ W vo vn vc, Calls Tryz.prog 91 #[.string ⟨#[99, 97, 110, 100, 105, 100, 97, 116, 101, 115]⟩, .slice vo vn vc] W fun e w' => e = .returned (.agg #[.string ⟨#[99, 97, 110, 100, 105, 100, 97, 116, 101, 115]⟩, .slice vo vn vc, .int .i64 0]) /\ Below W.heap.size W w') := fun W vo vn vc => sField_c _ vo vn vc W
 have y_0 : U.cell? ⟨bb, 0, none⟩ = some (.string KN) := A0.out.cell 0
 have y_1 : U.cell? ⟨bb, 1, none⟩ = some (.slice vo vn vc) := A0.out.cell 1
 have y_2 : U.cell? ⟨bb, 2, none⟩ = some (.int .i64 m) := A0.out.cell 2
 have y_3 : U.cell? ⟨bb, 3, none⟩ = some (.int .i64 se) := A0.out.cell 3
 have y_4 : U.cell? ⟨bb, 4, none⟩ = some (.int .i64 ra) := A0.out.cell 4
 have y_5 : U.cell? ⟨bb, 5, none⟩ = some (.int .i64 di) := A0.out.cell 5
 have y_6 : U.cell? ⟨bb, 6, none⟩ = some (.int .i64 ti) := A0.out.cell 6
 have y_7 : U.cell? ⟨bb, 7, none⟩ = some (.int .i64 ov) := A0.out.cell 7
 have y_8 : U.cell? ⟨bb, 8, none⟩ = some (.int .i64 sk) := A0.out.cell 8
 have hmb : ((m : Int) == 2) = false := by simpa using hm
 have hcf : descCF ⟨nm, cs, m, se, ra, di, ti, ov, sk⟩ = ([fC wMethod m, fN wSeats se, fN wRanks ra]) ++ [fC wTies ti, fC wOvervote ov, fC wSkip sk, ⟨wCandidates, cs, 0⟩] := by
  show _ ++ (if m = 2 then _ else _) ++ _ = _
  rw [if_neg hm]
  simp
 rw [hcf]
 have HD : Below U.heap.size U U.drew := (Below.refl _ _).drew
 clear h hT AV AU BV BU hz2 hse hra hn hm hcf
 go_enter Tryz.func93, Tryz.ntmps93
 go_wp2_with fail
 go_region_held3 (fun w' => w'.cell? ⟨bb, 2, none⟩ = some (.int .i64 m) /\ w'.cell? ⟨bb, 3, none⟩ = some (.int .i64 se) /\ w'.cell? ⟨bb, 4, none⟩ = some (.int .i64 ra)) (go_keep) (first
   | (go_at_call 146; (with_reducible refine (HM.out U.drew).mono ?_); rintro e v1 ⟨a1, n1, c1, rfl, S1, B1⟩; have p1_0 := cell_keep (w := U.drew) y_0 B1; have p1_1 := cell_keep (w := U.drew) y_1 B1; have p1_2 := cell_keep (w := U.drew) y_2 B1; have p1_3 := cell_keep (w := U.drew) y_3 B1; have p1_4 := cell_keep (w := U.drew) y_4 B1; have p1_5 := cell_keep (w := U.drew) y_5 B1; have p1_6 := cell_keep (w := U.drew) y_6 B1; have p1_7 := cell_keep (w := U.drew) y_7 B1; have p1_8 := cell_keep (w := U.drew) y_8 B1; have C1 : Below U.heap.size U v1 := HD.trans (B1.mono HD.size); have T1 : StrL (ownF U.heap.size [9]) v1 a1 n1 c1 [atI (wordsOf wMethod) m] := S1)
   | (go_at_call 90; (with_reducible refine (HSe.out v1 C1).mono ?_); rintro e v2 ⟨a2, n2, c2, rfl, S2, B2⟩; have p2_0 := cell_keep p1_0 B2; have p2_1 := cell_keep p1_1 B2; have p2_2 := cell_keep p1_2 B2; have p2_3 := cell_keep p1_3 B2; have p2_4 := cell_keep p1_4 B2; have p2_5 := cell_keep p1_5 B2; have p2_6 := cell_keep p1_6 B2; have p2_7 := cell_keep p1_7 B2; have p2_8 := cell_keep p1_8 B2; have C2 : Below U.heap.size U v2 := C1.trans (B2.mono C1.size); have T2a := keep_own T1 B2; have T2b := own_lower S2 C1.size)
   | (go_at_call 90; (with_reducible refine (HRa.out v2 C2).mono ?_); rintro e v3 ⟨a3, n3, c3, rfl, S3, B3⟩; have p3_0 := cell_keep p2_0 B3; have p3_1 := cell_keep p2_1 B3; have p3_2 := cell_keep p2_2 B3; have p3_3 := cell_keep p2_3 B3; have p3_4 := cell_keep p2_4 B3; have p3_5 := cell_keep p2_5 B3; have p3_6 := cell_keep p2_6 B3; have p3_7 := cell_keep p2_7 B3; have p3_8 := cell_keep p2_8 B3; have C3 : Below U.heap.size U v3 := C2.trans (B3.mono C2.size); have T3a := keep_own T2a B3; have T3b := keep_own T2b B3; have T3c := own_lower S3 C2.size; obtain ⟨X, e4, FR, BX⟩ := frow_new (m := 3) v3 U.heap.size [fC wMethod m, fN wSeats se, fN wRanks ra] _ (fc_one T3a (fc_one T3b (fc_one T3c fc_nil))) C3.size rfl (by decide : 3 <= 100); replace e4 : v3.alloc (.cells #[.string ⟨#[109, 101, 116, 104, 111, 100]⟩, .slice a1 n1 c1, .int .i64 0, .string ⟨#[115, 101, 97, 116, 115]⟩, .slice a2 n2 c2, .int .i64 0, .string ⟨#[114, 97, 110, 107, 115]⟩, .slice a3 n3 c3, .int .i64 0] 63) = X := e4; have z_0 := cell_keep p3_0 BX; have z_1 := cell_keep p3_1 BX; have z_2 := cell_keep p3_2 BX; have z_3 := cell_keep p3_3 BX; have z_4 := cell_keep p3_4 BX; have z_5 := cell_keep p3_5 BX; have z_6 := cell_keep p3_6 BX; have z_7 := cell_keep p3_7 BX; have z_8 := cell_keep p3_8 BX))
 all_goals
   have CX : Hid (Below U.heap.size U X) := C3.trans (BX.mono C3.size)
   have FRH := Lib.hid FR
   clear FR BX C3 C2 C1 B1 B2 B3 S1 S2 S3 T1 T2a T2b T3a T3b T3c p1_0 p1_1 p1_2 p1_3 p1_4 p1_5 p1_6 p1_7 p1_8 p2_0 p2_1 p2_2 p2_3 p2_4 p2_5 p2_6 p2_7 p2_8 p3_0 p3_1 p3_2 p3_3 p3_4 p3_5 p3_6 p3_7 p3_8
   obtain ⟨Y, hY⟩ : ∃ Y, Y = X := ⟨_, rfl⟩
   subst hY
   have FRY := FRH
   have CY := CX
   have A0Y := Lib.hid (A0.out.kept CX.out)
   have A1Y := Lib.hid (A1.out.kept CX.out)
   go_wp2_with fail
   obtain ⟨us6, OR6, FC6⟩ := FRY.out
   have x_0 : Y.drew.cell? ⟨bb, 0, none⟩ = some (.string KN) := A0Y.out.cell 0
   have x_1 : Y.drew.cell? ⟨bb, 1, none⟩ = some (.slice vo vn vc) := A0Y.out.cell 1
   have x_2 : Y.drew.cell? ⟨bb, 2, none⟩ = some (.int .i64 m) := A0Y.out.cell 2
   have x_3 : Y.drew.cell? ⟨bb, 3, none⟩ = some (.int .i64 se) := A0Y.out.cell 3
   have x_4 : Y.drew.cell? ⟨bb, 4, none⟩ = some (.int .i64 ra) := A0Y.out.cell 4
   have x_5 : Y.drew.cell? ⟨bb, 5, none⟩ = some (.int .i64 di) := A0Y.out.cell 5
   have x_6 : Y.drew.cell? ⟨bb, 6, none⟩ = some (.int .i64 ti) := A0Y.out.cell 6
   have x_7 : Y.drew.cell? ⟨bb, 7, none⟩ = some (.int .i64 ov) := A0Y.out.cell 7
   have x_8 : Y.drew.cell? ⟨bb, 8, none⟩ = some (.int .i64 sk) := A0Y.out.cell 8
   have DY : Below U.heap.size U Y.drew := CY.out.drew
   have OR7 : Y.drew.ownsRow U.heap.size 63 3 (.slice (some ⟨v3.heap.size, 0, none⟩) 3 3) 3 us6 := OR6
   have FC7 : FC (ownF U.heap.size [9]) Y.drew [fC wMethod m, fN wSeats se, fN wRanks ra] us6 := FC.keep (stable_own _ _) (keeps_below _ (Below.refl _ _).drew) FC6
   clear FRH  z_0 z_1 z_2 z_3 z_4 z_5 z_6 z_7 z_8
   go_region_held3 (fun w' => w'.cell? ⟨bb, 1, none⟩ = some (.slice vo vn vc) /\ w'.cell? ⟨bb, 6, none⟩ = some (.int .i64 ti) /\ w'.cell? ⟨bb, 7, none⟩ = some (.int .i64 ov) /\ w'.cell? ⟨bb, 8, none⟩ = some (.int .i64 sk)) (go_keep) (first
     | (go_at_call 146; (with_reducible refine (HTi.out Y.drew).mono ?_); rintro e u1 ⟨b1, m1, d1, rfl, S1, B1⟩; have s1_0 := cell_keep (w := Y.drew) x_0 B1; have s1_1 := cell_keep (w := Y.drew) x_1 B1; have s1_6 := cell_keep (w := Y.drew) x_6 B1; have s1_7 := cell_keep (w := Y.drew) x_7 B1; have s1_8 := cell_keep (w := Y.drew) x_8 B1; have D1 : Below U.heap.size U u1 := DY.trans (B1.mono DY.size); have O1 := ownsRow_keep OR7 B1; have F1 := FC.keep (stable_own _ _) (keeps_below _ B1) FC7; have P1 := own_lower S1 DY.size)
     | (go_at_call 146; (with_reducible refine (HOv.out u1).mono ?_); rintro e u2 ⟨b2, m2, d2, rfl, S2, B2⟩; have s2_0 := cell_keep s1_0 B2; have s2_1 := cell_keep s1_1 B2; have s2_6 := cell_keep s1_6 B2; have s2_7 := cell_keep s1_7 B2; have s2_8 := cell_keep s1_8 B2; have D2 : Below U.heap.size U u2 := D1.trans (B2.mono D1.size); have O2 := ownsRow_keep O1 B2; have F2 := FC.keep (stable_own _ _) (keeps_below _ B2) F1; have P2a := keep_own P1 B2; have P2b := own_lower S2 D1.size)
     | (go_at_call 146; (with_reducible refine (HSk.out u2).mono ?_); rintro e u3 ⟨b3, m3, d3, rfl, S3, B3⟩; have s3_0 := cell_keep s2_0 B3; have s3_1 := cell_keep s2_1 B3; have s3_6 := cell_keep s2_6 B3; have s3_7 := cell_keep s2_7 B3; have s3_8 := cell_keep s2_8 B3; have D3 : Below U.heap.size U u3 := D2.trans (B3.mono D2.size); have O3 := ownsRow_keep O2 B3; have F3 := FC.keep (stable_own _ _) (keeps_below _ B3) F2; have P3a := keep_own P2a B3; have P3b := keep_own P2b B3; have P3c := own_lower S3 D2.size)
     | (go_at_call 92; (with_reducible refine (HCl.out u3 D3).mono ?_); rintro e u4 ⟨b4, m4, d4, rfl, S4, B4⟩; have s4_0 := cell_keep s3_0 B4; have s4_1 := cell_keep s3_1 B4; have s4_6 := cell_keep s3_6 B4; have s4_7 := cell_keep s3_7 B4; have s4_8 := cell_keep s3_8 B4; have D4 : Below U.heap.size U u4 := D3.trans (B4.mono D3.size); have O4 := ownsRow_keep O3 B4; have F4 := FC.keep (stable_own _ _) (keeps_below _ B4) F3; have P4a := keep_own P3a B4; have P4b := keep_own P3b B4; have P4c := keep_own P3c B4; have P4d := own_lower S4 D3.size)
     | (go_at_call 91; (with_reducible refine (HFd.out u4 b4 m4 d4).mono ?_); rintro e u5 ⟨rfl, B5⟩; have s5_0 := cell_keep s4_0 B5; have s5_1 := cell_keep s4_1 B5; have s5_6 := cell_keep s4_6 B5; have s5_7 := cell_keep s4_7 B5; have s5_8 := cell_keep s4_8 B5; have D5 : Below U.heap.size U u5 := D4.trans (B5.mono D4.size); have O5 := ownsRow_keep O4 B5; have F5 := FC.keep (stable_own _ _) (keeps_below _ B5) F4; have P5a := keep_own P4a B5; have P5b := keep_own P4b B5; have P5c := keep_own P4c B5; have P5d := keep_own P4d B5; obtain ⟨Xa, e9, _, BXa, _⟩ := new_box u5 63 [.string ⟨#[116, 105, 101, 115]⟩, .slice b1 m1 d1, .int .i64 0, .string ⟨#[111, 118, 101, 114, 118, 111, 116, 101]⟩, .slice b2 m2 d2, .int .i64 0, .string ⟨#[115, 107, 105, 112]⟩, .slice b3 m3 d3, .int .i64 0, .string ⟨#[99, 97, 110, 100, 105, 100, 97, 116, 101, 115]⟩, .slice b4 m4 d4, .int .i64 0]; have hU5 := D5.size; have s6_0 := cell_keep s5_0 BXa; have s6_1 := cell_keep s5_1 BXa; have s6_6 := cell_keep s5_6 BXa; have s6_7 := cell_keep s5_7 BXa; have s6_8 := cell_keep s5_8 BXa)
     | (refine step_appM (m := 4) (vs := [.string ⟨#[116, 105, 101, 115]⟩, .slice b1 m1 d1, .int .i64 0, .string ⟨#[111, 118, 101, 114, 118, 111, 116, 101]⟩, .slice b2 m2 d2, .int .i64 0, .string ⟨#[115, 107, 105, 112]⟩, .slice b3 m3 d3, .int .i64 0, .string ⟨#[99, 97, 110, 100, 105, 100, 97, 116, 101, 115]⟩, .slice b4 m4 d4, .int .i64 0]) Tryz.underlying53 infoF rfl (by decide) (by decide) (by decide) (by decide) _ _ rfl rfl e9 O5 hU5 (by omega) rfl (by intro u hu; simp at hu; rcases hu with rfl | rfl | rfl | rfl | rfl | rfl | rfl | rfl | rfl | rfl | rfl | rfl <;> rfl) rfl rfl ?_; intro ao9 c9 Z9 O9 G9 B9; have FR9 := FRow.app (m := 4) O5 F5 (fc_one (k := wTies) P5a (fc_one (k := wOvervote) P5b (fc_one (k := wSkip) P5c (fc_one (k := wCandidates) P5d fc_nil)))) O9 G9; have A9 := (Arr.kept (w := Y.drew) A0Y.out (B1.trans ((B2.mono B1.size).trans ((B3.mono (Nat.le_trans B1.size B2.size)).trans ((B4.mono (Nat.le_trans B1.size (Nat.le_trans B2.size B3.size))).trans (B5.mono (Nat.le_trans B1.size (Nat.le_trans B2.size (Nat.le_trans B3.size B4.size))))))))).row O5 (by decide) G9; have A10 := (Arr.kept (w := Y.drew) A1Y.out (B1.trans ((B2.mono B1.size).trans ((B3.mono (Nat.le_trans B1.size B2.size)).trans ((B4.mono (Nat.le_trans B1.size (Nat.le_trans B2.size B3.size))).trans (B5.mono (Nat.le_trans B1.size (Nat.le_trans B2.size (Nat.le_trans B3.size B4.size))))))))).row O5 (by decide) G9; have z9_0 : Z9.cell? ⟨bb, 0, none⟩ = some (.string KN) := A9.cell 0; have z9_1 : Z9.cell? ⟨bb, 1, none⟩ = some (.slice vo vn vc) := A9.cell 1; have z9_6 : Z9.cell? ⟨bb, 6, none⟩ = some (.int .i64 ti) := A9.cell 6; have z9_7 : Z9.cell? ⟨bb, 7, none⟩ = some (.int .i64 ov) := A9.cell 7; have z9_8 : Z9.cell? ⟨bb, 8, none⟩ = some (.int .i64 sk) := A9.cell 8; have D9 : Below U.heap.size U Z9 := D5.trans B9))
   all_goals
     have FZ := Lib.hid FR9
     have DZ := Lib.hid D9
     have A10H := Lib.hid A10
     clear FR9 D9 A9 A10 O9 G9 B9 O5 F5 O4 F4 O3 F3 O2 F2 O1 F1 OR7 FC7 OR6 FC6 P5a P5b P5c P5d BXa e9 hU5
     go_wp2_with (go_at_call 89; refine (sBlock_c _ _ _ _ _ _).mono ?_; rintro e q1 ⟨rfl, Bq⟩; obtain ⟨Z, m5, hm5, AZ, q0, q1', q2, q3, q4, q5, q6, q7⟩ := put_box4 (A10H.out.kept Bq) (.string ⟨#[99, 111, 110, 116, 101, 115, 116]⟩) (.string KN) (.slice ao9 (3 + 4) c9) (.int .i64 0); have r0 : Z.cell? ⟨bb + 1, 0, none⟩ = some (.string ⟨#[99, 111, 110, 116, 101, 115, 116]⟩) := AZ.cell 0; have r1 : Z.cell? ⟨bb + 1, 1, none⟩ = some (.string KN) := AZ.cell 1; have r2 : Z.cell? ⟨bb + 1, 2, none⟩ = some (.slice ao9 (3 + 4) c9) := AZ.cell 2; have r3 : Z.cell? ⟨bb + 1, 3, none⟩ = some (.int .i64 0) := AZ.cell 3; have FZ2 := FRow.below FZ.out Bq; have DZ2 := DZ.out.trans (Bq.mono DZ.out.size); have hfin := block_fin (A10H.out.kept Bq) hm5 FZ2 DZ2 HB.out hle.out)
     refine bodyPost_ret (v := .agg #[.string ⟨#[99, 111, 110, 116, 101, 115, 116]⟩, .string KN, .slice ao9 (3 + 4) c9, .int .i64 0]) (by simp [results, Tryz.results93, go_sem, r0, r1, r2, r3]) rfl ?_
     exact ⟨_, _, _, rfl, by first | exact hfin.out.1 | (rw [<- hbb]; exact hfin.out.1), by first | exact hfin.out.2 | (rw [<- hbb]; exact hfin.out.2)⟩
end Go.Proofs.YtemdkkphmldgjaaGreatDoor
namespace Go.Proofs.YtemdkkphmldgjaaGreatDoor
open Go.RowKit Lx
structure RatIn (x : Elc) (s : ESl) : Prop where
 num : ∀ z ∈ x.rnum, 0 <= z /\ z <= 4294967295
 den : ∀ z ∈ x.rden, 0 <= z /\ z <= 4294967295
 n : s.un <= 400000
 d : s.dn <= 400000
theorem q_lst {S : World -> Nat -> Prop} {w : World} {ao : Option Addr} {n c : Nat} {xs : List Int} (h : IntL .u32 S w ao n c xs) (hw : ∀ z ∈ xs, 0 <= z /\ z <= 4294967295) : Q.Lst .u32 w ao n c xs := by
 refine ⟨IntL.len h, Row.cap h, Row.room h, Row.isSome h, fun i hi => ?_, fun z hz => Q.wf_u32 (hw z hz).1 (hw z hz).2⟩
 have hl := IntL.len h
 have := (Row.cell h i (.int .u32 (xs.getD i 0)) (by rw [List.getElem?_map, List.getD_eq_getElem?_getD, List.getElem?_eq_getElem (by omega)]; rfl)).1
 exact this
end Go.Proofs.YtemdkkphmldgjaaGreatDoor
