/-
  Texts of the proof, put together: SchDs4.
-/
import Derived.Test.YtemdkkphmldgjaaGreatDoorPkA23
import Derived.Test.YtemdkkphmldgjaaGreatDoorPkA24
set_option maxRecDepth 100000
set_option maxHeartbeats 51200000
namespace Go.Proofs.YtemdkkphmldgjaaGreatDoor
open Go.RowKit Lx
theorem describeContest_c (x : Cst) (vo : Option Addr) (vn vc : Nat) (w : World) (h : StrL anyF w vo vn vc x.cands) (hse : I64 x.seats) (hra : I64 x.ranks) (hdi : I64 x.digits) (hn : vn <= 4000000) (hT : Tabs w) :
    Calls Tryz.prog 93 #[.agg #[.string (stg x.name), .slice vo vn vc, .int .i64 x.method, .int .i64 x.seats, .int .i64 x.ranks, .int .i64 x.digits, .int .i64 x.ties, .int .i64 x.over, .int .i64 x.skip]] w fun e w' => ∃ fo fn fc, e = .returned (.agg #[.string (stg kContest), .string (stg x.name), .slice fo fn fc, .int .i64 0]) /\ FRow w.heap.size w' fo fn fc (descCF x) /\ Below w.heap.size w w' := by
 by_cases hm : x.method = 2
 . exact describeContest_meek x.name x.cands x.method x.seats x.ranks x.digits x.ties x.over x.skip vo vn vc w hm h hse hra hdi hn hT
 . exact describeContest_other x.name x.cands x.method x.seats x.ranks x.digits x.ties x.over x.skip vo vn vc w hm h hse hra hdi hn hT
theorem fc_lit {B : Nat} {w : World} {k : List UInt8} {K : ByteArray} {vs : List (List UInt8)} {vo : Option Addr} {vn vc : Nat} {fs : List SFld} {us : List Value} (hk : stg k = K) (h : StrL (ownF B [9]) w vo vn vc vs) (hr : FC (ownF B [9]) w fs us) : FC (ownF B [9]) w (⟨k, vs, 0⟩ :: fs) (.string K :: .slice vo vn vc :: .int .i64 0 :: us) := by
 subst hk
 exact fc_one h hr
theorem bc_lit {S : World -> Nat -> Prop} {w : World} {k nm : List UInt8} {K M : ByteArray} {fs : List SFld} {fo : Option Addr} {fn fc : Nat} {bs : List SBlc} {us : List Value} (hk : stg k = K) (hm : stg nm = M) (h : FldS S w fo fn fc fs) (hr : BC S w bs us) : BC S w (⟨k, nm, fs, 0⟩ :: bs) (.string K :: .string M :: .slice fo fn fc :: .int .i64 0 :: us) := by
 subst hk hm
 exact ⟨fo, fn, fc, us, rfl, h, hr⟩
theorem bc_nil {S : World -> Nat -> Prop} {w : World} : BC S w [] [] := rfl
theorem FRow.ownx {B B' : Nat} {w : World} {ao : Option Addr} {n c : Nat} {fs : List SFld} {q : Option Nat} (h : FRow B w ao n c fs) (hB : B' <= B) (hq : ∀ k, q = some k -> k < B) : FldS (ownX B' q) w ao n c fs := h.row.mono (own_new hB (fun _ h => h) hq)
theorem ds_new {m : Nat} (w : World) (B : Nat) (bs : List SBlc) (us : List Value) (h : BC (ownX B none) w bs us) (hB : B <= w.heap.size) (hl : bs.length = m) (hm : m <= 100) : ∃ V, w.alloc (.cells us.toArray 55) = V /\ DsI B V bs (some ⟨w.heap.size, 0, none⟩) m m [] none 0 0 /\ Below w.heap.size w V := by
 have b1 : Below w.heap.size w (w.alloc (.cells us.toArray 55)) := (Below.refl _ _).alloc (Nat.le_refl _) _
 have hu := h.len
 refine ⟨_, rfl, ⟨⟨us, ?_, h.keep (stable_ownX _ _) (keeps_below _ b1)⟩, World.ownsRow_nil _ _ _ _⟩, b1⟩
 have := World.ownsRow_lit (e := 55) (base := w.heap.size) (size := 4) w us.toArray m (Nat.le_refl _) (by unfold maxLen; omega) (by simp; omega)
 simpa using World.ownsRow.mono this hB
structure DsOk (e : Elc) (s : ESl) : Prop where
 nums : I64 e.dots /\ I64 e.blank /\ I64 e.marked /\ I64 e.scanners /\ I64 e.batch /\ I64 e.cell
 precs : e.precs.length <= 4000000
 conts : e.conts.length <= 1900000
 stys : e.stys.length <= 1900000
 cst : ∀ x ∈ e.conts, x.cands.length <= 4000000 /\ I64 x.seats /\ I64 x.ranks /\ I64 x.digits
 sty : ∀ x ∈ e.stys, x.precs.length <= 4000000 /\ x.conts.length <= 4000000
 rat : RatIn e s
 rn : s.un <= 4
 rd : s.dn <= 4
def geF (lo : Nat) : World -> Nat -> Prop := fun _ k => lo <= k
theorem stable_ge (lo : Nat) : Stable (geF lo) := fun _ _ _ _ _ h => h
theorem DsI.ge {B : Nat} {w : World} {bs : List SBlc} {bo : Option Addr} {bn bc : Nat} {ns : List (List UInt8)} {qo : Option Addr} {qn qc : Nat} (h : DsI B w bs bo bn bc ns qo qn qc) {lo : Nat} (hl : lo <= B) : BlkS (geF lo) w bo bn bc bs := by
 obtain ⟨us, h1, h2⟩ := h.blk
 exact ⟨us, (Row.own h1 (by decide)).mono fun _ h => Nat.le_trans hl h.1, h2.mono fun _ h => Nat.le_trans hl h.1.1⟩
theorem src_fin {w U W Z : World} {b : Nat} {v0 v1 u0 u1 : Value} {bs : List SBlc} {bo : Option Addr} {bn bc : Nat} {ns : List (List UInt8)} {qo : Option Addr} {qn qc : Nat} (A : Arr W b 24 [v0, v1]) (hZ : Hid (Z = put2 W b u0 u1)) (D : DsI U.heap.size W bs bo bn bc ns qo qn qc) (E : Below U.heap.size U W) (HB : Below w.heap.size w U) (hle : w.heap.size <= b) : Hid (BlkS (geF w.heap.size) Z bo bn bc bs /\ Below w.heap.size w Z) := by
 have hb := HB.trans (E.mono HB.size)
 have hg : W.grownBy Z (some b) := by
  rw [hZ.out]
  exact grown_trans (set_grown W b 0 u0) (set_grown _ b 1 u1)
 refine ⟨(D.box A (by decide) hg).ge HB.size, ?_⟩
 rw [hZ.out]
 exact (hb.setCell (p := ⟨_, 0, none⟩) hle _).setCell (p := ⟨_, 1, none⟩) hle _
namespace Lx
def riskT (e : Elc) : List UInt8 := bys (Q.tx (Q.RatMath.nf ⟨e.rneg, Q.NatMath.val e.rnum, Q.NatMath.val e.rden⟩))
end Lx
theorem describe_c (e : Elc) (s : ESl) (w : World) (h : ElcS anyF w e s) (hok : DsOk e s) (hT : Tabs w) :
    Calls Tryz.prog 45 #[eV e s] w fun r w' => ∃ bo bn bc, r = .returned (.agg #[.string (stg e.title), .slice bo bn bc]) /\ BlkS (geF w.heap.size) w' bo bn bc (descS e (riskT e)).blks /\ Below w.heap.size w w' := by
 show Calls Tryz.prog 45 #[.agg #[.string (stg e.title), .int .i64 e.dots, .int .i64 e.blank, .int .i64 e.marked, .slice s.po s.pn s.pc, .slice s.co s.cn s.cc, .slice s.so s.sn s.sc, .int .i64 e.scanners, .int .i64 e.batch, .bool e.rneg, .slice s.uo s.un s.uc, .slice s.dO s.dn s.dc, .int .i64 e.cell, .string (stg e.seed)]] w _
 obtain ⟨V, e1, AV, BV, hz⟩ := new_box w 34 [.string (stg e.title), .int .i64 e.dots, .int .i64 e.blank, .int .i64 e.marked, .slice s.po s.pn s.pc, .slice s.co s.cn s.cc, .slice s.so s.sn s.sc, .int .i64 e.scanners, .int .i64 e.batch, .bool e.rneg, .slice s.uo s.un s.uc, .slice s.dO s.dn s.dc, .int .i64 e.cell, .string (stg e.seed)]
 obtain ⟨U, e2, AU, BU, hz2⟩ := new_box V 24 [.string ⟨#[]⟩, .slice none 0 0]
 obtain ⟨KT, hKT⟩ : ∃ K, Hid (stg e.title = K) := ⟨_, rfl⟩
 obtain ⟨KS, hKS⟩ : ∃ K, Hid (stg e.seed = K) := ⟨_, rfl⟩
 rw [hKT.out, hKS.out] at e1 AV
 rw [hKT.out, hKS.out]
 have HT := Lib.hid ((hT.below BV).below BU)
 have HE : Hid (∀ W, Below U.heap.size U W -> ElcS anyF W e s) := fun W hb => ((h.below BV).below BU).below hb
 obtain ⟨bb, hbb⟩ : ∃ b, w.heap.size = b := ⟨_, rfl⟩
 rw [hbb] at AV hz
 rw [hz] at AU
 have A0 := Lib.hid (AV.kept BU)
 have A1 := Lib.hid AU
 have HB : Hid (Below w.heap.size w U) := BV.trans (BU.mono BV.size)
 have hle : Hid (w.heap.size <= bb + 1) := by show _ <= _; omega
 have hpn : Hid (s.pn <= 4000000) := by show _ <= _; rw [<- StrL.len h.precs]; exact hok.precs
 have hcl := Lib.hid h.conts.len
 have hsl := Lib.hid h.stys.len
 have hcn : Hid (s.cn <= 1900000) := by show _ <= _; rw [<- hcl.out]; exact hok.conts
 have hsn : Hid (s.sn <= 1900000) := by show _ <= _; rw [<- hsl.out]; exact hok.stys
 obtain ⟨hccap, hcroom⟩ := h.conts.caps
 obtain ⟨hscap, hsroom⟩ := h.stys.caps
 have HDo : Hid (∀ W, Below U.heap.size U W -> Calls Tryz.prog 90 #[.string ⟨#[100, 111, 116, 115]⟩, .int .i64 e.dots] W fun r w' => ∃ vo vn vc, r = .returned (.agg #[.string ⟨#[100, 111, 116, 115]⟩, .slice vo vn vc, .int .i64 0]) /\ StrL (ownF W.heap.size [9]) w' vo vn vc [Lib.itoa e.dots] /\ Below W.heap.size W w') := fun W hb => numeric_c ⟨#[100, 111, 116, 115]⟩ e.dots W hok.nums.1.1 hok.nums.1.2 (HT.out.below hb)
 have HBl : Hid (∀ W, Below U.heap.size U W -> Calls Tryz.prog 90 #[.string ⟨#[98, 108, 97, 110, 107]⟩, .int .i64 e.blank] W fun r w' => ∃ vo vn vc, r = .returned (.agg #[.string ⟨#[98, 108, 97, 110, 107]⟩, .slice vo vn vc, .int .i64 0]) /\ StrL (ownF W.heap.size [9]) w' vo vn vc [Lib.itoa e.blank] /\ Below W.heap.size W w') := fun W hb => numeric_c ⟨#[98, 108, 97, 110, 107]⟩ e.blank W hok.nums.2.1.1 hok.nums.2.1.2 (HT.out.below hb)
 have HMa : Hid (∀ W, Below U.heap.size U W -> Calls Tryz.prog 90 #[.string ⟨#[109, 97, 114, 107, 101, 100]⟩, .int .i64 e.marked] W fun r w' => ∃ vo vn vc, r = .returned (.agg #[.string ⟨#[109, 97, 114, 107, 101, 100]⟩, .slice vo vn vc, .int .i64 0]) /\ StrL (ownF W.heap.size [9]) w' vo vn vc [Lib.itoa e.marked] /\ Below W.heap.size W w') := fun W hb => numeric_c ⟨#[109, 97, 114, 107, 101, 100]⟩ e.marked W hok.nums.2.2.1.1 hok.nums.2.2.1.2 (HT.out.below hb)
 have HCo : Hid (∀ W, Below U.heap.size U W -> Calls Tryz.prog 90 #[.string ⟨#[99, 111, 117, 110, 116]⟩, .int .i64 e.scanners] W fun r w' => ∃ vo vn vc, r = .returned (.agg #[.string ⟨#[99, 111, 117, 110, 116]⟩, .slice vo vn vc, .int .i64 0]) /\ StrL (ownF W.heap.size [9]) w' vo vn vc [Lib.itoa e.scanners] /\ Below W.heap.size W w') := fun W hb => numeric_c ⟨#[99, 111, 117, 110, 116]⟩ e.scanners W hok.nums.2.2.2.1.1 hok.nums.2.2.2.1.2 (HT.out.below hb)
 have HBa : Hid (∀ W, Below U.heap.size U W -> Calls Tryz.prog 90 #[.string ⟨#[98, 97, 116, 99, 104]⟩, .int .i64 e.batch] W fun r w' => ∃ vo vn vc, r = .returned (.agg #[.string ⟨#[98, 97, 116, 99, 104]⟩, .slice vo vn vc, .int .i64 0]) /\ StrL (ownF W.heap.size [9]) w' vo vn vc [Lib.itoa e.batch] /\ Below W.heap.size W w') := fun W hb => numeric_c ⟨#[98, 97, 116, 99, 104]⟩ e.batch W hok.nums.2.2.2.2.1.1 hok.nums.2.2.2.2.1.2 (HT.out.below hb)
 have HCe : Hid (∀ W, Below U.heap.size U W -> Calls Tryz.prog 90 #[.string ⟨#[99, 101, 108, 108]⟩, .int .i64 e.cell] W fun r w' => ∃ vo vn vc, r = .returned (.agg #[.string ⟨#[99, 101, 108, 108]⟩, .slice vo vn vc, .int .i64 0]) /\ StrL (ownF W.heap.size [9]) w' vo vn vc [Lib.itoa e.cell] /\ Below W.heap.size W w') := fun W hb => numeric_c ⟨#[99, 101, 108, 108]⟩ e.cell W hok.nums.2.2.2.2.2.1 hok.nums.2.2.2.2.2.2 (HT.out.below hb)
 have HCl : Hid (∀ W, Below U.heap.size U W -> Calls Tryz.prog 92 #[.slice s.po s.pn s.pc] W fun r w' => ∃ ro m d, r = .returned (.slice ro m d) /\ StrL (ownF W.heap.size [9]) w' ro m d e.precs /\ Below W.heap.size W w') := fun W hb => sClone_c e.precs _ _ _ W (HE.out W hb).precs (by have := hpn.out; omega)
 have HFd : Hid (∀ W k vo vn vc, Calls Tryz.prog 91 #[.string k, .slice vo vn vc] W fun r w' => r = .returned (.agg #[.string k, .slice vo vn vc, .int .i64 0]) /\ Below W.heap.size W w') := fun W k vo vn vc => sField_c k vo vn vc W
 have HBk : Hid (∀ W k m fo fn fc, Calls Tryz.prog 89 #[.string k, .string m, .slice fo fn fc] W fun r w' => r = .returned (.agg #[.string k, .string m, .slice fo fn fc, .int .i64 0]) /\ Below W.heap.size W w') := fun W k m fo fn fc => sBlock_c k m fo fn fc W
 have HTx : Hid (∀ W, Below U.heap.size U W -> Calls Tryz.prog 95 #[.agg #[.bool e.rneg, .slice s.uo s.un s.uc, .slice s.dO s.dn s.dc]] W fun r w' => r = .returned (.string (stg (riskT e))) /\ Below W.heap.size W w') := fun W hb => by
  have := Q.rtext_c e.rneg _ _ _ _ _ _ e.rnum e.rden W (q_lst (HE.out W hb).num hok.rat.num) (q_lst (HE.out W hb).den hok.rat.den) hok.rn hok.rd (HT.out.below hb).pow
  have hr : stg (riskT e) = Q.tx (Q.RatMath.nf ⟨e.rneg, Q.NatMath.val e.rnum, Q.NatMath.val e.rden⟩) := stg_bys _
  rw [hr]
  exact this
 have HDc : Hid (∀ x ∈ e.conts, ∀ vo vn vc W, Below U.heap.size U W -> StrL anyF W vo vn vc x.cands -> Calls Tryz.prog 93 #[.agg #[.string (stg x.name), .slice vo vn vc, .int .i64 x.method, .int .i64 x.seats, .int .i64 x.ranks, .int .i64 x.digits, .int .i64 x.ties, .int .i64 x.over, .int .i64 x.skip]] W fun r w' => ∃ fo fn fc, r = .returned (.agg #[.string (stg kContest), .string (stg x.name), .slice fo fn fc, .int .i64 0]) /\ FRow W.heap.size w' fo fn fc (descCF x) /\ Below W.heap.size W w') := fun x hx vo vn vc W hb hv => describeContest_c x vo vn vc W hv (hok.cst x hx).2.1 (hok.cst x hx).2.2.1 (hok.cst x hx).2.2.2 (by rw [<- StrL.len hv]; exact (hok.cst x hx).1) (HT.out.below hb)
 have hsty := Lib.hid hok.sty
 obtain ⟨RK, hRK⟩ : ∃ R, riskT e = R := ⟨_, rfl⟩
 rw [hRK] at HTx |-
 obtain ⟨KR, hKR⟩ : ∃ K, Hid (stg RK = K) := ⟨_, rfl⟩
 rw [hKR.out] at HTx
 have y_1 : U.cell? ⟨bb, 1, none⟩ = some (.int .i64 e.dots) := A0.out.cell 1
 have y_2 : U.cell? ⟨bb, 2, none⟩ = some (.int .i64 e.blank) := A0.out.cell 2
 have y_3 : U.cell? ⟨bb, 3, none⟩ = some (.int .i64 e.marked) := A0.out.cell 3
 have y_4 : U.cell? ⟨bb, 4, none⟩ = some (.slice s.po s.pn s.pc) := A0.out.cell 4
 have y_7 : U.cell? ⟨bb, 7, none⟩ = some (.int .i64 e.scanners) := A0.out.cell 7
 have y_8 : U.cell? ⟨bb, 8, none⟩ = some (.int .i64 e.batch) := A0.out.cell 8
 have HD : Below U.heap.size U U.drew := (Below.refl _ _).drew
 clear h hT AV AU BV BU hz2 hok hRK
 go_enter Tryz.func45, Tryz.ntmps45
 go_wp2_with fail
 go_region_held3 (fun w' => w'.cell? ⟨bb, 1, none⟩ = some (.int .i64 e.dots) /\ w'.cell? ⟨bb, 2, none⟩ = some (.int .i64 e.blank) /\ w'.cell? ⟨bb, 3, none⟩ = some (.int .i64 e.marked) /\ w'.cell? ⟨bb, 4, none⟩ = some (.slice s.po s.pn s.pc) /\ w'.cell? ⟨bb, 7, none⟩ = some (.int .i64 e.scanners) /\ w'.cell? ⟨bb, 8, none⟩ = some (.int .i64 e.batch)) (go_keep) (first
   | (go_at_call 90; (with_reducible refine (HDo.out U.drew HD).mono ?_); rintro r v1 ⟨a1, n1, c1, rfl, S1, B1⟩; have p1_1 := cell_keep (w := U.drew) y_1 B1; have p1_2 := cell_keep (w := U.drew) y_2 B1; have p1_3 := cell_keep (w := U.drew) y_3 B1; have p1_4 := cell_keep (w := U.drew) y_4 B1; have p1_7 := cell_keep (w := U.drew) y_7 B1; have p1_8 := cell_keep (w := U.drew) y_8 B1;have C1 : Below U.heap.size U v1 := HD.trans (B1.mono HD.size);have T1 : StrL (ownF U.heap.size [9]) v1 a1 n1 c1 [Lib.itoa e.dots] := S1)
   | (go_at_call 90; (with_reducible refine (HBl.out v1 C1).mono ?_); rintro r v2 ⟨a2, n2, c2, rfl, S2, B2⟩; have p2_1 := cell_keep p1_1 B2; have p2_2 := cell_keep p1_2 B2; have p2_3 := cell_keep p1_3 B2; have p2_4 := cell_keep p1_4 B2; have p2_7 := cell_keep p1_7 B2; have p2_8 := cell_keep p1_8 B2;have C2 : Below U.heap.size U v2 := C1.trans (B2.mono C1.size);have T2a := keep_own T1 B2; have T2b := own_lower S2 C1.size)
   | (go_at_call 90; (with_reducible refine (HMa.out v2 C2).mono ?_); rintro r v3 ⟨a3, n3, c3, rfl, S3, B3⟩; have p3_1 := cell_keep p2_1 B3; have p3_2 := cell_keep p2_2 B3; have p3_3 := cell_keep p2_3 B3; have p3_4 := cell_keep p2_4 B3; have p3_7 := cell_keep p2_7 B3; have p3_8 := cell_keep p2_8 B3;have C3 : Below U.heap.size U v3 := C2.trans (B3.mono C2.size);have T3a := keep_own T2a B3; have T3b := keep_own T2b B3; have T3c := own_lower S3 C2.size; obtain ⟨X3, e4, F3, BX3⟩ := frow_new (m := 3) v3 U.heap.size [fN wDots e.dots, fN wBlank e.blank, fN wMarked e.marked] _ (fc_lit (K := ⟨#[100, 111, 116, 115]⟩) rfl T3a (fc_lit (K := ⟨#[98, 108, 97, 110, 107]⟩) rfl T3b (fc_lit (K := ⟨#[109, 97, 114, 107, 101, 100]⟩) rfl T3c fc_nil))) C3.size rfl (by decide); have x3_1 := cell_keep p3_1 BX3; have x3_2 := cell_keep p3_2 BX3; have x3_3 := cell_keep p3_3 BX3; have x3_4 := cell_keep p3_4 BX3; have x3_7 := cell_keep p3_7 BX3; have x3_8 := cell_keep p3_8 BX3;have D3 := C3.trans (BX3.mono C3.size))
   | (go_at_call 89; (with_reducible refine (HBk.out X3 _ _ _ _ _).mono ?_); rintro r v4 ⟨rfl, B4⟩; have p4_1 := cell_keep x3_1 B4; have p4_2 := cell_keep x3_2 B4; have p4_3 := cell_keep x3_3 B4; have p4_4 := cell_keep x3_4 B4; have p4_7 := cell_keep x3_7 B4; have p4_8 := cell_keep x3_8 B4;have C4 : Below U.heap.size U v4 := D3.trans (B4.mono D3.size);have F4 := F3.below B4)
   | (go_at_call 90; (with_reducible refine (HCo.out v4 C4).mono ?_); rintro r v5 ⟨a5, n5, c5, rfl, S5, B5⟩; have p5_1 := cell_keep p4_1 B5; have p5_2 := cell_keep p4_2 B5; have p5_3 := cell_keep p4_3 B5; have p5_4 := cell_keep p4_4 B5; have p5_7 := cell_keep p4_7 B5; have p5_8 := cell_keep p4_8 B5;have C5 : Below U.heap.size U v5 := C4.trans (B5.mono C4.size);have F5 := F4.below B5; have T5 := own_lower S5 C4.size)
   | (go_at_call 90; (with_reducible refine (HBa.out v5 C5).mono ?_); rintro r v6 ⟨a6, n6, c6, rfl, S6, B6⟩; have p6_1 := cell_keep p5_1 B6; have p6_2 := cell_keep p5_2 B6; have p6_3 := cell_keep p5_3 B6; have p6_4 := cell_keep p5_4 B6; have p6_7 := cell_keep p5_7 B6; have p6_8 := cell_keep p5_8 B6;have C6 : Below U.heap.size U v6 := C5.trans (B6.mono C5.size);have F6 := F5.below B6; have T6a := keep_own T5 B6; have T6b := own_lower S6 C5.size; obtain ⟨X6, e6, G6, BX6⟩ := frow_new (m := 2) v6 U.heap.size [fN wCount e.scanners, fN wBatch e.batch] _ (fc_lit (K := ⟨#[99, 111, 117, 110, 116]⟩) rfl T6a (fc_lit (K := ⟨#[98, 97, 116, 99, 104]⟩) rfl T6b fc_nil)) C6.size rfl (by decide); have x6_1 := cell_keep p6_1 BX6; have x6_2 := cell_keep p6_2 BX6; have x6_3 := cell_keep p6_3 BX6; have x6_4 := cell_keep p6_4 BX6; have x6_7 := cell_keep p6_7 BX6; have x6_8 := cell_keep p6_8 BX6;have D6 := C6.trans (BX6.mono C6.size); have FX6 := F6.below BX6)
   | (go_at_call 89; (with_reducible refine (HBk.out X6 _ _ _ _ _).mono ?_); rintro r v7 ⟨rfl, B7⟩; have p7_1 := cell_keep x6_1 B7; have p7_2 := cell_keep x6_2 B7; have p7_3 := cell_keep x6_3 B7; have p7_4 := cell_keep x6_4 B7; have p7_7 := cell_keep x6_7 B7; have p7_8 := cell_keep x6_8 B7;have C7 : Below U.heap.size U v7 := D6.trans (B7.mono D6.size);have F7 := FX6.below B7; have G7 := G6.below B7)
   | (go_at_call 92; (with_reducible refine (HCl.out v7 C7).mono ?_); rintro r v8 ⟨a8, n8, c8, rfl, S8, B8⟩; have p8_1 := cell_keep p7_1 B8; have p8_2 := cell_keep p7_2 B8; have p8_3 := cell_keep p7_3 B8; have p8_4 := cell_keep p7_4 B8; have p8_7 := cell_keep p7_7 B8; have p8_8 := cell_keep p7_8 B8;have C8 : Below U.heap.size U v8 := C7.trans (B8.mono C7.size);have F8 := F7.below B8; have G8 := G7.below B8; have T8 := own_lower S8 C7.size)
   | (go_at_call 91; (with_reducible refine (HFd.out v8 _ _ _ _).mono ?_); rintro r v9 ⟨rfl, B9⟩; have p9_1 := cell_keep p8_1 B9; have p9_2 := cell_keep p8_2 B9; have p9_3 := cell_keep p8_3 B9; have p9_4 := cell_keep p8_4 B9; have p9_7 := cell_keep p8_7 B9; have p9_8 := cell_keep p8_8 B9;have C9 : Below U.heap.size U v9 := C8.trans (B9.mono C8.size);have F9 := F8.below B9; have G9 := G8.below B9; have T9 := keep_own T8 B9; obtain ⟨X9, e9, H9, BX9⟩ := frow_new (m := 1) v9 U.heap.size [⟨wNames, e.precs, 0⟩] _ (fc_lit (K := ⟨#[110, 97, 109, 101, 115]⟩) rfl T9 fc_nil) C9.size rfl (by decide); have x9_1 := cell_keep p9_1 BX9; have x9_2 := cell_keep p9_2 BX9; have x9_3 := cell_keep p9_3 BX9; have x9_4 := cell_keep p9_4 BX9; have x9_7 := cell_keep p9_7 BX9; have x9_8 := cell_keep p9_8 BX9;have D9 := C9.trans (BX9.mono C9.size); have FX9 := F9.below BX9; have GX9 := G9.below BX9)
   | (go_at_call 89; (with_reducible refine (HBk.out X9 _ _ _ _ _).mono ?_); rintro r v10 ⟨rfl, B10⟩; have p10_1 := cell_keep x9_1 B10; have p10_2 := cell_keep x9_2 B10; have p10_3 := cell_keep x9_3 B10; have p10_4 := cell_keep x9_4 B10; have p10_7 := cell_keep x9_7 B10; have p10_8 := cell_keep x9_8 B10;have C10 : Below U.heap.size U v10 := D9.trans (B10.mono D9.size);have F10 := FX9.below B10; have G10 := GX9.below B10; have H10 := H9.below B10; obtain ⟨X10, e10, DS, BX10⟩ := ds_new (m := 3) v10 U.heap.size (dHead e) _ (bc_lit (K := ⟨#[115, 99, 97, 110]⟩) (M := ⟨#[]⟩) rfl rfl (F10.ownx (Nat.le_refl _) (fun k hk => by cases hk)) (bc_lit (K := ⟨#[115, 99, 97, 110, 110, 101, 114, 115]⟩) (M := ⟨#[]⟩) rfl rfl (G10.ownx (Nat.le_refl _) (fun k hk => by cases hk)) (bc_lit (K := ⟨#[112, 114, 101, 99, 105, 110, 99, 116, 115]⟩) (M := ⟨#[]⟩) rfl rfl (H10.ownx (Nat.le_refl _) (fun k hk => by cases hk)) bc_nil))) C10.size rfl (by decide); have x10_1 := cell_keep p10_1 BX10; have x10_2 := cell_keep p10_2 BX10; have x10_3 := cell_keep p10_3 BX10; have x10_4 := cell_keep p10_4 BX10; have x10_7 := cell_keep p10_7 BX10; have x10_8 := cell_keep p10_8 BX10;have D10 := C10.trans (BX10.mono C10.size)))
 all_goals
   have DSH : Hid (DsI U.heap.size X10 (dHead e ++ (e.conts.take 0).map descC) (some ⟨v10.heap.size, 0, none⟩) (3 + 0) 3 ((e.conts.take 0).map Cst.name) none 0 0) := by
    show DsI _ _ _ _ _ _ _ _ _ _
    rw [List.take_zero, List.map_nil, List.map_nil, List.append_nil]
    exact DS
   have D10H := Lib.hid D10
   have z_5 : X10.cell? ⟨bb, 5, none⟩ = some (.slice s.co s.cn s.cc) := (A0.out.kept D10).cell 5
   clear DS D10 BX10 C10 C9 C8 C7 C6 C5 C4 C3 C2 C1 D3 D6 D9 F10 G10 H10 FX9 GX9 H9 F9 G9 F8 G8 F7 G7 FX6 G6 F6 F5 F4 F3 T1 T2a T2b T3a T3b T3c T5 T6a T6b T8 T9 S1 S2 S3 S5 S6 S8 B1 B2 B3 B4 B5 B6 B7 B8 B9 B10 BX3 BX6 BX9 e4 e6 e9 e10 y_1 y_2 y_3 y_4 y_7 y_8 p1_1 p1_2 p1_3 p1_4 p1_7 p1_8 p2_1 p2_2 p2_3 p2_4 p2_7 p2_8 p3_1 p3_2 p3_3 p3_4 p3_7 p3_8 p4_1 p4_2 p4_3 p4_4 p4_7 p4_8 p5_1 p5_2 p5_3 p5_4 p5_7 p5_8 p6_1 p6_2 p6_3 p6_4 p6_7 p6_8 p7_1 p7_2 p7_3 p7_4 p7_7 p7_8 p8_1 p8_2 p8_3 p8_4 p8_7 p8_8 p9_1 p9_2 p9_3 p9_4 p9_7 p9_8 p10_1 p10_2 p10_3 p10_4 p10_7 p10_8 x3_1 x3_2 x3_3 x3_4 x3_7 x3_8 x6_1 x6_2 x6_3 x6_4 x6_7 x6_8 x9_1 x9_2 x9_3 x9_4 x9_7 x9_8 x10_1 x10_2 x10_3 x10_4 x10_7 x10_8
   go_wp2_with fail
   clear z_5
   go_loopw [3, 4, 38] (fun b q i wr => ∃ (j bn qn : Nat) (bo qo : Option Addr) (bc qc : Nat), j <= s.cn /\ bn = 3 + j /\ qn = j /\ i = .int .i64 (j : Int) /\ b = .slice bo bn bc /\ q = .slice qo qn qc /\ Hid (DsI U.heap.size wr (dHead e ++ (e.conts.take j).map descC) bo bn bc ((e.conts.take j).map Cst.name) qo qn qc) /\ Hid (Below U.heap.size U wr)) (fun _ _ i _ => s.cn - (intOf i).toNat)
   case atStart => exact ⟨0, 3, 0, _, none, 3, 0, Nat.zero_le _, rfl, rfl, rfl, rfl, rfl, DSH, D10H⟩
   case round =>
    obtain ⟨w1, hw1⟩ : ∃ x, x = wr := ⟨_, rfl⟩
    subst hw1
    clear DSH D10H
    obtain ⟨j, bn, qn, bo, qo, bc, qc, hj, hbn, hqn, rfl, rfl, rfl, HD1, HB1⟩ := hrel
    have hbnb : Hid (bn <= 4000000) := by show _ <= _; have := hcn.out; omega
    have hqnb : Hid (qn <= 4000000) := by show _ <= _; have := hcn.out; omega
    replace hbn := Lib.hid hbn
    replace hqn := Lib.hid hqn
    by_cases hlt : j < s.cn
    . have hlt' : (j : Int) < (s.cn : Int) := by omega
      obtain ⟨x, a, vo, vn, vc, hx, i1, c0, c1, c2, c3, c4, c5, c6, c7, c8, SX⟩ := (HE.out _ HB1.out).conts.get j hlt
      have hxm := List.mem_of_getElem? hx
      have htk := take_snoc hx
      obtain ⟨KN, hKN⟩ : ∃ K, Hid (stg x.name = K) := ⟨_, rfl⟩
      rw [hKN.out] at c0
      obtain ⟨V1, f1, A2, B2, z1⟩ := new_box w1 76 [.string ⟨#[]⟩, .slice none 0 0, .int .i64 0, .int .i64 0, .int .i64 0, .int .i64 0, .int .i64 0, .int .i64 0, .int .i64 0]
      obtain ⟨p, hp⟩ : ∃ p, w1.heap.size = p := ⟨_, rfl⟩
      rw [hp] at A2
      obtain ⟨Pw0, Pw1, Pw2, Pw3, Pw4, Pw5, Pw6, Pw7, Pw8, Pe0, Pe1, Pe2, Pe3, Pe4, Pe5, Pe6, Pe7, Pe8, PA, PG, PL, Pq0, Pr0, Pq1, Pr1, Pq2, Pr2, Pq3, Pr3, Pq4, Pr4, Pq5, Pr5, Pq6, Pr6, Pq7, Pr7, Pq8, Pr8⟩ := box_let9 A2 (.string KN) (.slice vo vn vc) (.int .i64 x.method) (.int .i64 x.seats) (.int .i64 x.ranks) (.int .i64 x.digits) (.int .i64 x.ties) (.int .i64 x.over) (.int .i64 x.skip)
      have BW : Below w1.heap.size w1 Pw8 := PL _ _ B2 (by omega)
      have BU8 := Lib.hid (HB1.out.trans (BW.mono HB1.out.size))
      have HD4 := HD1.out.below BW
      have HC := HDc.out x hxm vo vn vc Pw8 BU8.out (StrL.below SX BW)
      rw [hKN.out] at HC
      replace HC : Hid (Calls Tryz.prog 93 #[.agg #[.string KN, .slice vo vn vc, .int .i64 x.method, .int .i64 x.seats, .int .i64 x.ranks, .int .i64 x.digits, .int .i64 x.ties, .int .i64 x.over, .int .i64 x.skip]] Pw8 fun r w' => ∃ fo fn fc, r = .returned (.agg #[.string ⟨#[99, 111, 110, 116, 101, 115, 116]⟩, .string KN, .slice fo fn fc, .int .i64 0]) /\ FRow Pw8.heap.size w' fo fn fc (descCF x) /\ Below Pw8.heap.size Pw8 w') := HC
      have hqlt : Hid (∀ k, (Value.slice qo qn qc).ownBlock = some k -> k < Pw8.heap.size) := fun k hk => (World.ownsRow.lt HD4.nms k hk).2
      have HD4 := Lib.hid HD4
      have PAH := Lib.hid PA
      have s_0 : Pw8.cell? ⟨p, 0, none⟩ = some (.string KN) := PAH.out.cell 0
      have s_1 : Pw8.cell? ⟨p, 1, none⟩ = some (.slice vo vn vc) := PAH.out.cell 1
      have s_2 : Pw8.cell? ⟨p, 2, none⟩ = some (.int .i64 x.method) := PAH.out.cell 2
      have s_3 : Pw8.cell? ⟨p, 3, none⟩ = some (.int .i64 x.seats) := PAH.out.cell 3
      have s_4 : Pw8.cell? ⟨p, 4, none⟩ = some (.int .i64 x.ranks) := PAH.out.cell 4
      have s_5 : Pw8.cell? ⟨p, 5, none⟩ = some (.int .i64 x.digits) := PAH.out.cell 5
      have s_6 : Pw8.cell? ⟨p, 6, none⟩ = some (.int .i64 x.ties) := PAH.out.cell 6
      have s_7 : Pw8.cell? ⟨p, 7, none⟩ = some (.int .i64 x.over) := PAH.out.cell 7
      have s_8 : Pw8.cell? ⟨p, 8, none⟩ = some (.int .i64 x.skip) := PAH.out.cell 8
      have htk := Lib.hid htk
      have hxm := Lib.hid hxm
      clear PA PG PL B2 z1 BW A2 HB1 HD1 SX hx
      go_wp2_with (first
        | (go_at_call 93; (with_reducible refine HC.out.mono ?_); rintro r w5 ⟨fo, fn, fc, rfl, FR, B5⟩; have HD5 := HD4.out.below B5; have BU5 := Lib.hid (BU8.out.trans (B5.mono BU8.out.size)); have hU5 := BU5.out.size; obtain ⟨us, OB, BCs⟩ := HD5.blk; have hxb : BC (ownX U.heap.size (Value.slice qo qn qc).ownBlock) w5 [descC x] [.string ⟨#[99, 111, 110, 116, 101, 115, 116]⟩, .string KN, .slice fo fn fc, .int .i64 0] := bc_lit rfl hKN.out (FR.ownx BU8.out.size hqlt.out) bc_nil; have PA5 := PAH.out.kept B5; clear B5 FR)
        | (at_builtin; refine wpList_appK (vs := [.string ⟨#[99, 111, 110, 116, 101, 115, 116]⟩, .string KN, .slice fo fn fc, .int .i64 0]) Tryz.underlying22 infoB rfl (by decide) (by decide) OB hU5 hbnb.out rfl (by intro u hu; simp at hu; rcases hu with rfl | rfl | rfl | rfl <;> rfl) rfl rfl ?_; intro bo3 bc3 w6 O6 G6 B6; have HD6 := HD5.block (m := 1) OB BCs hxb O6 G6; have BU6 := Lib.hid (BU5.out.trans B6); have hU6 := BU6.out.size; have PA6 := PA5.row OB (by decide) G6; have s0 : w6.cell? ⟨p, 0, none⟩ = some (.string KN) := PA6.cell 0; clear O6 G6 B6 PA5 PA6)
        | (at_builtin; refine wpList_appT2 (x := .string KN) HD6.nms hU6 hqnb.out rfl rfl rfl ?_; intro qo7 qc7 w7 O7 G7 ob7 B7; rw [<- hKN.out] at O7; have HD7 := Lib.hid (HD6.name O7 G7 ob7); have BU7 := Lib.hid (BU6.out.trans B7); clear O7 G7 ob7 B7))
      have HD8 : Hid (DsI U.heap.size w7 (dHead e ++ (e.conts.take (j + 1)).map descC) bo3 (bn + 1) bc3 ((e.conts.take (j + 1)).map Cst.name) qo7 (qn + 1) qc7) := by
       show DsI _ _ _ _ _ _ _ _ _ _
       rw [htk.out, List.map_append, List.map_append, <- List.append_assoc]
       exact HD7.out
      clear HD7 HD6 HD5 OB BCs hxb
      go_roundw
      case rel => exact ⟨j + 1, bn + 1, qn + 1, bo3, qo7, bc3, qc7, by omega, by have := hbn.out; omega, by have := hqn.out; omega, by go_num, rfl, rfl, HD8, BU7⟩
      case measure => simp [intOf]; omega
    . have hlt' : ¬ (j : Int) < (s.cn : Int) := by omega
      have hjc : Hid (e.conts.take j = e.conts) := List.take_of_length_le (by have := hcl.out; omega)
      have z_6 : w1.cell? ⟨bb, 6, none⟩ = some (.slice s.so s.sn s.sc) := (A0.out.kept HB1.out).cell 6
      have DSH : Hid (DsI U.heap.size w1 (dHead e ++ e.conts.map descC ++ (e.stys.take 0).map (descT e.precs (cNames e))) bo bn bc (cNames e) qo qn qc) := by
       show DsI _ _ _ _ _ _ _ _ _ _
       rw [List.take_zero, List.map_nil, List.append_nil]
       have := HD1.out
       rw [hjc.out] at this
       exact this
      clear HD1
      go_wp2_with fail
      clear z_6
      go_loopw [3, 56] (fun b i wr => ∃ (k bm : Nat) (bo2 : Option Addr) (bc2 : Nat), k <= s.sn /\ bm = bn + k /\ i = .int .i64 (k : Int) /\ b = .slice bo2 bm bc2 /\ Hid (DsI U.heap.size wr (dHead e ++ e.conts.map descC ++ (e.stys.take k).map (descT e.precs (cNames e))) bo2 bm bc2 (cNames e) qo qn qc) /\ Hid (Below U.heap.size U wr)) (fun _ i _ => s.sn - (intOf i).toNat)
      case atStart => exact ⟨0, bn, bo, bc, Nat.zero_le _, rfl, rfl, rfl, DSH, HB1⟩
      case round =>
       obtain ⟨w2, hw2⟩ : ∃ x, x = wr := ⟨_, rfl⟩
       subst hw2
       clear DSH HB1
       obtain ⟨k, bm, bo2, bc2, hk, hbm, rfl, rfl, HD2, HB2⟩ := hrel
       have hbmb : Hid (bm <= 4000000) := by show _ <= _; have := hcn.out; have := hsn.out; have := hbn.out; omega
       replace hbm := Lib.hid hbm
       by_cases hlk : k < s.sn
       . have hlk' : (k : Int) < (s.sn : Int) := by omega
         obtain ⟨x, a, vo, zo, vn, vc, zn, zc, hx, i1, c0, c1, c2, SX, SZ⟩ := (HE.out _ HB2.out).stys.get k hlk
         have hxm := List.mem_of_getElem? hx
         have htk := take_snoc hx
         obtain ⟨hl1, hl2⟩ := hsty.out x hxm
         rw [IntL.len SX] at hl1
         rw [IntL.len SZ] at hl2
         obtain ⟨KN, hKN⟩ : ∃ K, Hid (stg x.name = K) := ⟨_, rfl⟩
         rw [hKN.out] at c0
         obtain ⟨V1, f1, A2, B2, z1⟩ := new_box w2 60 [.string ⟨#[]⟩, .slice none 0 0, .slice none 0 0]
         obtain ⟨p, hp⟩ : ∃ p, w2.heap.size = p := ⟨_, rfl⟩
         rw [hp] at A2
         obtain ⟨Pw0, Pw1, Pw2, Pe0, Pe1, Pe2, PA, PG, PL, Pq0, Pr0, Pq1, Pr1, Pq2, Pr2⟩ := box_let3 A2 (.string KN) (.slice vo vn vc) (.slice zo zn zc)
         have BW : Below w2.heap.size w2 Pw2 := PL _ _ B2 (by omega)
         have BU8 := HB2.out.trans (BW.mono HB2.out.size)
         have HD4 := HD2.out.below BW
         have hqlt : Hid (∀ k, (Value.slice qo qn qc).ownBlock = some k -> k < Pw2.heap.size) := fun k hk => (World.ownsRow.lt HD4.nms k hk).2
         have hPS := (HE.out _ BU8).precs
         have hNS := HD4.names
         have HP1 : Hid (∀ W, Below Pw2.heap.size Pw2 W -> Calls Tryz.prog 94 #[.slice s.po s.pn s.pc, .slice vo vn vc] W fun r w' => ∃ ro m d, r = .returned (.slice ro m d) /\ StrL (ownF W.heap.size [9]) w' ro m d (pickL e.precs x.precs) /\ Below W.heap.size W w') := fun W hb => pick_c e.precs x.precs _ vo _ _ vn vc W (StrL.below hPS hb) (Row.keep (Row.keep SX stable_any (keeps_below _ BW)) stable_any (keeps_below _ hb)) hl1
         have HP2 : Hid (∀ W, Below Pw2.heap.size Pw2 W -> Calls Tryz.prog 94 #[.slice qo qn qc, .slice zo zn zc] W fun r w' => ∃ ro m d, r = .returned (.slice ro m d) /\ StrL (ownF W.heap.size [9]) w' ro m d (pickL (cNames e) x.conts) /\ Below W.heap.size W w') := fun W hb => pick_c (cNames e) x.conts qo zo qn qc zn zc W (StrL.below hNS hb) (Row.keep (Row.keep SZ stable_any (keeps_below _ BW)) stable_any (keeps_below _ hb)) hl2
         have HD4 : Hid (DsI U.heap.size Pw2.drew _ bo2 bm bc2 (cNames e) qo qn qc) := HD4.below (Below.refl _ _).drew
         have PAH := Lib.hid PA
         have E0 : Below U.heap.size U Pw2.drew := BU8.drew
         have s_b : Pw2.drew.cell? ⟨bb, 4, none⟩ = some (.slice s.po s.pn s.pc) := (A0.out.kept BU8).cell 4
         have s_0 : Pw2.drew.cell? ⟨p, 0, none⟩ = some (.string KN) := PA.cell 0
         have s_1 : Pw2.drew.cell? ⟨p, 1, none⟩ = some (.slice vo vn vc) := PA.cell 1
         have s_2 : Pw2.drew.cell? ⟨p, 2, none⟩ = some (.slice zo zn zc) := PA.cell 2
         have htk := Lib.hid htk
         clear PA PG PL B2 z1 BW A2 HB2 HD2 SX SZ hx hPS hNS hl1 hl2 hxm BU8
         go_wp2_with fail
         clear Pe0 Pq0 Pr0 Pe1 Pq1 Pr1 Pe2 Pq2 Pr2 f1 c0 c1 c2 i1
         go_region_held3 (fun w' => w'.cell? ⟨bb, 4, none⟩ = some (.slice s.po s.pn s.pc) /\ w'.cell? ⟨p, 0, none⟩ = some (.string KN) /\ w'.cell? ⟨p, 1, none⟩ = some (.slice vo vn vc) /\ w'.cell? ⟨p, 2, none⟩ = some (.slice zo zn zc)) (go_keep) (first
           | (go_at_call 94; (with_reducible refine (HP1.out Pw2.drew (Below.refl _ _).drew).mono ?_); rintro r u1 ⟨a1, n1, c1, rfl, S1, B1⟩; have g1_b := cell_keep (w := Pw2.drew) s_b B1; have g1_0 := cell_keep (w := Pw2.drew) s_0 B1; have g1_1 := cell_keep (w := Pw2.drew) s_1 B1; have g1_2 := cell_keep (w := Pw2.drew) s_2 B1;have E1 : Below U.heap.size U u1 := E0.trans (B1.mono E0.size);have I1 := HD4.out.below B1; have T1 := own_lower S1 (show Pw2.heap.size <= Pw2.drew.heap.size from Nat.le_refl _); have L1 : Pw2.heap.size <= u1.heap.size := B1.size; have M1 : Below Pw2.heap.size Pw2 u1 := ((Below.refl _ _).drew).trans (B1.mono (Nat.le_refl _)))
           | (go_at_call 91; (with_reducible refine (HFd.out u1 _ _ _ _).mono ?_); rintro r u2 ⟨rfl, B2⟩; have g2_b := cell_keep g1_b B2; have g2_0 := cell_keep g1_0 B2; have g2_1 := cell_keep g1_1 B2; have g2_2 := cell_keep g1_2 B2;have E2 : Below U.heap.size U u2 := E1.trans (B2.mono E1.size);have I2 := I1.below B2; have T2 := keep_own T1 B2; have L2 := Nat.le_trans L1 B2.size; have M2 := M1.trans (B2.mono L1))
           | (go_at_call 94; (with_reducible refine (HP2.out u2 M2).mono ?_); rintro r u3 ⟨a3, n3, c3, rfl, S3, B3⟩; have g3_b := cell_keep g2_b B3; have g3_0 := cell_keep g2_0 B3; have g3_1 := cell_keep g2_1 B3; have g3_2 := cell_keep g2_2 B3;have E3 : Below U.heap.size U u3 := E2.trans (B3.mono E2.size);have I3 := I2.below B3; have T3a := keep_own T2 B3; have T3b := own_lower S3 L2; have L3 := Nat.le_trans L2 B3.size; have M3 := M2.trans (B3.mono L2))
           | (go_at_call 91; (with_reducible refine (HFd.out u3 _ _ _ _).mono ?_); rintro r u4 ⟨rfl, B4⟩; have g4_b := cell_keep g3_b B4; have g4_0 := cell_keep g3_0 B4; have g4_1 := cell_keep g3_1 B4; have g4_2 := cell_keep g3_2 B4;have E4 : Below U.heap.size U u4 := E3.trans (B4.mono E3.size);have I4 := I3.below B4; have T4a := keep_own T3a B4; have T4b := keep_own T3b B4; have L4 := Nat.le_trans L3 B4.size; obtain ⟨X4, e4, F4, BX4⟩ := frow_new (m := 2) u4 Pw2.heap.size [⟨kPrecincts, pickL e.precs x.precs, 0⟩, ⟨wContests, pickL (cNames e) x.conts, 0⟩] _ (fc_lit (K := ⟨#[112, 114, 101, 99, 105, 110, 99, 116, 115]⟩) rfl T4a (fc_lit (K := ⟨#[99, 111, 110, 116, 101, 115, 116, 115]⟩) rfl T4b fc_nil)) L4 rfl (by decide); have h4_b := cell_keep g4_b BX4; have h4_0 := cell_keep g4_0 BX4; have h4_1 := cell_keep g4_1 BX4; have h4_2 := cell_keep g4_2 BX4;have E4x : Below U.heap.size U X4 := E4.trans (BX4.mono E4.size);have I4x := I4.below BX4)
           | (go_at_call 89; (with_reducible refine (HBk.out X4 _ _ _ _ _).mono ?_); rintro r u5 ⟨rfl, B5⟩; have g5_b := cell_keep h4_b B5; have g5_0 := cell_keep h4_0 B5; have g5_1 := cell_keep h4_1 B5; have g5_2 := cell_keep h4_2 B5;have E5 : Below U.heap.size U u5 := E4x.trans (B5.mono E4x.size);have I5 := I4x.below B5; have F5 := F4.below B5; obtain ⟨us, OB, BCs⟩ := I5.blk; have hxb : BC (ownX U.heap.size (Value.slice qo qn qc).ownBlock) u5 [descT e.precs (cNames e) x] [.string ⟨#[115, 116, 121, 108, 101]⟩, .string KN, .slice (some ⟨u4.heap.size, 0, none⟩) 2 2, .int .i64 0] := bc_lit rfl hKN.out (F5.ownx E0.size hqlt.out) bc_nil; obtain ⟨X5, e5, _, BX5, _⟩ := new_box u5 55 [.string ⟨#[115, 116, 121, 108, 101]⟩, .string KN, .slice (some ⟨u4.heap.size, 0, none⟩) 2 2, .int .i64 0]; have h5_b := cell_keep g5_b BX5; have h5_0 := cell_keep g5_0 BX5; have h5_1 := cell_keep g5_1 BX5; have h5_2 := cell_keep g5_2 BX5;have hU5 := E5.size)
           | (refine step_appM (m := 1) (vs := [.string ⟨#[115, 116, 121, 108, 101]⟩, .string KN, .slice (some ⟨u4.heap.size, 0, none⟩) 2 2, .int .i64 0]) Tryz.underlying22 infoB rfl (by decide) (by decide) (by decide) (by decide) _ _ rfl rfl e5 OB hU5 hbmb.out rfl (by intro u hu; simp at hu; rcases hu with rfl | rfl | rfl | rfl <;> rfl) rfl rfl ?_; intro bo6 bc6 u6 O6 G6 B6; have I6 := I5.block (m := 1) OB BCs hxb O6 G6; have E6 := E5.trans B6; have A06 := (A0.out.kept E5).row OB (by decide) G6; have PA6 := (PAH.out.kept (M3.trans ((B4.mono (Nat.le_trans L1 (Nat.le_trans B2.size B3.size))).trans ((BX4.mono L4).trans (B5.mono (Nat.le_trans L4 BX4.size)))))).row OB (by decide) G6; have g6_b : u6.cell? ⟨bb, 4, none⟩ = some (.slice s.po s.pn s.pc) := A06.cell 4; have g6_0 : u6.cell? ⟨p, 0, none⟩ = some (.string KN) := PA6.cell 0; have g6_1 : u6.cell? ⟨p, 1, none⟩ = some (.slice vo vn vc) := PA6.cell 1; have g6_2 : u6.cell? ⟨p, 2, none⟩ = some (.slice zo zn zc) := PA6.cell 2))
         all_goals
           have HD8 : Hid (DsI U.heap.size u6 (dHead e ++ e.conts.map descC ++ (e.stys.take (k + 1)).map (descT e.precs (cNames e))) bo6 (bm + 1) bc6 (cNames e) qo qn qc) := by
            show DsI _ _ _ _ _ _ _ _ _ _
            rw [htk.out, List.map_append, <- List.append_assoc]
            exact I6
           have E6H := Lib.hid E6
           clear I6 I5 I4x I4 I3 I2 I1 E6 E5 E4x E4 E3 E2 E1 O6 G6 B6 A06 PA6 OB BCs hxb F5 F4 T4a T4b T3a T3b T2 T1
           go_wp2_with fail
           go_roundw
           case rel => exact ⟨k + 1, bm + 1, bo6, bc6, by omega, by have := hbm.out; omega, by go_num, rfl, HD8, E6H⟩
           case measure => simp [intOf]; omega
       . have hlk' : ¬ (k : Int) < (s.sn : Int) := by omega
         have hkc : Hid (e.stys.take k = e.stys) := List.take_of_length_le (by have := hsl.out; omega)
         have HD3 : Hid (DsI U.heap.size w2.drew (dHead e ++ e.conts.map descC ++ e.stys.map (descT e.precs (cNames e))) bo2 bm bc2 (cNames e) qo qn qc) := by
          have := HD2.out.below (Below.refl _ _).drew
          rw [hkc.out] at this
          exact this
         have hq3 : ∀ k, (Value.slice qo qn qc).ownBlock = some k -> k < w2.drew.heap.size := fun k hk => (World.ownsRow.lt HD2.out.nms k hk).2
         clear HD2
         have E0 : Below U.heap.size U w2.drew := HB2.out.drew
         have s_9 : w2.drew.cell? ⟨bb, 9, none⟩ = some (.bool e.rneg) := (A0.out.kept HB2.out).cell 9
         have s_10 : w2.drew.cell? ⟨bb, 10, none⟩ = some (.slice s.uo s.un s.uc) := (A0.out.kept HB2.out).cell 10
         have s_11 : w2.drew.cell? ⟨bb, 11, none⟩ = some (.slice s.dO s.dn s.dc) := (A0.out.kept HB2.out).cell 11
         have s_12 : w2.drew.cell? ⟨bb, 12, none⟩ = some (.int .i64 e.cell) := (A0.out.kept HB2.out).cell 12
         have s_13 : w2.drew.cell? ⟨bb, 13, none⟩ = some (.string KS) := (A0.out.kept HB2.out).cell 13
         obtain ⟨S0, eS0, TS0, BS0⟩ := one_str w2.drew e.seed
         rw [hKS.out] at eS0
         replace TS0 : StrL (ownF w2.drew.heap.size [9]) S0 (some ⟨w2.heap.size, 0, none⟩) 1 1 [e.seed] := TS0
         have fS0_9 := cell_keep (w := w2.drew) s_9 BS0
         have fS0_10 := cell_keep (w := w2.drew) s_10 BS0
         have fS0_11 := cell_keep (w := w2.drew) s_11 BS0
         have fS0_12 := cell_keep (w := w2.drew) s_12 BS0
         have fS0_13 := cell_keep (w := w2.drew) s_13 BS0
         have M0 : Below w2.drew.heap.size w2.drew w2.drew := Below.refl _ _
         have ES0 : Below w2.drew.heap.size w2.drew S0 := BS0
         clear HB2
         go_wp2_with fail
         go_region_held3 (fun w' => w'.cell? ⟨bb, 9, none⟩ = some (.bool e.rneg) /\ w'.cell? ⟨bb, 10, none⟩ = some (.slice s.uo s.un s.uc) /\ w'.cell? ⟨bb, 11, none⟩ = some (.slice s.dO s.dn s.dc) /\ w'.cell? ⟨bb, 12, none⟩ = some (.int .i64 e.cell) /\ w'.cell? ⟨bb, 13, none⟩ = some (.string KS)) (go_keep) (first
           | (go_at_call 95; (with_reducible refine (HTx.out w2.drew E0).mono ?_); rintro r t1 ⟨rfl, B1⟩; have ft_9 := cell_keep (w := w2.drew) s_9 B1; have ft_10 := cell_keep (w := w2.drew) s_10 B1; have ft_11 := cell_keep (w := w2.drew) s_11 B1; have ft_12 := cell_keep (w := w2.drew) s_12 B1; have ft_13 := cell_keep (w := w2.drew) s_13 B1;have Et : Below w2.drew.heap.size w2.drew t1 := M0.trans (B1.mono M0.size); obtain ⟨Ra, eRa, TRa, BRa⟩ := one_str t1 RK; rw [hKR.out] at eRa; have fRa_9 := cell_keep ft_9 BRa; have fRa_10 := cell_keep ft_10 BRa; have fRa_11 := cell_keep ft_11 BRa; have fRa_12 := cell_keep ft_12 BRa; have fRa_13 := cell_keep ft_13 BRa;obtain ⟨Sb, eSb, TSb, BSb⟩ := one_str t1 e.seed; rw [hKS.out] at eSb; have fSb_9 := cell_keep ft_9 BSb; have fSb_10 := cell_keep ft_10 BSb; have fSb_11 := cell_keep ft_11 BSb; have fSb_12 := cell_keep ft_12 BSb; have fSb_13 := cell_keep ft_13 BSb;obtain ⟨Rs, eRs, TRs, BRs⟩ := one_str Ra e.seed; rw [hKS.out] at eRs; have fRs_9 := cell_keep fRa_9 BRs; have fRs_10 := cell_keep fRa_10 BRs; have fRs_11 := cell_keep fRa_11 BRs; have fRs_12 := cell_keep fRa_12 BRs; have fRs_13 := cell_keep fRa_13 BRs;obtain ⟨Sr, eSr, TSr, BSr⟩ := one_str Sb RK; rw [hKR.out] at eSr; have fSr_9 := cell_keep fSb_9 BSr; have fSr_10 := cell_keep fSb_10 BSr; have fSr_11 := cell_keep fSb_11 BSr; have fSr_12 := cell_keep fSb_12 BSr; have fSr_13 := cell_keep fSb_13 BSr;have ERa : Below w2.drew.heap.size w2.drew Ra := Et.trans (BRa.mono Et.size); have ESb : Below w2.drew.heap.size w2.drew Sb := Et.trans (BSb.mono Et.size); have ERs : Below w2.drew.heap.size w2.drew Rs := ERa.trans (BRs.mono ERa.size); have ESr : Below w2.drew.heap.size w2.drew Sr := ESb.trans (BSr.mono ESb.size); have DI1 := HD3.out.below B1)
           | (go_at_call 95; (with_reducible refine (HTx.out S0 (E0.trans (ES0.mono E0.size))).mono ?_); rintro r t1 ⟨rfl, B1⟩; have ft_9 := cell_keep fS0_9 B1; have ft_10 := cell_keep fS0_10 B1; have ft_11 := cell_keep fS0_11 B1; have ft_12 := cell_keep fS0_12 B1; have ft_13 := cell_keep fS0_13 B1;have Et : Below w2.drew.heap.size w2.drew t1 := ES0.trans (B1.mono ES0.size); obtain ⟨Rb, eRb, TRb, BRb⟩ := one_str t1 RK; rw [hKR.out] at eRb; have fRb_9 := cell_keep ft_9 BRb; have fRb_10 := cell_keep ft_10 BRb; have fRb_11 := cell_keep ft_11 BRb; have fRb_12 := cell_keep ft_12 BRb; have fRb_13 := cell_keep ft_13 BRb;have ERb : Below w2.drew.heap.size w2.drew Rb := Et.trans (BRb.mono Et.size); have DI1 := (HD3.out.below BS0).below B1; have TS1 := keep_own (keep_own (own_lower TS0 M0.size) B1) BRb)
           | (go_at_call 91; (with_reducible refine (HFd.out Ra _ _ _ _).mono ?_); rintro r t2 ⟨rfl, B2⟩; have fu_9 := cell_keep fRa_9 B2; have fu_10 := cell_keep fRa_10 B2; have fu_11 := cell_keep fRa_11 B2; have fu_12 := cell_keep fRa_12 B2; have fu_13 := cell_keep fRa_13 B2;have Eu : Below w2.drew.heap.size w2.drew t2 := ERa.trans (B2.mono ERa.size); obtain ⟨Sc, eSc, TSc, BSc⟩ := one_str t2 e.seed; rw [hKS.out] at eSc; have fSc_9 := cell_keep fu_9 BSc; have fSc_10 := cell_keep fu_10 BSc; have fSc_11 := cell_keep fu_11 BSc; have fSc_12 := cell_keep fu_12 BSc; have fSc_13 := cell_keep fu_13 BSc;have ESc : Below w2.drew.heap.size w2.drew Sc := Eu.trans (BSc.mono Eu.size); have DI2 := ((DI1.below BRa).below B2).below BSc; have PRk := keep_own (keep_own (own_lower TRa Et.size) B2) BSc; have PSd := own_lower TSc Eu.size; have sa := True.intro)
           | (go_at_call 91; (with_reducible refine (HFd.out Rs _ _ _ _).mono ?_); rintro r t2 ⟨rfl, B2⟩; have fu_9 := cell_keep fRs_9 B2; have fu_10 := cell_keep fRs_10 B2; have fu_11 := cell_keep fRs_11 B2; have fu_12 := cell_keep fRs_12 B2; have fu_13 := cell_keep fRs_13 B2;have Eu : Below w2.drew.heap.size w2.drew t2 := ERs.trans (B2.mono ERs.size); have DI2 := ((DI1.below BRa).below BRs).below B2; have PRk := keep_own (keep_own (own_lower TRa Et.size) BRs) B2; have PSd := keep_own (own_lower TRs ERa.size) B2)
           | (go_at_call 91; (with_reducible refine (HFd.out Sr _ _ _ _).mono ?_); rintro r t2 ⟨rfl, B2⟩; have fu_9 := cell_keep fSr_9 B2; have fu_10 := cell_keep fSr_10 B2; have fu_11 := cell_keep fSr_11 B2; have fu_12 := cell_keep fSr_12 B2; have fu_13 := cell_keep fSr_13 B2;have Eu : Below w2.drew.heap.size w2.drew t2 := ESr.trans (B2.mono ESr.size); have DI2 := ((DI1.below BSb).below BSr).below B2; have PRk := keep_own (own_lower TSr ESb.size) B2; have PSd := keep_own (keep_own (own_lower TSb Et.size) BSr) B2)
           | (go_at_call 91; (with_reducible refine (HFd.out Rb _ _ _ _).mono ?_); rintro r t2 ⟨rfl, B2⟩; have fu_9 := cell_keep fRb_9 B2; have fu_10 := cell_keep fRb_10 B2; have fu_11 := cell_keep fRb_11 B2; have fu_12 := cell_keep fRb_12 B2; have fu_13 := cell_keep fRb_13 B2;have Eu : Below w2.drew.heap.size w2.drew t2 := ERb.trans (B2.mono ERb.size); have DI2 := (DI1.below BRb).below B2; have PRk := keep_own (own_lower TRb Et.size) B2; have PSd := keep_own TS1 B2)
           | (go_at_call 91; (with_reducible refine (HFd.out Sc _ _ _ _).mono ?_); rintro r t3 ⟨rfl, B3⟩; have fv_9 := cell_keep fSc_9 B3; have fv_10 := cell_keep fSc_10 B3; have fv_11 := cell_keep fSc_11 B3; have fv_12 := cell_keep fSc_12 B3; have fv_13 := cell_keep fSc_13 B3;have Ev : Below w2.drew.heap.size w2.drew t3 := ESc.trans (B3.mono ESc.size); have DI3 := DI2.below B3; have PRk3 := keep_own PRk B3; have PSd3 := keep_own PSd B3; obtain ⟨X3, e3, F3, BX3⟩ := frow_new (m := 2) t3 w2.drew.heap.size [Lx.fV wRisk RK, Lx.fV wSeed e.seed] _ (fc_lit (K := ⟨#[114, 105, 115, 107]⟩) rfl PRk3 (fc_lit (K := ⟨#[115, 101, 101, 100]⟩) rfl PSd3 fc_nil)) Ev.size rfl (by decide); have fX_9 := cell_keep fv_9 BX3; have fX_10 := cell_keep fv_10 BX3; have fX_11 := cell_keep fv_11 BX3; have fX_12 := cell_keep fv_12 BX3; have fX_13 := cell_keep fv_13 BX3;have EX : Below w2.drew.heap.size w2.drew X3 := Ev.trans (BX3.mono Ev.size); have DI3x := DI3.below BX3)
           | (go_at_call 91; (with_reducible refine (HFd.out t2 _ _ _ _).mono ?_); rintro r t3 ⟨rfl, B3⟩; have fv_9 := cell_keep fu_9 B3; have fv_10 := cell_keep fu_10 B3; have fv_11 := cell_keep fu_11 B3; have fv_12 := cell_keep fu_12 B3; have fv_13 := cell_keep fu_13 B3;have Ev : Below w2.drew.heap.size w2.drew t3 := Eu.trans (B3.mono Eu.size); have DI3 := DI2.below B3; have PRk3 := keep_own PRk B3; have PSd3 := keep_own PSd B3; obtain ⟨X3, e3, F3, BX3⟩ := frow_new (m := 2) t3 w2.drew.heap.size [Lx.fV wRisk RK, Lx.fV wSeed e.seed] _ (fc_lit (K := ⟨#[114, 105, 115, 107]⟩) rfl PRk3 (fc_lit (K := ⟨#[115, 101, 101, 100]⟩) rfl PSd3 fc_nil)) Ev.size rfl (by decide); have fX_9 := cell_keep fv_9 BX3; have fX_10 := cell_keep fv_10 BX3; have fX_11 := cell_keep fv_11 BX3; have fX_12 := cell_keep fv_12 BX3; have fX_13 := cell_keep fv_13 BX3;have EX : Below w2.drew.heap.size w2.drew X3 := Ev.trans (BX3.mono Ev.size); have DI3x := DI3.below BX3)
           | (go_at_call 89; (with_reducible refine (HBk.out X3 _ _ _ _ _).mono ?_); rintro r t4 ⟨rfl, B4⟩; have fw_9 := cell_keep fX_9 B4; have fw_10 := cell_keep fX_10 B4; have fw_11 := cell_keep fX_11 B4; have fw_12 := cell_keep fX_12 B4; have fw_13 := cell_keep fX_13 B4;have Ew : Below w2.drew.heap.size w2.drew t4 := EX.trans (B4.mono EX.size); have DI4 := DI3x.below B4; have F4 := F3.below B4)
           | (go_at_call 90; (with_reducible refine (HCe.out t4 (E0.trans (Ew.mono E0.size))).mono ?_); rintro r t5 ⟨a5, n5, c5, rfl, S5, B5⟩; have fy_9 := cell_keep fw_9 B5; have fy_10 := cell_keep fw_10 B5; have fy_11 := cell_keep fw_11 B5; have fy_12 := cell_keep fw_12 B5; have fy_13 := cell_keep fw_13 B5;have Ey : Below w2.drew.heap.size w2.drew t5 := Ew.trans (B5.mono Ew.size); have DI5 := DI4.below B5; have F5 := F4.below B5; have T5 := own_lower S5 Ew.size; obtain ⟨X5, e5, G5, BX5⟩ := frow_new (m := 1) t5 w2.drew.heap.size [fN wCell e.cell] _ (fc_lit (K := ⟨#[99, 101, 108, 108]⟩) rfl T5 fc_nil) Ey.size rfl (by decide); have fY_9 := cell_keep fy_9 BX5; have fY_10 := cell_keep fy_10 BX5; have fY_11 := cell_keep fy_11 BX5; have fY_12 := cell_keep fy_12 BX5; have fY_13 := cell_keep fy_13 BX5;have EY : Below w2.drew.heap.size w2.drew X5 := Ey.trans (BX5.mono Ey.size); have DI5x := DI5.below BX5; have F5x := F5.below BX5)
           | (go_at_call 89; (with_reducible refine (HBk.out X5 _ _ _ _ _).mono ?_); rintro r t6 ⟨rfl, B6⟩; have fz_9 := cell_keep fY_9 B6; have fz_10 := cell_keep fY_10 B6; have fz_11 := cell_keep fY_11 B6; have fz_12 := cell_keep fY_12 B6; have fz_13 := cell_keep fY_13 B6;have Ez : Below w2.drew.heap.size w2.drew t6 := EY.trans (B6.mono EY.size); have DI6 := DI5x.below B6; have F6 := F5x.below B6; have G6 := G5.below B6; obtain ⟨us, OB, BCs⟩ := DI6.blk; obtain ⟨X6, e6, _, BX6, _⟩ := new_box t6 55 [.string ⟨#[97, 117, 100, 105, 116]⟩, .string ⟨#[]⟩, .slice (some ⟨t3.heap.size, 0, none⟩) 2 2, .int .i64 0, .string ⟨#[112, 114, 105, 118, 97, 99, 121]⟩, .string ⟨#[]⟩, .slice (some ⟨t5.heap.size, 0, none⟩) 1 1, .int .i64 0]; have fZ_9 := cell_keep fz_9 BX6; have fZ_10 := cell_keep fz_10 BX6; have fZ_11 := cell_keep fz_11 BX6; have fZ_12 := cell_keep fz_12 BX6; have fZ_13 := cell_keep fz_13 BX6;have EzU := E0.trans (Ez.mono E0.size); have hU6 := EzU.size)
           | (refine step_appM (m := 2) (vs := [.string ⟨#[97, 117, 100, 105, 116]⟩, .string ⟨#[]⟩, .slice (some ⟨t3.heap.size, 0, none⟩) 2 2, .int .i64 0, .string ⟨#[112, 114, 105, 118, 97, 99, 121]⟩, .string ⟨#[]⟩, .slice (some ⟨t5.heap.size, 0, none⟩) 1 1, .int .i64 0]) Tryz.underlying22 infoB rfl (by decide) (by decide) (by decide) (by decide) _ _ rfl rfl e6 OB hU6 hbmb.out rfl (by intro u hu; simp at hu; rcases hu with h | h | h | h | h | h | h | h <;> (subst h; rfl)) rfl rfl ?_; intro bo7 bc7 t7 O7 G7 B7; have E7 := EzU.trans B7; have A07 := (A0.out.kept EzU).row OB (by decide) G7; have A17 := (A1.out.kept EzU).row OB (by decide) G7; have g7_9 : t7.cell? ⟨bb, 9, none⟩ = some (.bool e.rneg) := A07.cell 9; have g7_10 : t7.cell? ⟨bb, 10, none⟩ = some (.slice s.uo s.un s.uc) := A07.cell 10; have g7_11 : t7.cell? ⟨bb, 11, none⟩ = some (.slice s.dO s.dn s.dc) := A07.cell 11; have g7_12 : t7.cell? ⟨bb, 12, none⟩ = some (.int .i64 e.cell) := A07.cell 12; have g7_13 : t7.cell? ⟨bb, 13, none⟩ = some (.string KS) := A07.cell 13)
           | fail)
         all_goals
           have F6s : FldS (ownX U.heap.size (Value.slice qo qn qc).ownBlock) t6 _ _ _ _ := FRow.ownx F6 E0.size hq3
           have G6s : FldS (ownX U.heap.size (Value.slice qo qn qc).ownBlock) t6 _ _ _ _ := FRow.ownx G6 E0.size hq3
           have hxb1 := bc_lit (k := kPrivacy) (nm := []) (K := ⟨#[112, 114, 105, 118, 97, 99, 121]⟩) (M := ⟨#[]⟩) rfl rfl G6s bc_nil
           have hxb := bc_lit (k := kAudit) (nm := []) (K := ⟨#[97, 117, 100, 105, 116]⟩) (M := ⟨#[]⟩) rfl rfl F6s hxb1
           have DI7 := DI6.block (m := 2) OB BCs hxb O7 G7
           have DIH := Lib.hid DI7
           have E7H := Lib.hid E7
           have A17H := Lib.hid A17
           have g7_0 : t7.cell? ⟨bb, 0, none⟩ = some (.string KT) := A07.cell 0
           obtain ⟨Z, m5, hm5, AZ, q0, q1, q2, q3⟩ := put_box2 A17 (.string KT) (.slice bo7 (bm + 2) bc7)
           have r0 : Z.cell? ⟨bb + 1, 0, none⟩ = some (.string KT) := AZ.cell 0
           have r1 : Z.cell? ⟨bb + 1, 1, none⟩ = some (.slice bo7 (bm + 2) bc7) := AZ.cell 1
           have hfin := src_fin A17 hm5 DI7 E7 HB.out hle.out
           clear DI7 E7 A17 A07 AZ O7 G7 B7 DI6 DI5x DI5 DI4 DI3x DI3 DI2 DI1
           go_wp2_with fail
           refine bodyPost_ret (v := .agg #[.string KT, .slice bo7 (bm + 2) bc7]) (by simp [results, Tryz.results45, go_sem, r0, r1]) rfl ?_
           exact ⟨bo7, bm + 2, bc7, rfl, by first | exact hfin.out.1 | (rw [<- hbb]; exact hfin.out.1), by first | exact hfin.out.2 | (rw [<- hbb]; exact hfin.out.2)⟩
end Go.Proofs.YtemdkkphmldgjaaGreatDoor
