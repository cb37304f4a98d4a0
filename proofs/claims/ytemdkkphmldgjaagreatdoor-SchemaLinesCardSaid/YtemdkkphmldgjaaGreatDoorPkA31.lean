/-
  Texts of the proof, put together: SchSrc.
-/
import Derived.Test.YtemdkkphmldgjaaGreatDoorPkA24
import Derived.Test.YtemdkkphmldgjaaGreatDoorPkA29
import Derived.Test.YtemdkkphmldgjaaGreatDoorPkA30
set_option maxRecDepth 100000
set_option maxHeartbeats 51200000
namespace Go.Proofs.YtemdkkphmldgjaaGreatDoor
open Go.RowKit Lx
namespace Lx
def srcB (e : Elc) : Bool := decide (e.rnum.length = 1) && (decide (e.rden.length = 1) && (Q.validR e.rneg e.rnum e.rden && (decide ((compS (descS e (riskT e))).1.1 = 0) && eqE (compS (descS e (riskT e))).2 e)))
end Lx
structure SrcOk (e : Elc) (s : ESl) : Prop where
 nums : I64 e.dots /\ I64 e.blank /\ I64 e.marked /\ I64 e.scanners /\ I64 e.batch /\ I64 e.cell
 precs : e.precs.length <= 4000000
 sm : DsSm e
 cst : ∀ x ∈ e.conts, x.cands.length <= 4000000 /\ I64 x.seats /\ I64 x.ranks /\ I64 x.digits
 sty : ∀ x ∈ e.stys, x.precs.length <= 4000000 /\ x.conts.length <= 4000000
 rat : RatIn e s
theorem SrcOk.ds {e : Elc} {s : ESl} (h : SrcOk e s) (h1 : s.un <= 4) (h2 : s.dn <= 4) : DsOk e s := ⟨h.nums, h.precs, by have := h.sm.rows; omega, by have := h.sm.rows; omega, h.cst, h.sty, h.rat, h1, h2⟩
theorem src_yes {W Z : World} {B b : Nat} {u0 u1 : Value} {bs : List SBlc} {bo : Option Addr} {bn bc : Nat} (hZ : Hid (Z = put2 W b u0 u1)) (h : BlkS (geF B) W bo bn bc bs) (hb : b < B) : Hid (BlkS anyF Z bo bn bc bs) := by
 have hg : W.grownBy Z (some b) := by
  rw [hZ.out]
  exact grown_trans (set_grown W b 0 u0) (set_grown _ b 1 u1)
 have := h.keep (stable_ge B) (keeps_grown hg (fun k (hs : B <= k) e => by injection e with e; omega))
 exact this.mono fun _ _ => trivial
theorem src_no {w U W Z : World} {b : Nat} {v0 v1 u0 u1 : Value} (hZ : Hid (Z = put2 W b u0 u1)) (E : Below U.heap.size U W) (HB : Below w.heap.size w U) (hle : w.heap.size <= b) (_ : Arr W b 24 [v0, v1]) : Hid (Below w.heap.size w Z) := by
 have hb := HB.trans (E.mono HB.size)
 show Below _ _ _
 rw [hZ.out]
 exact (hb.setCell (p := ⟨_, 0, none⟩) hle _).setCell (p := ⟨_, 1, none⟩) hle _
theorem source_noa (e : Elc) (s : ESl) (w : World) (h : ElcS anyF w e s) (hok : SrcOk e s) (hT : Tabs w) (h1 : ¬ e.rnum.length = 1) : Calls Tryz.prog 18 #[eV e s] w fun r w' => r = .returned (.tuple #[.agg #[.string ⟨#[]⟩, .slice none 0 0], .bool false]) /\ Below w.heap.size w w' := by
 show Calls Tryz.prog 18 #[.agg #[.string (stg e.title), .int .i64 e.dots, .int .i64 e.blank, .int .i64 e.marked, .slice s.po s.pn s.pc, .slice s.co s.cn s.cc, .slice s.so s.sn s.sc, .int .i64 e.scanners, .int .i64 e.batch, .bool e.rneg, .slice s.uo s.un s.uc, .slice s.dO s.dn s.dc, .int .i64 e.cell, .string (stg e.seed)]] w _
 obtain ⟨V, e1, AV, BV, hz⟩ := new_box w 34 [.string (stg e.title), .int .i64 e.dots, .int .i64 e.blank, .int .i64 e.marked, .slice s.po s.pn s.pc, .slice s.co s.cn s.cc, .slice s.so s.sn s.sc, .int .i64 e.scanners, .int .i64 e.batch, .bool e.rneg, .slice s.uo s.un s.uc, .slice s.dO s.dn s.dc, .int .i64 e.cell, .string (stg e.seed)]
 obtain ⟨U, e2, AU, BU, hz2⟩ := new_box V 24 [.string ⟨#[]⟩, .slice none 0 0]
 obtain ⟨KT, hKT⟩ : ∃ K, Hid (stg e.title = K) := ⟨_, rfl⟩
 obtain ⟨KS, hKS⟩ : ∃ K, Hid (stg e.seed = K) := ⟨_, rfl⟩
 rw [hKT.out, hKS.out] at e1 AV
 rw [hKT.out, hKS.out]
 have HT := Lib.hid ((hT.below BV).below BU)
 have HE : Hid (∀ W, Below U.heap.size U W -> ElcS anyF W e s) := fun W hb => ((h.below BV).below BU).below hb
 obtain ⟨bb, hbb⟩ : ∃ b, w.heap.size = b := ⟨_, rfl⟩
 rw [hbb] at AV hz
 rw [hz] at AU
 have A0 := Lib.hid (AV.kept BU)
 have A1 := Lib.hid AU
 have HB : Hid (Below w.heap.size w U) := BV.trans (BU.mono BV.size)
 have hle : Hid (w.heap.size <= bb + 1) := by show _ <= _; omega
 have hbs : Hid (bb + 1 < U.heap.size) := by show _ < _; omega
 have hun := IntL.len h.num
 have hdn := IntL.len h.den
 have HV : Hid (∀ W, Below U.heap.size U W -> Calls Tryz.prog 44 #[.agg #[.bool e.rneg, .slice s.uo s.un s.uc, .slice s.dO s.dn s.dc]] W fun r w' => r = .returned (.bool (Q.validR e.rneg e.rnum e.rden)) /\ Below W.heap.size W w') := fun W hb => Q.valid_c e.rneg _ _ _ _ _ _ e.rnum e.rden W (q_lst (HE.out W hb).num hok.rat.num) (q_lst (HE.out W hb).den hok.rat.den) (by have := hok.rat.n; omega) (by have := hok.rat.d; omega)
 have y_0 : U.cell? ⟨bb, 0, none⟩ = some (.string KT) := A0.out.cell 0
 have y_1 : U.cell? ⟨bb, 1, none⟩ = some (.int .i64 e.dots) := A0.out.cell 1
 have y_2 : U.cell? ⟨bb, 2, none⟩ = some (.int .i64 e.blank) := A0.out.cell 2
 have y_3 : U.cell? ⟨bb, 3, none⟩ = some (.int .i64 e.marked) := A0.out.cell 3
 have y_4 : U.cell? ⟨bb, 4, none⟩ = some (.slice s.po s.pn s.pc) := A0.out.cell 4
 have y_5 : U.cell? ⟨bb, 5, none⟩ = some (.slice s.co s.cn s.cc) := A0.out.cell 5
 have y_6 : U.cell? ⟨bb, 6, none⟩ = some (.slice s.so s.sn s.sc) := A0.out.cell 6
 have y_7 : U.cell? ⟨bb, 7, none⟩ = some (.int .i64 e.scanners) := A0.out.cell 7
 have y_8 : U.cell? ⟨bb, 8, none⟩ = some (.int .i64 e.batch) := A0.out.cell 8
 have y_9 : U.cell? ⟨bb, 9, none⟩ = some (.bool e.rneg) := A0.out.cell 9
 have y_10 : U.cell? ⟨bb, 10, none⟩ = some (.slice s.uo s.un s.uc) := A0.out.cell 10
 have y_11 : U.cell? ⟨bb, 11, none⟩ = some (.slice s.dO s.dn s.dc) := A0.out.cell 11
 have y_12 : U.cell? ⟨bb, 12, none⟩ = some (.int .i64 e.cell) := A0.out.cell 12
 have y_13 : U.cell? ⟨bb, 13, none⟩ = some (.string KS) := A0.out.cell 13
 have t1 : ((s.un : Int) != 1) = true := by simp; omega
 clear h hok hT AV AU BV BU hz2 hun hdn
 obtain ⟨Z, m5, hm5, AZ, q0, q1, q2, q3⟩ := put_box2 (A1.out.kept (Below.refl U.heap.size U)) (.string ⟨#[]⟩) (.slice none 0 0)
 have r0 : Z.cell? ⟨bb + 1, 0, none⟩ = some (.string ⟨#[]⟩) := AZ.cell 0
 have r1 : Z.cell? ⟨bb + 1, 1, none⟩ = some (.slice none 0 0) := AZ.cell 1
 have hfin := src_no hm5 (Below.refl U.heap.size U) HB.out hle.out (A1.out.kept (Below.refl U.heap.size U))
 go_enter Tryz.func18, Tryz.ntmps18
 go_wp2_with fail
 refine bodyPost_ret (v := .tuple #[.agg #[.string ⟨#[]⟩, .slice none 0 0], .bool false]) (by simp [results, Tryz.results18, go_sem, r0, r1]) rfl ?_
 exact ⟨rfl, by first | exact hfin.out | (rw [<- hbb]; exact hfin.out)⟩
theorem source_nob (e : Elc) (s : ESl) (w : World) (h : ElcS anyF w e s) (hok : SrcOk e s) (hT : Tabs w) (h1 : e.rnum.length = 1) (h2 : ¬ e.rden.length = 1) : Calls Tryz.prog 18 #[eV e s] w fun r w' => r = .returned (.tuple #[.agg #[.string ⟨#[]⟩, .slice none 0 0], .bool false]) /\ Below w.heap.size w w' := by
 show Calls Tryz.prog 18 #[.agg #[.string (stg e.title), .int .i64 e.dots, .int .i64 e.blank, .int .i64 e.marked, .slice s.po s.pn s.pc, .slice s.co s.cn s.cc, .slice s.so s.sn s.sc, .int .i64 e.scanners, .int .i64 e.batch, .bool e.rneg, .slice s.uo s.un s.uc, .slice s.dO s.dn s.dc, .int .i64 e.cell, .string (stg e.seed)]] w _
 obtain ⟨V, e1, AV, BV, hz⟩ := new_box w 34 [.string (stg e.title), .int .i64 e.dots, .int .i64 e.blank, .int .i64 e.marked, .slice s.po s.pn s.pc, .slice s.co s.cn s.cc, .slice s.so s.sn s.sc, .int .i64 e.scanners, .int .i64 e.batch, .bool e.rneg, .slice s.uo s.un s.uc, .slice s.dO s.dn s.dc, .int .i64 e.cell, .string (stg e.seed)]
 obtain ⟨U, e2, AU, BU, hz2⟩ := new_box V 24 [.string ⟨#[]⟩, .slice none 0 0]
 obtain ⟨KT, hKT⟩ : ∃ K, Hid (stg e.title = K) := ⟨_, rfl⟩
 obtain ⟨KS, hKS⟩ : ∃ K, Hid (stg e.seed = K) := ⟨_, rfl⟩
 rw [hKT.out, hKS.out] at e1 AV
 rw [hKT.out, hKS.out]
 have HT := Lib.hid ((hT.below BV).below BU)
 have HE : Hid (∀ W, Below U.heap.size U W -> ElcS anyF W e s) := fun W hb => ((h.below BV).below BU).below hb
 obtain ⟨bb, hbb⟩ : ∃ b, w.heap.size = b := ⟨_, rfl⟩
 rw [hbb] at AV hz
 rw [hz] at AU
 have A0 := Lib.hid (AV.kept BU)
 have A1 := Lib.hid AU
 have HB : Hid (Below w.heap.size w U) := BV.trans (BU.mono BV.size)
 have hle : Hid (w.heap.size <= bb + 1) := by show _ <= _; omega
 have hbs : Hid (bb + 1 < U.heap.size) := by show _ < _; omega
 have hun := IntL.len h.num
 have hdn := IntL.len h.den
 have HV : Hid (∀ W, Below U.heap.size U W -> Calls Tryz.prog 44 #[.agg #[.bool e.rneg, .slice s.uo s.un s.uc, .slice s.dO s.dn s.dc]] W fun r w' => r = .returned (.bool (Q.validR e.rneg e.rnum e.rden)) /\ Below W.heap.size W w') := fun W hb => Q.valid_c e.rneg _ _ _ _ _ _ e.rnum e.rden W (q_lst (HE.out W hb).num hok.rat.num) (q_lst (HE.out W hb).den hok.rat.den) (by have := hok.rat.n; omega) (by have := hok.rat.d; omega)
 have y_0 : U.cell? ⟨bb, 0, none⟩ = some (.string KT) := A0.out.cell 0
 have y_1 : U.cell? ⟨bb, 1, none⟩ = some (.int .i64 e.dots) := A0.out.cell 1
 have y_2 : U.cell? ⟨bb, 2, none⟩ = some (.int .i64 e.blank) := A0.out.cell 2
 have y_3 : U.cell? ⟨bb, 3, none⟩ = some (.int .i64 e.marked) := A0.out.cell 3
 have y_4 : U.cell? ⟨bb, 4, none⟩ = some (.slice s.po s.pn s.pc) := A0.out.cell 4
 have y_5 : U.cell? ⟨bb, 5, none⟩ = some (.slice s.co s.cn s.cc) := A0.out.cell 5
 have y_6 : U.cell? ⟨bb, 6, none⟩ = some (.slice s.so s.sn s.sc) := A0.out.cell 6
 have y_7 : U.cell? ⟨bb, 7, none⟩ = some (.int .i64 e.scanners) := A0.out.cell 7
 have y_8 : U.cell? ⟨bb, 8, none⟩ = some (.int .i64 e.batch) := A0.out.cell 8
 have y_9 : U.cell? ⟨bb, 9, none⟩ = some (.bool e.rneg) := A0.out.cell 9
 have y_10 : U.cell? ⟨bb, 10, none⟩ = some (.slice s.uo s.un s.uc) := A0.out.cell 10
 have y_11 : U.cell? ⟨bb, 11, none⟩ = some (.slice s.dO s.dn s.dc) := A0.out.cell 11
 have y_12 : U.cell? ⟨bb, 12, none⟩ = some (.int .i64 e.cell) := A0.out.cell 12
 have y_13 : U.cell? ⟨bb, 13, none⟩ = some (.string KS) := A0.out.cell 13
 have t1 : ((s.un : Int) != 1) = false := by simp; omega
 have t2 : ((s.dn : Int) != 1) = true := by simp; omega
 clear h hok hT AV AU BV BU hz2 hun hdn
 obtain ⟨Z, m5, hm5, AZ, q0, q1, q2, q3⟩ := put_box2 (A1.out.kept (Below.refl U.heap.size U)) (.string ⟨#[]⟩) (.slice none 0 0)
 have r0 : Z.cell? ⟨bb + 1, 0, none⟩ = some (.string ⟨#[]⟩) := AZ.cell 0
 have r1 : Z.cell? ⟨bb + 1, 1, none⟩ = some (.slice none 0 0) := AZ.cell 1
 have hfin := src_no hm5 (Below.refl U.heap.size U) HB.out hle.out (A1.out.kept (Below.refl U.heap.size U))
 go_enter Tryz.func18, Tryz.ntmps18
 go_wp2_with fail
 refine bodyPost_ret (v := .tuple #[.agg #[.string ⟨#[]⟩, .slice none 0 0], .bool false]) (by simp [results, Tryz.results18, go_sem, r0, r1]) rfl ?_
 exact ⟨rfl, by first | exact hfin.out | (rw [<- hbb]; exact hfin.out)⟩
theorem source_noc (e : Elc) (s : ESl) (w : World) (h : ElcS anyF w e s) (hok : SrcOk e s) (hT : Tabs w) (h1 : e.rnum.length = 1) (h2 : e.rden.length = 1) (h3 : Q.validR e.rneg e.rnum e.rden = false) : Calls Tryz.prog 18 #[eV e s] w fun r w' => r = .returned (.tuple #[.agg #[.string ⟨#[]⟩, .slice none 0 0], .bool false]) /\ Below w.heap.size w w' := by
 show Calls Tryz.prog 18 #[.agg #[.string (stg e.title), .int .i64 e.dots, .int .i64 e.blank, .int .i64 e.marked, .slice s.po s.pn s.pc, .slice s.co s.cn s.cc, .slice s.so s.sn s.sc, .int .i64 e.scanners, .int .i64 e.batch, .bool e.rneg, .slice s.uo s.un s.uc, .slice s.dO s.dn s.dc, .int .i64 e.cell, .string (stg e.seed)]] w _
 obtain ⟨V, e1, AV, BV, hz⟩ := new_box w 34 [.string (stg e.title), .int .i64 e.dots, .int .i64 e.blank, .int .i64 e.marked, .slice s.po s.pn s.pc, .slice s.co s.cn s.cc, .slice s.so s.sn s.sc, .int .i64 e.scanners, .int .i64 e.batch, .bool e.rneg, .slice s.uo s.un s.uc, .slice s.dO s.dn s.dc, .int .i64 e.cell, .string (stg e.seed)]
 obtain ⟨U, e2, AU, BU, hz2⟩ := new_box V 24 [.string ⟨#[]⟩, .slice none 0 0]
 obtain ⟨KT, hKT⟩ : ∃ K, Hid (stg e.title = K) := ⟨_, rfl⟩
 obtain ⟨KS, hKS⟩ : ∃ K, Hid (stg e.seed = K) := ⟨_, rfl⟩
 rw [hKT.out, hKS.out] at e1 AV
 rw [hKT.out, hKS.out]
 have HT := Lib.hid ((hT.below BV).below BU)
 have HE : Hid (∀ W, Below U.heap.size U W -> ElcS anyF W e s) := fun W hb => ((h.below BV).below BU).below hb
 obtain ⟨bb, hbb⟩ : ∃ b, w.heap.size = b := ⟨_, rfl⟩
 rw [hbb] at AV hz
 rw [hz] at AU
 have A0 := Lib.hid (AV.kept BU)
 have A1 := Lib.hid AU
 have HB : Hid (Below w.heap.size w U) := BV.trans (BU.mono BV.size)
 have hle : Hid (w.heap.size <= bb + 1) := by show _ <= _; omega
 have hbs : Hid (bb + 1 < U.heap.size) := by show _ < _; omega
 have hun := IntL.len h.num
 have hdn := IntL.len h.den
 have HV : Hid (∀ W, Below U.heap.size U W -> Calls Tryz.prog 44 #[.agg #[.bool e.rneg, .slice s.uo s.un s.uc, .slice s.dO s.dn s.dc]] W fun r w' => r = .returned (.bool (Q.validR e.rneg e.rnum e.rden)) /\ Below W.heap.size W w') := fun W hb => Q.valid_c e.rneg _ _ _ _ _ _ e.rnum e.rden W (q_lst (HE.out W hb).num hok.rat.num) (q_lst (HE.out W hb).den hok.rat.den) (by have := hok.rat.n; omega) (by have := hok.rat.d; omega)
 have y_0 : U.cell? ⟨bb, 0, none⟩ = some (.string KT) := A0.out.cell 0
 have y_1 : U.cell? ⟨bb, 1, none⟩ = some (.int .i64 e.dots) := A0.out.cell 1
 have y_2 : U.cell? ⟨bb, 2, none⟩ = some (.int .i64 e.blank) := A0.out.cell 2
 have y_3 : U.cell? ⟨bb, 3, none⟩ = some (.int .i64 e.marked) := A0.out.cell 3
 have y_4 : U.cell? ⟨bb, 4, none⟩ = some (.slice s.po s.pn s.pc) := A0.out.cell 4
 have y_5 : U.cell? ⟨bb, 5, none⟩ = some (.slice s.co s.cn s.cc) := A0.out.cell 5
 have y_6 : U.cell? ⟨bb, 6, none⟩ = some (.slice s.so s.sn s.sc) := A0.out.cell 6
 have y_7 : U.cell? ⟨bb, 7, none⟩ = some (.int .i64 e.scanners) := A0.out.cell 7
 have y_8 : U.cell? ⟨bb, 8, none⟩ = some (.int .i64 e.batch) := A0.out.cell 8
 have y_9 : U.cell? ⟨bb, 9, none⟩ = some (.bool e.rneg) := A0.out.cell 9
 have y_10 : U.cell? ⟨bb, 10, none⟩ = some (.slice s.uo s.un s.uc) := A0.out.cell 10
 have y_11 : U.cell? ⟨bb, 11, none⟩ = some (.slice s.dO s.dn s.dc) := A0.out.cell 11
 have y_12 : U.cell? ⟨bb, 12, none⟩ = some (.int .i64 e.cell) := A0.out.cell 12
 have y_13 : U.cell? ⟨bb, 13, none⟩ = some (.string KS) := A0.out.cell 13
 have t1 : ((s.un : Int) != 1) = false := by simp; omega
 have t2 : ((s.dn : Int) != 1) = false := by simp; omega
 rw [h3] at HV
 clear h hok hT AV AU BV BU hz2 hun hdn
 go_enter Tryz.func18, Tryz.ntmps18
 go_wp2_with (go_at_call 44; (with_reducible refine (HV.out U (Below.refl _ _)).mono ?_); rintro r v1 ⟨rfl, B1⟩; obtain ⟨Z, m5, hm5, AZ, q0, q1, q2, q3⟩ := put_box2 (A1.out.kept B1) (.string ⟨#[]⟩) (.slice none 0 0); have r0 : Z.cell? ⟨bb + 1, 0, none⟩ = some (.string ⟨#[]⟩) := AZ.cell 0; have r1 : Z.cell? ⟨bb + 1, 1, none⟩ = some (.slice none 0 0) := AZ.cell 1; have hfin := src_no hm5 B1 HB.out hle.out (A1.out.kept B1))
 refine bodyPost_ret (v := .tuple #[.agg #[.string ⟨#[]⟩, .slice none 0 0], .bool false]) (by simp [results, Tryz.results18, go_sem, r0, r1]) rfl ?_
 exact ⟨rfl, by first | exact hfin.out | (rw [<- hbb]; exact hfin.out)⟩
theorem source_err (e : Elc) (s : ESl) (w : World) (h : ElcS anyF w e s) (hok : SrcOk e s) (hT : Tabs w) (h1 : e.rnum.length = 1) (h2 : e.rden.length = 1) (h3 : Q.validR e.rneg e.rnum e.rden = true) (h4 : ¬ (compS (descS e (riskT e))).1.1 = 0) : Calls Tryz.prog 18 #[eV e s] w fun r w' => r = .returned (.tuple #[.agg #[.string ⟨#[]⟩, .slice none 0 0], .bool false]) /\ Below w.heap.size w w' := by
 show Calls Tryz.prog 18 #[.agg #[.string (stg e.title), .int .i64 e.dots, .int .i64 e.blank, .int .i64 e.marked, .slice s.po s.pn s.pc, .slice s.co s.cn s.cc, .slice s.so s.sn s.sc, .int .i64 e.scanners, .int .i64 e.batch, .bool e.rneg, .slice s.uo s.un s.uc, .slice s.dO s.dn s.dc, .int .i64 e.cell, .string (stg e.seed)]] w _
 obtain ⟨V, e1, AV, BV, hz⟩ := new_box w 34 [.string (stg e.title), .int .i64 e.dots, .int .i64 e.blank, .int .i64 e.marked, .slice s.po s.pn s.pc, .slice s.co s.cn s.cc, .slice s.so s.sn s.sc, .int .i64 e.scanners, .int .i64 e.batch, .bool e.rneg, .slice s.uo s.un s.uc, .slice s.dO s.dn s.dc, .int .i64 e.cell, .string (stg e.seed)]
 obtain ⟨U, e2, AU, BU, hz2⟩ := new_box V 24 [.string ⟨#[]⟩, .slice none 0 0]
 obtain ⟨KT, hKT⟩ : ∃ K, Hid (stg e.title = K) := ⟨_, rfl⟩
 obtain ⟨KS, hKS⟩ : ∃ K, Hid (stg e.seed = K) := ⟨_, rfl⟩
 rw [hKT.out, hKS.out] at e1 AV
 rw [hKT.out, hKS.out]
 have HT := Lib.hid ((hT.below BV).below BU)
 have HE : Hid (∀ W, Below U.heap.size U W -> ElcS anyF W e s) := fun W hb => ((h.below BV).below BU).below hb
 obtain ⟨bb, hbb⟩ : ∃ b, w.heap.size = b := ⟨_, rfl⟩
 rw [hbb] at AV hz
 rw [hz] at AU
 have A0 := Lib.hid (AV.kept BU)
 have A1 := Lib.hid AU
 have HB : Hid (Below w.heap.size w U) := BV.trans (BU.mono BV.size)
 have hle : Hid (w.heap.size <= bb + 1) := by show _ <= _; omega
 have hbs : Hid (bb + 1 < U.heap.size) := by show _ < _; omega
 have hun := IntL.len h.num
 have hdn := IntL.len h.den
 have HV : Hid (∀ W, Below U.heap.size U W -> Calls Tryz.prog 44 #[.agg #[.bool e.rneg, .slice s.uo s.un s.uc, .slice s.dO s.dn s.dc]] W fun r w' => r = .returned (.bool (Q.validR e.rneg e.rnum e.rden)) /\ Below W.heap.size W w') := fun W hb => Q.valid_c e.rneg _ _ _ _ _ _ e.rnum e.rden W (q_lst (HE.out W hb).num hok.rat.num) (q_lst (HE.out W hb).den hok.rat.den) (by have := hok.rat.n; omega) (by have := hok.rat.d; omega)
 have y_0 : U.cell? ⟨bb, 0, none⟩ = some (.string KT) := A0.out.cell 0
 have y_1 : U.cell? ⟨bb, 1, none⟩ = some (.int .i64 e.dots) := A0.out.cell 1
 have y_2 : U.cell? ⟨bb, 2, none⟩ = some (.int .i64 e.blank) := A0.out.cell 2
 have y_3 : U.cell? ⟨bb, 3, none⟩ = some (.int .i64 e.marked) := A0.out.cell 3
 have y_4 : U.cell? ⟨bb, 4, none⟩ = some (.slice s.po s.pn s.pc) := A0.out.cell 4
 have y_5 : U.cell? ⟨bb, 5, none⟩ = some (.slice s.co s.cn s.cc) := A0.out.cell 5
 have y_6 : U.cell? ⟨bb, 6, none⟩ = some (.slice s.so s.sn s.sc) := A0.out.cell 6
 have y_7 : U.cell? ⟨bb, 7, none⟩ = some (.int .i64 e.scanners) := A0.out.cell 7
 have y_8 : U.cell? ⟨bb, 8, none⟩ = some (.int .i64 e.batch) := A0.out.cell 8
 have y_9 : U.cell? ⟨bb, 9, none⟩ = some (.bool e.rneg) := A0.out.cell 9
 have y_10 : U.cell? ⟨bb, 10, none⟩ = some (.slice s.uo s.un s.uc) := A0.out.cell 10
 have y_11 : U.cell? ⟨bb, 11, none⟩ = some (.slice s.dO s.dn s.dc) := A0.out.cell 11
 have y_12 : U.cell? ⟨bb, 12, none⟩ = some (.int .i64 e.cell) := A0.out.cell 12
 have y_13 : U.cell? ⟨bb, 13, none⟩ = some (.string KS) := A0.out.cell 13
 have t1 : ((s.un : Int) != 1) = false := by simp; omega
 have t2 : ((s.dn : Int) != 1) = false := by simp; omega
 rw [h3] at HV
 have hds := hok.ds (by omega) (by omega)
 have HD : Hid (∀ W, Below U.heap.size U W -> Calls Tryz.prog 45 #[.agg #[.string KT, .int .i64 e.dots, .int .i64 e.blank, .int .i64 e.marked, .slice s.po s.pn s.pc, .slice s.co s.cn s.cc, .slice s.so s.sn s.sc, .int .i64 e.scanners, .int .i64 e.batch, .bool e.rneg, .slice s.uo s.un s.uc, .slice s.dO s.dn s.dc, .int .i64 e.cell, .string KS]] W fun r w' => ∃ bo bn bc, r = .returned (.agg #[.string KT, .slice bo bn bc]) /\ BlkS (geF W.heap.size) w' bo bn bc (descS e (riskT e)).blks /\ Below W.heap.size W w') := fun W hb => by
  have := describe_c e s W (HE.out W hb) hds (HT.out.below hb)
  rw [<- hKT.out, <- hKS.out]
  exact this
 have hR := risk_short h1 h2 hok.rat.num hok.rat.den
 have hsm := desc_small hds hok.sm hR
 have HCm : Hid (∀ W bo bn bc, Below U.heap.size U W -> BlkS anyF W bo bn bc (descS e (riskT e)).blks -> Calls Tryz.prog 12 #[.agg #[.string KT, .slice bo bn bc]] W fun r w' => ∃ sl, r = .returned (.tuple #[eV (compS (descS e (riskT e))).2 sl, .agg #[.int .i64 (((compS (descS e (riskT e))).1.1 : Nat) : Int), .int .i64 (compS (descS e (riskT e))).1.2]]) /\ ElcS anyF w' (compS (descS e (riskT e))).2 sl /\ Below W.heap.size W w') := fun W bo bn bc hb hv => by
  have := compile_c (descS e (riskT e)) bo bn bc W hv hsm (desc_vals hds) (HT.out.below hb)
  rw [<- hKT.out]
  exact this
 have hri : Hid (∀ W sl, ElcS anyF W (compS (descS e (riskT e))).2 sl -> RatIn (compS (descS e (riskT e))).2 sl) := fun W sl hs => comp_ratin hs
 have hrat := Lib.hid hok.rat
 obtain ⟨SB, hSB⟩ : ∃ S, Hid ((descS e (riskT e)).blks = S) := ⟨_, rfl⟩
 rw [hSB.out] at HD HCm
 obtain ⟨CC, hCC⟩ : ∃ C, Hid (compS (descS e (riskT e)) = C) := ⟨_, rfl⟩
 rw [hCC.out] at HCm hri h4
 obtain ⟨⟨er, ln⟩, EC⟩ := CC
 replace h4 : ¬ er = 0 := h4
 have t4 : (((er : Nat) : Int) != 0) = true := by simp; omega
 clear h hok hT AV AU BV BU hz2 hun hdn h1 h2 h3 hds hR hsm hSB hCC
 go_enter Tryz.func18, Tryz.ntmps18
 go_wp2_with (first
   | (go_at_call 44; (with_reducible refine (HV.out U (Below.refl _ _)).mono ?_); rintro r v1 ⟨rfl, B1⟩; have p1_0 := cell_keep y_0 B1; have p1_1 := cell_keep y_1 B1; have p1_2 := cell_keep y_2 B1; have p1_3 := cell_keep y_3 B1; have p1_4 := cell_keep y_4 B1; have p1_5 := cell_keep y_5 B1; have p1_6 := cell_keep y_6 B1; have p1_7 := cell_keep y_7 B1; have p1_8 := cell_keep y_8 B1; have p1_9 := cell_keep y_9 B1; have p1_10 := cell_keep y_10 B1; have p1_11 := cell_keep y_11 B1; have p1_12 := cell_keep y_12 B1; have p1_13 := cell_keep y_13 B1; have HD1 := Lib.hid (HD.out v1 B1); have hB1 := Lib.hid B1; clear B1)
   | (go_at_call 45; (with_reducible refine HD1.out.mono ?_); rintro r v2 ⟨bo, bn, bc, rfl, BL, B2⟩; obtain ⟨V3, W3, f1, f2, AW, BW, zW, g0, g1, g2, g3⟩ := new_put2 v2 24 (.string ⟨#[]⟩) (.slice none 0 0) (.string KT) (.slice bo bn bc); obtain ⟨p4, hp4⟩ : ∃ p, v2.heap.size = p := ⟨_, rfl⟩; rw [hp4] at f2 AW g0 g1 g2 g3; have B12 := hB1.out.trans (B2.mono hB1.out.size); have BU3 := Lib.hid (B12.trans (BW.mono B12.size)); have BG3 := Lib.hid (BL.keep (stable_ge _) (keeps_below _ BW)); have BL3 := Lib.hid (BG3.out.mono fun _ _ => trivial : BlkS anyF W3 bo bn bc SB); have AWH := Lib.hid AW; have s4_0 : W3.cell? ⟨p4, 0, none⟩ = some (.string KT) := AW.cell 0; have s4_1 : W3.cell? ⟨p4, 1, none⟩ = some (.slice bo bn bc) := AW.cell 1; have HC3 := Lib.hid (HCm.out W3 bo bn bc BU3.out BL3.out); clear B2 BL AW BW zW B12)
   | (go_at_call 12; (with_reducible refine HC3.out.mono ?_); rintro r v4 ⟨sl, he, ES, B4⟩; obtain ⟨KT2, hKT2⟩ : ∃ K, Hid (stg EC.title = K) := ⟨_, rfl⟩; obtain ⟨KS2, hKS2⟩ : ∃ K, Hid (stg EC.seed = K) := ⟨_, rfl⟩; replace he : r = .returned (.tuple #[.agg #[.string (stg EC.title), .int .i64 EC.dots, .int .i64 EC.blank, .int .i64 EC.marked, .slice sl.po sl.pn sl.pc, .slice sl.co sl.cn sl.cc, .slice sl.so sl.sn sl.sc, .int .i64 EC.scanners, .int .i64 EC.batch, .bool EC.rneg, .slice sl.uo sl.un sl.uc, .slice sl.dO sl.dn sl.dc, .int .i64 EC.cell, .string (stg EC.seed)], .agg #[.int .i64 ((er : Nat) : Int), .int .i64 ln]]) := he; rw [hKT2.out, hKS2.out] at he; subst he; obtain ⟨X1, d1, A5, B5, z5⟩ := new_box v4 34 [.string ⟨#[]⟩, .int .i64 0, .int .i64 0, .int .i64 0, .slice none 0 0, .slice none 0 0, .slice none 0 0, .int .i64 0, .int .i64 0, .bool false, .slice none 0 0, .slice none 0 0, .int .i64 0, .string ⟨#[]⟩]; obtain ⟨X2, d2, A6, B6, z6⟩ := new_box X1 37 [.int .i64 0, .int .i64 0]; obtain ⟨p5, hp5⟩ : ∃ p, v4.heap.size = p := ⟨_, rfl⟩; obtain ⟨p6, hp6⟩ : ∃ p, X1.heap.size = p := ⟨_, rfl⟩; have hpp : p6 ≠ p5 := (by omega); rw [hp5] at A5; rw [hp6] at A6; obtain ⟨x0, x1, x2, x3, x4, x5, x6, x7, x8, x9, x10, x11, x12, x13, ex0, ex1, ex2, ex3, ex4, ex5, ex6, ex7, ex8, ex9, ex10, ex11, ex12, ex13, AX, GX, LX, qx0, rx0, qx1, rx1, qx2, rx2, qx3, rx3, qx4, rx4, qx5, rx5, qx6, rx6, qx7, rx7, qx8, rx8, qx9, rx9, qx10, rx10, qx11, rx11, qx12, rx12, qx13, rx13⟩ := box_let14 (A5.kept B6) (.string KT2) (.int .i64 EC.dots) (.int .i64 EC.blank) (.int .i64 EC.marked) (.slice sl.po sl.pn sl.pc) (.slice sl.co sl.cn sl.cc) (.slice sl.so sl.sn sl.sc) (.int .i64 EC.scanners) (.int .i64 EC.batch) (.bool EC.rneg) (.slice sl.uo sl.un sl.uc) (.slice sl.dO sl.dn sl.dc) (.int .i64 EC.cell) (.string KS2); obtain ⟨Y, my, hmy, AY, k0, k1, k2, k3⟩ := put_box2 (A6.other GX hpp) (.int .i64 ((er : Nat) : Int)) (.int .i64 ln); have GY : x13.grownBy Y (some p6) := (by rw [hmy.out]; exact grown_trans (set_grown x13 p6 0 _) (set_grown _ p6 1 _)); have AXY := AX.other GY hpp.symm; have BX2 : Below v4.heap.size v4 X2 := B5.trans (B6.mono B5.size); have BX13 : Below v4.heap.size v4 x13 := LX _ _ BX2 (by omega); have BY : Below v4.heap.size v4 Y := (by rw [hmy.out]; exact (BX13.setCell (p := ⟨_, 0, none⟩) (by show _ <= p6; omega) _).setCell (p := ⟨_, 1, none⟩) (by show _ <= p6; omega) _); have B3Y := B4.trans (BY.mono B4.size); have BUY := Lib.hid (BU3.out.trans (B3Y.mono BU3.out.size)); have ESY := Lib.hid (ES.below BY); have u_0 : Y.cell? ⟨p6, 0, none⟩ = some (.int .i64 ((er : Nat) : Int)) := AY.cell 0; have BLY := Lib.hid (BG3.out.keep (stable_ge _) (keeps_below _ B3Y)); have AWY := Lib.hid (AWH.out.kept B3Y); have AXH := Lib.hid AXY; obtain ⟨Z, m5, hm5, AZ, q0, q1, q2, q3⟩ := put_box2 (A1.out.kept BUY.out) (.string ⟨#[]⟩) (.slice none 0 0); have r0 : Z.cell? ⟨bb + 1, 0, none⟩ = some (.string ⟨#[]⟩) := AZ.cell 0; have r1 : Z.cell? ⟨bb + 1, 1, none⟩ = some (.slice none 0 0) := AZ.cell 1; have hfin := src_no hm5 BUY.out HB.out hle.out (A1.out.kept BUY.out); clear ES B4 A5 B5 z5 A6 B6 z6 AX GX LX AY GY BX2 BX13 BY B3Y hpp)
   | fail)
 refine bodyPost_ret (v := .tuple #[.agg #[.string ⟨#[]⟩, .slice none 0 0], .bool false]) (by simp [results, Tryz.results18, go_sem, r0, r1]) rfl ?_
 exact ⟨rfl, by first | exact hfin.out | (rw [<- hbb]; exact hfin.out)⟩
theorem source_ne (e : Elc) (s : ESl) (w : World) (h : ElcS anyF w e s) (hok : SrcOk e s) (hT : Tabs w) (h1 : e.rnum.length = 1) (h2 : e.rden.length = 1) (h3 : Q.validR e.rneg e.rnum e.rden = true) (h4 : (compS (descS e (riskT e))).1.1 = 0) (h5 : eqE (compS (descS e (riskT e))).2 e = false) : Calls Tryz.prog 18 #[eV e s] w fun r w' => r = .returned (.tuple #[.agg #[.string ⟨#[]⟩, .slice none 0 0], .bool false]) /\ Below w.heap.size w w' := by
 show Calls Tryz.prog 18 #[.agg #[.string (stg e.title), .int .i64 e.dots, .int .i64 e.blank, .int .i64 e.marked, .slice s.po s.pn s.pc, .slice s.co s.cn s.cc, .slice s.so s.sn s.sc, .int .i64 e.scanners, .int .i64 e.batch, .bool e.rneg, .slice s.uo s.un s.uc, .slice s.dO s.dn s.dc, .int .i64 e.cell, .string (stg e.seed)]] w _
 obtain ⟨V, e1, AV, BV, hz⟩ := new_box w 34 [.string (stg e.title), .int .i64 e.dots, .int .i64 e.blank, .int .i64 e.marked, .slice s.po s.pn s.pc, .slice s.co s.cn s.cc, .slice s.so s.sn s.sc, .int .i64 e.scanners, .int .i64 e.batch, .bool e.rneg, .slice s.uo s.un s.uc, .slice s.dO s.dn s.dc, .int .i64 e.cell, .string (stg e.seed)]
 obtain ⟨U, e2, AU, BU, hz2⟩ := new_box V 24 [.string ⟨#[]⟩, .slice none 0 0]
 obtain ⟨KT, hKT⟩ : ∃ K, Hid (stg e.title = K) := ⟨_, rfl⟩
 obtain ⟨KS, hKS⟩ : ∃ K, Hid (stg e.seed = K) := ⟨_, rfl⟩
 rw [hKT.out, hKS.out] at e1 AV
 rw [hKT.out, hKS.out]
 have HT := Lib.hid ((hT.below BV).below BU)
 have HE : Hid (∀ W, Below U.heap.size U W -> ElcS anyF W e s) := fun W hb => ((h.below BV).below BU).below hb
 obtain ⟨bb, hbb⟩ : ∃ b, w.heap.size = b := ⟨_, rfl⟩
 rw [hbb] at AV hz
 rw [hz] at AU
 have A0 := Lib.hid (AV.kept BU)
 have A1 := Lib.hid AU
 have HB : Hid (Below w.heap.size w U) := BV.trans (BU.mono BV.size)
 have hle : Hid (w.heap.size <= bb + 1) := by show _ <= _; omega
 have hbs : Hid (bb + 1 < U.heap.size) := by show _ < _; omega
 have hun := IntL.len h.num
 have hdn := IntL.len h.den
 have HV : Hid (∀ W, Below U.heap.size U W -> Calls Tryz.prog 44 #[.agg #[.bool e.rneg, .slice s.uo s.un s.uc, .slice s.dO s.dn s.dc]] W fun r w' => r = .returned (.bool (Q.validR e.rneg e.rnum e.rden)) /\ Below W.heap.size W w') := fun W hb => Q.valid_c e.rneg _ _ _ _ _ _ e.rnum e.rden W (q_lst (HE.out W hb).num hok.rat.num) (q_lst (HE.out W hb).den hok.rat.den) (by have := hok.rat.n; omega) (by have := hok.rat.d; omega)
 have y_0 : U.cell? ⟨bb, 0, none⟩ = some (.string KT) := A0.out.cell 0
 have y_1 : U.cell? ⟨bb, 1, none⟩ = some (.int .i64 e.dots) := A0.out.cell 1
 have y_2 : U.cell? ⟨bb, 2, none⟩ = some (.int .i64 e.blank) := A0.out.cell 2
 have y_3 : U.cell? ⟨bb, 3, none⟩ = some (.int .i64 e.marked) := A0.out.cell 3
 have y_4 : U.cell? ⟨bb, 4, none⟩ = some (.slice s.po s.pn s.pc) := A0.out.cell 4
 have y_5 : U.cell? ⟨bb, 5, none⟩ = some (.slice s.co s.cn s.cc) := A0.out.cell 5
 have y_6 : U.cell? ⟨bb, 6, none⟩ = some (.slice s.so s.sn s.sc) := A0.out.cell 6
 have y_7 : U.cell? ⟨bb, 7, none⟩ = some (.int .i64 e.scanners) := A0.out.cell 7
 have y_8 : U.cell? ⟨bb, 8, none⟩ = some (.int .i64 e.batch) := A0.out.cell 8
 have y_9 : U.cell? ⟨bb, 9, none⟩ = some (.bool e.rneg) := A0.out.cell 9
 have y_10 : U.cell? ⟨bb, 10, none⟩ = some (.slice s.uo s.un s.uc) := A0.out.cell 10
 have y_11 : U.cell? ⟨bb, 11, none⟩ = some (.slice s.dO s.dn s.dc) := A0.out.cell 11
 have y_12 : U.cell? ⟨bb, 12, none⟩ = some (.int .i64 e.cell) := A0.out.cell 12
 have y_13 : U.cell? ⟨bb, 13, none⟩ = some (.string KS) := A0.out.cell 13
 have t1 : ((s.un : Int) != 1) = false := by simp; omega
 have t2 : ((s.dn : Int) != 1) = false := by simp; omega
 rw [h3] at HV
 have hds := hok.ds (by omega) (by omega)
 have HD : Hid (∀ W, Below U.heap.size U W -> Calls Tryz.prog 45 #[.agg #[.string KT, .int .i64 e.dots, .int .i64 e.blank, .int .i64 e.marked, .slice s.po s.pn s.pc, .slice s.co s.cn s.cc, .slice s.so s.sn s.sc, .int .i64 e.scanners, .int .i64 e.batch, .bool e.rneg, .slice s.uo s.un s.uc, .slice s.dO s.dn s.dc, .int .i64 e.cell, .string KS]] W fun r w' => ∃ bo bn bc, r = .returned (.agg #[.string KT, .slice bo bn bc]) /\ BlkS (geF W.heap.size) w' bo bn bc (descS e (riskT e)).blks /\ Below W.heap.size W w') := fun W hb => by
  have := describe_c e s W (HE.out W hb) hds (HT.out.below hb)
  rw [<- hKT.out, <- hKS.out]
  exact this
 have hR := risk_short h1 h2 hok.rat.num hok.rat.den
 have hsm := desc_small hds hok.sm hR
 have HCm : Hid (∀ W bo bn bc, Below U.heap.size U W -> BlkS anyF W bo bn bc (descS e (riskT e)).blks -> Calls Tryz.prog 12 #[.agg #[.string KT, .slice bo bn bc]] W fun r w' => ∃ sl, r = .returned (.tuple #[eV (compS (descS e (riskT e))).2 sl, .agg #[.int .i64 (((compS (descS e (riskT e))).1.1 : Nat) : Int), .int .i64 (compS (descS e (riskT e))).1.2]]) /\ ElcS anyF w' (compS (descS e (riskT e))).2 sl /\ Below W.heap.size W w') := fun W bo bn bc hb hv => by
  have := compile_c (descS e (riskT e)) bo bn bc W hv hsm (desc_vals hds) (HT.out.below hb)
  rw [<- hKT.out]
  exact this
 have hri : Hid (∀ W sl, ElcS anyF W (compS (descS e (riskT e))).2 sl -> RatIn (compS (descS e (riskT e))).2 sl) := fun W sl hs => comp_ratin hs
 have hrat := Lib.hid hok.rat
 obtain ⟨SB, hSB⟩ : ∃ S, Hid ((descS e (riskT e)).blks = S) := ⟨_, rfl⟩
 rw [hSB.out] at HD HCm
 obtain ⟨CC, hCC⟩ : ∃ C, Hid (compS (descS e (riskT e)) = C) := ⟨_, rfl⟩
 rw [hCC.out] at HCm hri h4 h5
 obtain ⟨⟨er, ln⟩, EC⟩ := CC
 replace h4 : er = 0 := h4
 have t4 : (((er : Nat) : Int) != 0) = false := by simp; omega
 clear h4
 replace h5 : Hid (eqE EC e = false) := h5
 clear h hok hT AV AU BV BU hz2 hun hdn h1 h2 h3 hds hR hsm hSB hCC
 go_enter Tryz.func18, Tryz.ntmps18
 go_wp2_with (first
   | (go_at_call 44; (with_reducible refine (HV.out U (Below.refl _ _)).mono ?_); rintro r v1 ⟨rfl, B1⟩; have p1_0 := cell_keep y_0 B1; have p1_1 := cell_keep y_1 B1; have p1_2 := cell_keep y_2 B1; have p1_3 := cell_keep y_3 B1; have p1_4 := cell_keep y_4 B1; have p1_5 := cell_keep y_5 B1; have p1_6 := cell_keep y_6 B1; have p1_7 := cell_keep y_7 B1; have p1_8 := cell_keep y_8 B1; have p1_9 := cell_keep y_9 B1; have p1_10 := cell_keep y_10 B1; have p1_11 := cell_keep y_11 B1; have p1_12 := cell_keep y_12 B1; have p1_13 := cell_keep y_13 B1; have HD1 := Lib.hid (HD.out v1 B1); have hB1 := Lib.hid B1; clear B1)
   | (go_at_call 45; (with_reducible refine HD1.out.mono ?_); rintro r v2 ⟨bo, bn, bc, rfl, BL, B2⟩; obtain ⟨V3, W3, f1, f2, AW, BW, zW, g0, g1, g2, g3⟩ := new_put2 v2 24 (.string ⟨#[]⟩) (.slice none 0 0) (.string KT) (.slice bo bn bc); obtain ⟨p4, hp4⟩ : ∃ p, v2.heap.size = p := ⟨_, rfl⟩; rw [hp4] at f2 AW g0 g1 g2 g3; have B12 := hB1.out.trans (B2.mono hB1.out.size); have BU3 := Lib.hid (B12.trans (BW.mono B12.size)); have BG3 := Lib.hid (BL.keep (stable_ge _) (keeps_below _ BW)); have BL3 := Lib.hid (BG3.out.mono fun _ _ => trivial : BlkS anyF W3 bo bn bc SB); have AWH := Lib.hid AW; have s4_0 : W3.cell? ⟨p4, 0, none⟩ = some (.string KT) := AW.cell 0; have s4_1 : W3.cell? ⟨p4, 1, none⟩ = some (.slice bo bn bc) := AW.cell 1; have HC3 := Lib.hid (HCm.out W3 bo bn bc BU3.out BL3.out); clear B2 BL AW BW zW B12)
   | (go_at_call 12; (with_reducible refine HC3.out.mono ?_); rintro r v4 ⟨sl, he, ES, B4⟩; obtain ⟨KT2, hKT2⟩ : ∃ K, Hid (stg EC.title = K) := ⟨_, rfl⟩; obtain ⟨KS2, hKS2⟩ : ∃ K, Hid (stg EC.seed = K) := ⟨_, rfl⟩; replace he : r = .returned (.tuple #[.agg #[.string (stg EC.title), .int .i64 EC.dots, .int .i64 EC.blank, .int .i64 EC.marked, .slice sl.po sl.pn sl.pc, .slice sl.co sl.cn sl.cc, .slice sl.so sl.sn sl.sc, .int .i64 EC.scanners, .int .i64 EC.batch, .bool EC.rneg, .slice sl.uo sl.un sl.uc, .slice sl.dO sl.dn sl.dc, .int .i64 EC.cell, .string (stg EC.seed)], .agg #[.int .i64 ((er : Nat) : Int), .int .i64 ln]]) := he; rw [hKT2.out, hKS2.out] at he; subst he; obtain ⟨X1, d1, A5, B5, z5⟩ := new_box v4 34 [.string ⟨#[]⟩, .int .i64 0, .int .i64 0, .int .i64 0, .slice none 0 0, .slice none 0 0, .slice none 0 0, .int .i64 0, .int .i64 0, .bool false, .slice none 0 0, .slice none 0 0, .int .i64 0, .string ⟨#[]⟩]; obtain ⟨X2, d2, A6, B6, z6⟩ := new_box X1 37 [.int .i64 0, .int .i64 0]; obtain ⟨p5, hp5⟩ : ∃ p, v4.heap.size = p := ⟨_, rfl⟩; obtain ⟨p6, hp6⟩ : ∃ p, X1.heap.size = p := ⟨_, rfl⟩; have hpp : p6 ≠ p5 := (by omega); rw [hp5] at A5; rw [hp6] at A6; obtain ⟨x0, x1, x2, x3, x4, x5, x6, x7, x8, x9, x10, x11, x12, x13, ex0, ex1, ex2, ex3, ex4, ex5, ex6, ex7, ex8, ex9, ex10, ex11, ex12, ex13, AX, GX, LX, qx0, rx0, qx1, rx1, qx2, rx2, qx3, rx3, qx4, rx4, qx5, rx5, qx6, rx6, qx7, rx7, qx8, rx8, qx9, rx9, qx10, rx10, qx11, rx11, qx12, rx12, qx13, rx13⟩ := box_let14 (A5.kept B6) (.string KT2) (.int .i64 EC.dots) (.int .i64 EC.blank) (.int .i64 EC.marked) (.slice sl.po sl.pn sl.pc) (.slice sl.co sl.cn sl.cc) (.slice sl.so sl.sn sl.sc) (.int .i64 EC.scanners) (.int .i64 EC.batch) (.bool EC.rneg) (.slice sl.uo sl.un sl.uc) (.slice sl.dO sl.dn sl.dc) (.int .i64 EC.cell) (.string KS2); obtain ⟨Y, my, hmy, AY, k0, k1, k2, k3⟩ := put_box2 (A6.other GX hpp) (.int .i64 ((er : Nat) : Int)) (.int .i64 ln); have GY : x13.grownBy Y (some p6) := (by rw [hmy.out]; exact grown_trans (set_grown x13 p6 0 _) (set_grown _ p6 1 _)); have AXY := AX.other GY hpp.symm; have BX2 : Below v4.heap.size v4 X2 := B5.trans (B6.mono B5.size); have BX13 : Below v4.heap.size v4 x13 := LX _ _ BX2 (by omega); have BY : Below v4.heap.size v4 Y := (by rw [hmy.out]; exact (BX13.setCell (p := ⟨_, 0, none⟩) (by show _ <= p6; omega) _).setCell (p := ⟨_, 1, none⟩) (by show _ <= p6; omega) _); have B3Y := B4.trans (BY.mono B4.size); have BUY := Lib.hid (BU3.out.trans (B3Y.mono BU3.out.size)); have ESY := Lib.hid (ES.below BY); have u_0 : Y.cell? ⟨p6, 0, none⟩ = some (.int .i64 ((er : Nat) : Int)) := AY.cell 0; have BLY := Lib.hid (BG3.out.keep (stable_ge _) (keeps_below _ B3Y)); have AWY := Lib.hid (AWH.out.kept B3Y); have AXH := Lib.hid AXY; have w_0 : Y.cell? ⟨bb, 0, none⟩ = some (.string KT) := (A0.out.kept BUY.out).cell 0; have w_1 : Y.cell? ⟨bb, 1, none⟩ = some (.int .i64 e.dots) := (A0.out.kept BUY.out).cell 1; have w_2 : Y.cell? ⟨bb, 2, none⟩ = some (.int .i64 e.blank) := (A0.out.kept BUY.out).cell 2; have w_3 : Y.cell? ⟨bb, 3, none⟩ = some (.int .i64 e.marked) := (A0.out.kept BUY.out).cell 3; have w_4 : Y.cell? ⟨bb, 4, none⟩ = some (.slice s.po s.pn s.pc) := (A0.out.kept BUY.out).cell 4; have w_5 : Y.cell? ⟨bb, 5, none⟩ = some (.slice s.co s.cn s.cc) := (A0.out.kept BUY.out).cell 5; have w_6 : Y.cell? ⟨bb, 6, none⟩ = some (.slice s.so s.sn s.sc) := (A0.out.kept BUY.out).cell 6; have w_7 : Y.cell? ⟨bb, 7, none⟩ = some (.int .i64 e.scanners) := (A0.out.kept BUY.out).cell 7; have w_8 : Y.cell? ⟨bb, 8, none⟩ = some (.int .i64 e.batch) := (A0.out.kept BUY.out).cell 8; have w_9 : Y.cell? ⟨bb, 9, none⟩ = some (.bool e.rneg) := (A0.out.kept BUY.out).cell 9; have w_10 : Y.cell? ⟨bb, 10, none⟩ = some (.slice s.uo s.un s.uc) := (A0.out.kept BUY.out).cell 10; have w_11 : Y.cell? ⟨bb, 11, none⟩ = some (.slice s.dO s.dn s.dc) := (A0.out.kept BUY.out).cell 11; have w_12 : Y.cell? ⟨bb, 12, none⟩ = some (.int .i64 e.cell) := (A0.out.kept BUY.out).cell 12; have w_13 : Y.cell? ⟨bb, 13, none⟩ = some (.string KS) := (A0.out.kept BUY.out).cell 13; have v_0 : Y.cell? ⟨p5, 0, none⟩ = some (.string KT2) := AXY.cell 0; have v_1 : Y.cell? ⟨p5, 1, none⟩ = some (.int .i64 EC.dots) := AXY.cell 1; have v_2 : Y.cell? ⟨p5, 2, none⟩ = some (.int .i64 EC.blank) := AXY.cell 2; have v_3 : Y.cell? ⟨p5, 3, none⟩ = some (.int .i64 EC.marked) := AXY.cell 3; have v_4 : Y.cell? ⟨p5, 4, none⟩ = some (.slice sl.po sl.pn sl.pc) := AXY.cell 4; have v_5 : Y.cell? ⟨p5, 5, none⟩ = some (.slice sl.co sl.cn sl.cc) := AXY.cell 5; have v_6 : Y.cell? ⟨p5, 6, none⟩ = some (.slice sl.so sl.sn sl.sc) := AXY.cell 6; have v_7 : Y.cell? ⟨p5, 7, none⟩ = some (.int .i64 EC.scanners) := AXY.cell 7; have v_8 : Y.cell? ⟨p5, 8, none⟩ = some (.int .i64 EC.batch) := AXY.cell 8; have v_9 : Y.cell? ⟨p5, 9, none⟩ = some (.bool EC.rneg) := AXY.cell 9; have v_10 : Y.cell? ⟨p5, 10, none⟩ = some (.slice sl.uo sl.un sl.uc) := AXY.cell 10; have v_11 : Y.cell? ⟨p5, 11, none⟩ = some (.slice sl.dO sl.dn sl.dc) := AXY.cell 11; have v_12 : Y.cell? ⟨p5, 12, none⟩ = some (.int .i64 EC.cell) := AXY.cell 12; have v_13 : Y.cell? ⟨p5, 13, none⟩ = some (.string KS2) := AXY.cell 13; have HEq : Hid (Calls Tryz.prog 23 #[.agg #[.string KT2, .int .i64 EC.dots, .int .i64 EC.blank, .int .i64 EC.marked, .slice sl.po sl.pn sl.pc, .slice sl.co sl.cn sl.cc, .slice sl.so sl.sn sl.sc, .int .i64 EC.scanners, .int .i64 EC.batch, .bool EC.rneg, .slice sl.uo sl.un sl.uc, .slice sl.dO sl.dn sl.dc, .int .i64 EC.cell, .string KS2], .agg #[.string KT, .int .i64 e.dots, .int .i64 e.blank, .int .i64 e.marked, .slice s.po s.pn s.pc, .slice s.co s.cn s.cc, .slice s.so s.sn s.sc, .int .i64 e.scanners, .int .i64 e.batch, .bool e.rneg, .slice s.uo s.un s.uc, .slice s.dO s.dn s.dc, .int .i64 e.cell, .string KS]] Y fun r w' => r = .returned (.bool false) /\ Below Y.heap.size Y w') := (by have := equal_c EC e sl s Y ESY.out (HE.out Y BUY.out) (hri.out _ sl ESY.out) hrat.out; rw [h5.out] at this; rw [<- hKT.out, <- hKS.out, <- hKT2.out, <- hKS2.out]; exact this); clear ES B4 A5 B5 z5 A6 B6 z6 AX GX LX AY GY BX2 BX13 BY B3Y hpp)
   | (go_at_call 23; (with_reducible refine HEq.out.mono ?_); rintro r v6 ⟨rfl, B6⟩; have BU6 := Lib.hid (BUY.out.trans (B6.mono BUY.out.size)); obtain ⟨Z, m5, hm5, AZ, q0, q1, q2, q3⟩ := put_box2 (A1.out.kept BU6.out) (.string ⟨#[]⟩) (.slice none 0 0); have r0 : Z.cell? ⟨bb + 1, 0, none⟩ = some (.string ⟨#[]⟩) := AZ.cell 0; have r1 : Z.cell? ⟨bb + 1, 1, none⟩ = some (.slice none 0 0) := AZ.cell 1; have hfin := src_no hm5 BU6.out HB.out hle.out (A1.out.kept BU6.out))
   | fail)
 refine bodyPost_ret (v := .tuple #[.agg #[.string ⟨#[]⟩, .slice none 0 0], .bool false]) (by simp [results, Tryz.results18, go_sem, r0, r1]) rfl ?_
 exact ⟨rfl, by first | exact hfin.out | (rw [<- hbb]; exact hfin.out)⟩
theorem source_ok (e : Elc) (s : ESl) (w : World) (h : ElcS anyF w e s) (hok : SrcOk e s) (hT : Tabs w) (h1 : e.rnum.length = 1) (h2 : e.rden.length = 1) (h3 : Q.validR e.rneg e.rnum e.rden = true) (h4 : (compS (descS e (riskT e))).1.1 = 0) (h5 : eqE (compS (descS e (riskT e))).2 e = true) : Calls Tryz.prog 18 #[eV e s] w fun r w' => ∃ bo bn bc, r = .returned (.tuple #[.agg #[.string (stg e.title), .slice bo bn bc], .bool true]) /\ BlkS anyF w' bo bn bc (descS e (riskT e)).blks /\ Below w.heap.size w w' := by
 show Calls Tryz.prog 18 #[.agg #[.string (stg e.title), .int .i64 e.dots, .int .i64 e.blank, .int .i64 e.marked, .slice s.po s.pn s.pc, .slice s.co s.cn s.cc, .slice s.so s.sn s.sc, .int .i64 e.scanners, .int .i64 e.batch, .bool e.rneg, .slice s.uo s.un s.uc, .slice s.dO s.dn s.dc, .int .i64 e.cell, .string (stg e.seed)]] w _
 obtain ⟨V, e1, AV, BV, hz⟩ := new_box w 34 [.string (stg e.title), .int .i64 e.dots, .int .i64 e.blank, .int .i64 e.marked, .slice s.po s.pn s.pc, .slice s.co s.cn s.cc, .slice s.so s.sn s.sc, .int .i64 e.scanners, .int .i64 e.batch, .bool e.rneg, .slice s.uo s.un s.uc, .slice s.dO s.dn s.dc, .int .i64 e.cell, .string (stg e.seed)]
 obtain ⟨U, e2, AU, BU, hz2⟩ := new_box V 24 [.string ⟨#[]⟩, .slice none 0 0]
 obtain ⟨KT, hKT⟩ : ∃ K, Hid (stg e.title = K) := ⟨_, rfl⟩
 obtain ⟨KS, hKS⟩ : ∃ K, Hid (stg e.seed = K) := ⟨_, rfl⟩
 rw [hKT.out, hKS.out] at e1 AV
 rw [hKT.out, hKS.out]
 have HT := Lib.hid ((hT.below BV).below BU)
 have HE : Hid (∀ W, Below U.heap.size U W -> ElcS anyF W e s) := fun W hb => ((h.below BV).below BU).below hb
 obtain ⟨bb, hbb⟩ : ∃ b, w.heap.size = b := ⟨_, rfl⟩
 rw [hbb] at AV hz
 rw [hz] at AU
 have A0 := Lib.hid (AV.kept BU)
 have A1 := Lib.hid AU
 have HB : Hid (Below w.heap.size w U) := BV.trans (BU.mono BV.size)
 have hle : Hid (w.heap.size <= bb + 1) := by show _ <= _; omega
 have hbs : Hid (bb + 1 < U.heap.size) := by show _ < _; omega
 have hun := IntL.len h.num
 have hdn := IntL.len h.den
 have HV : Hid (∀ W, Below U.heap.size U W -> Calls Tryz.prog 44 #[.agg #[.bool e.rneg, .slice s.uo s.un s.uc, .slice s.dO s.dn s.dc]] W fun r w' => r = .returned (.bool (Q.validR e.rneg e.rnum e.rden)) /\ Below W.heap.size W w') := fun W hb => Q.valid_c e.rneg _ _ _ _ _ _ e.rnum e.rden W (q_lst (HE.out W hb).num hok.rat.num) (q_lst (HE.out W hb).den hok.rat.den) (by have := hok.rat.n; omega) (by have := hok.rat.d; omega)
 have y_0 : U.cell? ⟨bb, 0, none⟩ = some (.string KT) := A0.out.cell 0
 have y_1 : U.cell? ⟨bb, 1, none⟩ = some (.int .i64 e.dots) := A0.out.cell 1
 have y_2 : U.cell? ⟨bb, 2, none⟩ = some (.int .i64 e.blank) := A0.out.cell 2
 have y_3 : U.cell? ⟨bb, 3, none⟩ = some (.int .i64 e.marked) := A0.out.cell 3
 have y_4 : U.cell? ⟨bb, 4, none⟩ = some (.slice s.po s.pn s.pc) := A0.out.cell 4
 have y_5 : U.cell? ⟨bb, 5, none⟩ = some (.slice s.co s.cn s.cc) := A0.out.cell 5
 have y_6 : U.cell? ⟨bb, 6, none⟩ = some (.slice s.so s.sn s.sc) := A0.out.cell 6
 have y_7 : U.cell? ⟨bb, 7, none⟩ = some (.int .i64 e.scanners) := A0.out.cell 7
 have y_8 : U.cell? ⟨bb, 8, none⟩ = some (.int .i64 e.batch) := A0.out.cell 8
 have y_9 : U.cell? ⟨bb, 9, none⟩ = some (.bool e.rneg) := A0.out.cell 9
 have y_10 : U.cell? ⟨bb, 10, none⟩ = some (.slice s.uo s.un s.uc) := A0.out.cell 10
 have y_11 : U.cell? ⟨bb, 11, none⟩ = some (.slice s.dO s.dn s.dc) := A0.out.cell 11
 have y_12 : U.cell? ⟨bb, 12, none⟩ = some (.int .i64 e.cell) := A0.out.cell 12
 have y_13 : U.cell? ⟨bb, 13, none⟩ = some (.string KS) := A0.out.cell 13
 have t1 : ((s.un : Int) != 1) = false := by simp; omega
 have t2 : ((s.dn : Int) != 1) = false := by simp; omega
 rw [h3] at HV
 have hds := hok.ds (by omega) (by omega)
 have HD : Hid (∀ W, Below U.heap.size U W -> Calls Tryz.prog 45 #[.agg #[.string KT, .int .i64 e.dots, .int .i64 e.blank, .int .i64 e.marked, .slice s.po s.pn s.pc, .slice s.co s.cn s.cc, .slice s.so s.sn s.sc, .int .i64 e.scanners, .int .i64 e.batch, .bool e.rneg, .slice s.uo s.un s.uc, .slice s.dO s.dn s.dc, .int .i64 e.cell, .string KS]] W fun r w' => ∃ bo bn bc, r = .returned (.agg #[.string KT, .slice bo bn bc]) /\ BlkS (geF W.heap.size) w' bo bn bc (descS e (riskT e)).blks /\ Below W.heap.size W w') := fun W hb => by
  have := describe_c e s W (HE.out W hb) hds (HT.out.below hb)
  rw [<- hKT.out, <- hKS.out]
  exact this
 have hR := risk_short h1 h2 hok.rat.num hok.rat.den
 have hsm := desc_small hds hok.sm hR
 have HCm : Hid (∀ W bo bn bc, Below U.heap.size U W -> BlkS anyF W bo bn bc (descS e (riskT e)).blks -> Calls Tryz.prog 12 #[.agg #[.string KT, .slice bo bn bc]] W fun r w' => ∃ sl, r = .returned (.tuple #[eV (compS (descS e (riskT e))).2 sl, .agg #[.int .i64 (((compS (descS e (riskT e))).1.1 : Nat) : Int), .int .i64 (compS (descS e (riskT e))).1.2]]) /\ ElcS anyF w' (compS (descS e (riskT e))).2 sl /\ Below W.heap.size W w') := fun W bo bn bc hb hv => by
  have := compile_c (descS e (riskT e)) bo bn bc W hv hsm (desc_vals hds) (HT.out.below hb)
  rw [<- hKT.out]
  exact this
 have hri : Hid (∀ W sl, ElcS anyF W (compS (descS e (riskT e))).2 sl -> RatIn (compS (descS e (riskT e))).2 sl) := fun W sl hs => comp_ratin hs
 have hrat := Lib.hid hok.rat
 obtain ⟨SB, hSB⟩ : ∃ S, Hid ((descS e (riskT e)).blks = S) := ⟨_, rfl⟩
 rw [hSB.out] at HD HCm |-
 obtain ⟨CC, hCC⟩ : ∃ C, Hid (compS (descS e (riskT e)) = C) := ⟨_, rfl⟩
 rw [hCC.out] at HCm hri h4 h5
 obtain ⟨⟨er, ln⟩, EC⟩ := CC
 replace h4 : er = 0 := h4
 have t4 : (((er : Nat) : Int) != 0) = false := by simp; omega
 clear h4
 replace h5 : Hid (eqE EC e = true) := h5
 clear h hok hT AV AU BV BU hz2 hun hdn h1 h2 h3 hds hR hsm hSB hCC
 go_enter Tryz.func18, Tryz.ntmps18
 go_wp2_with (first
   | (go_at_call 44; (with_reducible refine (HV.out U (Below.refl _ _)).mono ?_); rintro r v1 ⟨rfl, B1⟩; have p1_0 := cell_keep y_0 B1; have p1_1 := cell_keep y_1 B1; have p1_2 := cell_keep y_2 B1; have p1_3 := cell_keep y_3 B1; have p1_4 := cell_keep y_4 B1; have p1_5 := cell_keep y_5 B1; have p1_6 := cell_keep y_6 B1; have p1_7 := cell_keep y_7 B1; have p1_8 := cell_keep y_8 B1; have p1_9 := cell_keep y_9 B1; have p1_10 := cell_keep y_10 B1; have p1_11 := cell_keep y_11 B1; have p1_12 := cell_keep y_12 B1; have p1_13 := cell_keep y_13 B1; have HD1 := Lib.hid (HD.out v1 B1); have hB1 := Lib.hid B1; clear B1)
   | (go_at_call 45; (with_reducible refine HD1.out.mono ?_); rintro r v2 ⟨bo, bn, bc, rfl, BL, B2⟩; obtain ⟨V3, W3, f1, f2, AW, BW, zW, g0, g1, g2, g3⟩ := new_put2 v2 24 (.string ⟨#[]⟩) (.slice none 0 0) (.string KT) (.slice bo bn bc); obtain ⟨p4, hp4⟩ : ∃ p, v2.heap.size = p := ⟨_, rfl⟩; rw [hp4] at f2 AW g0 g1 g2 g3; have B12 := hB1.out.trans (B2.mono hB1.out.size); have BU3 := Lib.hid (B12.trans (BW.mono B12.size)); have BG3 := Lib.hid (BL.keep (stable_ge _) (keeps_below _ BW)); have BL3 := Lib.hid (BG3.out.mono fun _ _ => trivial : BlkS anyF W3 bo bn bc SB); have AWH := Lib.hid AW; have s4_0 : W3.cell? ⟨p4, 0, none⟩ = some (.string KT) := AW.cell 0; have s4_1 : W3.cell? ⟨p4, 1, none⟩ = some (.slice bo bn bc) := AW.cell 1; have HC3 := Lib.hid (HCm.out W3 bo bn bc BU3.out BL3.out); clear B2 BL AW BW zW B12)
   | (go_at_call 12; (with_reducible refine HC3.out.mono ?_); rintro r v4 ⟨sl, he, ES, B4⟩; obtain ⟨KT2, hKT2⟩ : ∃ K, Hid (stg EC.title = K) := ⟨_, rfl⟩; obtain ⟨KS2, hKS2⟩ : ∃ K, Hid (stg EC.seed = K) := ⟨_, rfl⟩; replace he : r = .returned (.tuple #[.agg #[.string (stg EC.title), .int .i64 EC.dots, .int .i64 EC.blank, .int .i64 EC.marked, .slice sl.po sl.pn sl.pc, .slice sl.co sl.cn sl.cc, .slice sl.so sl.sn sl.sc, .int .i64 EC.scanners, .int .i64 EC.batch, .bool EC.rneg, .slice sl.uo sl.un sl.uc, .slice sl.dO sl.dn sl.dc, .int .i64 EC.cell, .string (stg EC.seed)], .agg #[.int .i64 ((er : Nat) : Int), .int .i64 ln]]) := he; rw [hKT2.out, hKS2.out] at he; subst he; obtain ⟨X1, d1, A5, B5, z5⟩ := new_box v4 34 [.string ⟨#[]⟩, .int .i64 0, .int .i64 0, .int .i64 0, .slice none 0 0, .slice none 0 0, .slice none 0 0, .int .i64 0, .int .i64 0, .bool false, .slice none 0 0, .slice none 0 0, .int .i64 0, .string ⟨#[]⟩]; obtain ⟨X2, d2, A6, B6, z6⟩ := new_box X1 37 [.int .i64 0, .int .i64 0]; obtain ⟨p5, hp5⟩ : ∃ p, v4.heap.size = p := ⟨_, rfl⟩; obtain ⟨p6, hp6⟩ : ∃ p, X1.heap.size = p := ⟨_, rfl⟩; have hpp : p6 ≠ p5 := (by omega); rw [hp5] at A5; rw [hp6] at A6; obtain ⟨x0, x1, x2, x3, x4, x5, x6, x7, x8, x9, x10, x11, x12, x13, ex0, ex1, ex2, ex3, ex4, ex5, ex6, ex7, ex8, ex9, ex10, ex11, ex12, ex13, AX, GX, LX, qx0, rx0, qx1, rx1, qx2, rx2, qx3, rx3, qx4, rx4, qx5, rx5, qx6, rx6, qx7, rx7, qx8, rx8, qx9, rx9, qx10, rx10, qx11, rx11, qx12, rx12, qx13, rx13⟩ := box_let14 (A5.kept B6) (.string KT2) (.int .i64 EC.dots) (.int .i64 EC.blank) (.int .i64 EC.marked) (.slice sl.po sl.pn sl.pc) (.slice sl.co sl.cn sl.cc) (.slice sl.so sl.sn sl.sc) (.int .i64 EC.scanners) (.int .i64 EC.batch) (.bool EC.rneg) (.slice sl.uo sl.un sl.uc) (.slice sl.dO sl.dn sl.dc) (.int .i64 EC.cell) (.string KS2); obtain ⟨Y, my, hmy, AY, k0, k1, k2, k3⟩ := put_box2 (A6.other GX hpp) (.int .i64 ((er : Nat) : Int)) (.int .i64 ln); have GY : x13.grownBy Y (some p6) := (by rw [hmy.out]; exact grown_trans (set_grown x13 p6 0 _) (set_grown _ p6 1 _)); have AXY := AX.other GY hpp.symm; have BX2 : Below v4.heap.size v4 X2 := B5.trans (B6.mono B5.size); have BX13 : Below v4.heap.size v4 x13 := LX _ _ BX2 (by omega); have BY : Below v4.heap.size v4 Y := (by rw [hmy.out]; exact (BX13.setCell (p := ⟨_, 0, none⟩) (by show _ <= p6; omega) _).setCell (p := ⟨_, 1, none⟩) (by show _ <= p6; omega) _); have B3Y := B4.trans (BY.mono B4.size); have BUY := Lib.hid (BU3.out.trans (B3Y.mono BU3.out.size)); have ESY := Lib.hid (ES.below BY); have u_0 : Y.cell? ⟨p6, 0, none⟩ = some (.int .i64 ((er : Nat) : Int)) := AY.cell 0; have BLY := Lib.hid (BG3.out.keep (stable_ge _) (keeps_below _ B3Y)); have AWY := Lib.hid (AWH.out.kept B3Y); have AXH := Lib.hid AXY; have w_0 : Y.cell? ⟨bb, 0, none⟩ = some (.string KT) := (A0.out.kept BUY.out).cell 0; have w_1 : Y.cell? ⟨bb, 1, none⟩ = some (.int .i64 e.dots) := (A0.out.kept BUY.out).cell 1; have w_2 : Y.cell? ⟨bb, 2, none⟩ = some (.int .i64 e.blank) := (A0.out.kept BUY.out).cell 2; have w_3 : Y.cell? ⟨bb, 3, none⟩ = some (.int .i64 e.marked) := (A0.out.kept BUY.out).cell 3; have w_4 : Y.cell? ⟨bb, 4, none⟩ = some (.slice s.po s.pn s.pc) := (A0.out.kept BUY.out).cell 4; have w_5 : Y.cell? ⟨bb, 5, none⟩ = some (.slice s.co s.cn s.cc) := (A0.out.kept BUY.out).cell 5; have w_6 : Y.cell? ⟨bb, 6, none⟩ = some (.slice s.so s.sn s.sc) := (A0.out.kept BUY.out).cell 6; have w_7 : Y.cell? ⟨bb, 7, none⟩ = some (.int .i64 e.scanners) := (A0.out.kept BUY.out).cell 7; have w_8 : Y.cell? ⟨bb, 8, none⟩ = some (.int .i64 e.batch) := (A0.out.kept BUY.out).cell 8; have w_9 : Y.cell? ⟨bb, 9, none⟩ = some (.bool e.rneg) := (A0.out.kept BUY.out).cell 9; have w_10 : Y.cell? ⟨bb, 10, none⟩ = some (.slice s.uo s.un s.uc) := (A0.out.kept BUY.out).cell 10; have w_11 : Y.cell? ⟨bb, 11, none⟩ = some (.slice s.dO s.dn s.dc) := (A0.out.kept BUY.out).cell 11; have w_12 : Y.cell? ⟨bb, 12, none⟩ = some (.int .i64 e.cell) := (A0.out.kept BUY.out).cell 12; have w_13 : Y.cell? ⟨bb, 13, none⟩ = some (.string KS) := (A0.out.kept BUY.out).cell 13; have v_0 : Y.cell? ⟨p5, 0, none⟩ = some (.string KT2) := AXY.cell 0; have v_1 : Y.cell? ⟨p5, 1, none⟩ = some (.int .i64 EC.dots) := AXY.cell 1; have v_2 : Y.cell? ⟨p5, 2, none⟩ = some (.int .i64 EC.blank) := AXY.cell 2; have v_3 : Y.cell? ⟨p5, 3, none⟩ = some (.int .i64 EC.marked) := AXY.cell 3; have v_4 : Y.cell? ⟨p5, 4, none⟩ = some (.slice sl.po sl.pn sl.pc) := AXY.cell 4; have v_5 : Y.cell? ⟨p5, 5, none⟩ = some (.slice sl.co sl.cn sl.cc) := AXY.cell 5; have v_6 : Y.cell? ⟨p5, 6, none⟩ = some (.slice sl.so sl.sn sl.sc) := AXY.cell 6; have v_7 : Y.cell? ⟨p5, 7, none⟩ = some (.int .i64 EC.scanners) := AXY.cell 7; have v_8 : Y.cell? ⟨p5, 8, none⟩ = some (.int .i64 EC.batch) := AXY.cell 8; have v_9 : Y.cell? ⟨p5, 9, none⟩ = some (.bool EC.rneg) := AXY.cell 9; have v_10 : Y.cell? ⟨p5, 10, none⟩ = some (.slice sl.uo sl.un sl.uc) := AXY.cell 10; have v_11 : Y.cell? ⟨p5, 11, none⟩ = some (.slice sl.dO sl.dn sl.dc) := AXY.cell 11; have v_12 : Y.cell? ⟨p5, 12, none⟩ = some (.int .i64 EC.cell) := AXY.cell 12; have v_13 : Y.cell? ⟨p5, 13, none⟩ = some (.string KS2) := AXY.cell 13; have HEq : Hid (Calls Tryz.prog 23 #[.agg #[.string KT2, .int .i64 EC.dots, .int .i64 EC.blank, .int .i64 EC.marked, .slice sl.po sl.pn sl.pc, .slice sl.co sl.cn sl.cc, .slice sl.so sl.sn sl.sc, .int .i64 EC.scanners, .int .i64 EC.batch, .bool EC.rneg, .slice sl.uo sl.un sl.uc, .slice sl.dO sl.dn sl.dc, .int .i64 EC.cell, .string KS2], .agg #[.string KT, .int .i64 e.dots, .int .i64 e.blank, .int .i64 e.marked, .slice s.po s.pn s.pc, .slice s.co s.cn s.cc, .slice s.so s.sn s.sc, .int .i64 e.scanners, .int .i64 e.batch, .bool e.rneg, .slice s.uo s.un s.uc, .slice s.dO s.dn s.dc, .int .i64 e.cell, .string KS]] Y fun r w' => r = .returned (.bool true) /\ Below Y.heap.size Y w') := (by have := equal_c EC e sl s Y ESY.out (HE.out Y BUY.out) (hri.out _ sl ESY.out) hrat.out; rw [h5.out] at this; rw [<- hKT.out, <- hKS.out, <- hKT2.out, <- hKS2.out]; exact this); clear ES B4 A5 B5 z5 A6 B6 z6 AX GX LX AY GY BX2 BX13 BY B3Y hpp)
   | (go_at_call 23; (with_reducible refine HEq.out.mono ?_); rintro r v6 ⟨rfl, B6⟩; have BU6 := Lib.hid (BUY.out.trans (B6.mono BUY.out.size)); have AW6 := AWY.out.kept B6; have o_0 : v6.cell? ⟨p4, 0, none⟩ = some (.string KT) := AW6.cell 0; have o_1 : v6.cell? ⟨p4, 1, none⟩ = some (.slice bo bn bc) := AW6.cell 1; obtain ⟨Z, m5, hm5, AZ, q0, q1, q2, q3⟩ := put_box2 (A1.out.kept BU6.out) (.string KT) (.slice bo bn bc); have r0 : Z.cell? ⟨bb + 1, 0, none⟩ = some (.string KT) := AZ.cell 0; have r1 : Z.cell? ⟨bb + 1, 1, none⟩ = some (.slice bo bn bc) := AZ.cell 1; have hfin := src_no hm5 BU6.out HB.out hle.out (A1.out.kept BU6.out); have hblk : Hid (BlkS anyF Z bo bn bc SB) := src_yes hm5 (BLY.out.keep (stable_ge _) (keeps_below _ B6)) (by have := hB1.out.size; have := hbs.out; omega))
   | fail)
 refine bodyPost_ret (v := .tuple #[.agg #[.string KT, .slice bo bn bc], .bool true]) (by simp [results, Tryz.results18, go_sem, r0, r1]) rfl ?_
 exact ⟨bo, bn, bc, rfl, hblk.out, by first | exact hfin.out | (rw [<- hbb]; exact hfin.out)⟩
theorem source_c (e : Elc) (s : ESl) (w : World) (h : ElcS anyF w e s) (hok : SrcOk e s) (hT : Tabs w) : Calls Tryz.prog 18 #[eV e s] w fun r w' => ∃ bo bn bc, r = .returned (.tuple #[.agg #[.string (stg (if srcB e then e.title else [])), .slice bo bn bc], .bool (srcB e)]) /\ BlkS anyF w' bo bn bc (if srcB e then (descS e (riskT e)).blks else []) /\ Below w.heap.size w w' := by
 have no : srcB e = false -> (Calls Tryz.prog 18 #[eV e s] w fun r w' => r = .returned (.tuple #[.agg #[.string ⟨#[]⟩, .slice none 0 0], .bool false]) /\ Below w.heap.size w w') -> Calls Tryz.prog 18 #[eV e s] w fun r w' => ∃ bo bn bc, r = .returned (.tuple #[.agg #[.string (stg (if srcB e then e.title else [])), .slice bo bn bc], .bool (srcB e)]) /\ BlkS anyF w' bo bn bc (if srcB e then (descS e (riskT e)).blks else []) /\ Below w.heap.size w w' := fun hb hc => by
  rw [hb]
  refine hc.mono ?_
  rintro r w' ⟨rfl, hB⟩
  exact ⟨none, 0, 0, rfl, ⟨[], Row.nilS 4 w', rfl⟩, hB⟩
 by_cases h1 : e.rnum.length = 1
 . by_cases h2 : e.rden.length = 1
   . rcases Bool.eq_false_or_eq_true (Q.validR e.rneg e.rnum e.rden) with h3 | h3
     . by_cases h4 : (compS (descS e (riskT e))).1.1 = 0
       . rcases Bool.eq_false_or_eq_true (eqE (compS (descS e (riskT e))).2 e) with h5 | h5
         . have hb : srcB e = true := by simp [srcB, h1, h2, h3, h4, h5]
           rw [hb]
           exact source_ok e s w h hok hT h1 h2 h3 h4 h5
         . exact no (by simp [srcB, h5]) (source_ne e s w h hok hT h1 h2 h3 h4 h5)
       . exact no (by simp [srcB, h4]) (source_err e s w h hok hT h1 h2 h3 h4)
     . exact no (by simp [srcB, h3]) (source_noc e s w h hok hT h1 h2 h3)
   . exact no (by simp [srcB, h2]) (source_nob e s w h hok hT h1 h2)
 . exact no (by simp [srcB, h1]) (source_noa e s w h hok hT h1)
end Go.Proofs.YtemdkkphmldgjaaGreatDoor
