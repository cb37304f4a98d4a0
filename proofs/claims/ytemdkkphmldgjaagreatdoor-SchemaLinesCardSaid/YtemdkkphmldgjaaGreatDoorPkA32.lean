/-
  Texts of the proof, put together: SchVld SchStO LexAllP SynOut.
-/
import Derived.Test.YtemdkkphmldgjaaGreatDoorPkA3
import Derived.Test.YtemdkkphmldgjaaGreatDoorPkA4
import Derived.Test.YtemdkkphmldgjaaGreatDoorPkA16
import Derived.Test.YtemdkkphmldgjaaGreatDoorPkA24
import Derived.Test.YtemdkkphmldgjaaGreatDoorPkA31
set_option maxRecDepth 100000
set_option maxHeartbeats 51200000
namespace Go.Proofs.YtemdkkphmldgjaaGreatDoor
open Go.RowKit Lx
theorem valid_s (e : Elc) (s : ESl) (w : World) (h : ElcS anyF w e s) (hok : SrcOk e s) (hT : Tabs w) : Calls Tryz.prog 20 #[eV e s] w fun r w' => r = .returned (.bool (srcB e)) /\ Below w.heap.size w w' := by
 show Calls Tryz.prog 20 #[.agg #[.string (stg e.title), .int .i64 e.dots, .int .i64 e.blank, .int .i64 e.marked, .slice s.po s.pn s.pc, .slice s.co s.cn s.cc, .slice s.so s.sn s.sc, .int .i64 e.scanners, .int .i64 e.batch, .bool e.rneg, .slice s.uo s.un s.uc, .slice s.dO s.dn s.dc, .int .i64 e.cell, .string (stg e.seed)]] w _
 obtain ⟨V, e1, AV, BV, hz⟩ := new_box w 34 [.string (stg e.title), .int .i64 e.dots, .int .i64 e.blank, .int .i64 e.marked, .slice s.po s.pn s.pc, .slice s.co s.cn s.cc, .slice s.so s.sn s.sc, .int .i64 e.scanners, .int .i64 e.batch, .bool e.rneg, .slice s.uo s.un s.uc, .slice s.dO s.dn s.dc, .int .i64 e.cell, .string (stg e.seed)]
 obtain ⟨KT, hKT⟩ : ∃ K, Hid (stg e.title = K) := ⟨_, rfl⟩
 obtain ⟨KS, hKS⟩ : ∃ K, Hid (stg e.seed = K) := ⟨_, rfl⟩
 have HS : Hid (Calls Tryz.prog 18 #[eV e s] V fun r w' => ∃ bo bn bc, r = .returned (.tuple #[.agg #[.string (stg (if srcB e then e.title else [])), .slice bo bn bc], .bool (srcB e)]) /\ BlkS anyF w' bo bn bc (if srcB e then (descS e (riskT e)).blks else []) /\ Below V.heap.size V w') := source_c e s V (h.below BV) hok (hT.below BV)
 obtain ⟨T, hTt⟩ : ∃ T, Hid (stg (if srcB e then e.title else []) = T) := ⟨_, rfl⟩
 rw [show eV e s = .agg #[.string (stg e.title), .int .i64 e.dots, .int .i64 e.blank, .int .i64 e.marked, .slice s.po s.pn s.pc, .slice s.co s.cn s.cc, .slice s.so s.sn s.sc, .int .i64 e.scanners, .int .i64 e.batch, .bool e.rneg, .slice s.uo s.un s.uc, .slice s.dO s.dn s.dc, .int .i64 e.cell, .string (stg e.seed)] from rfl, hTt.out, hKT.out, hKS.out] at HS
 rw [hKT.out, hKS.out] at e1 AV
 rw [hKT.out, hKS.out]
 obtain ⟨bb, hbb⟩ : ∃ b, w.heap.size = b := ⟨_, rfl⟩
 rw [hbb] at AV hz
 have hBV : Hid (Below w.heap.size w V) := BV
 have A0 := Lib.hid AV
 have y_0 : V.cell? ⟨bb, 0, none⟩ = some (.string KT) := A0.out.cell 0
 have y_1 : V.cell? ⟨bb, 1, none⟩ = some (.int .i64 e.dots) := A0.out.cell 1
 have y_2 : V.cell? ⟨bb, 2, none⟩ = some (.int .i64 e.blank) := A0.out.cell 2
 have y_3 : V.cell? ⟨bb, 3, none⟩ = some (.int .i64 e.marked) := A0.out.cell 3
 have y_4 : V.cell? ⟨bb, 4, none⟩ = some (.slice s.po s.pn s.pc) := A0.out.cell 4
 have y_5 : V.cell? ⟨bb, 5, none⟩ = some (.slice s.co s.cn s.cc) := A0.out.cell 5
 have y_6 : V.cell? ⟨bb, 6, none⟩ = some (.slice s.so s.sn s.sc) := A0.out.cell 6
 have y_7 : V.cell? ⟨bb, 7, none⟩ = some (.int .i64 e.scanners) := A0.out.cell 7
 have y_8 : V.cell? ⟨bb, 8, none⟩ = some (.int .i64 e.batch) := A0.out.cell 8
 have y_9 : V.cell? ⟨bb, 9, none⟩ = some (.bool e.rneg) := A0.out.cell 9
 have y_10 : V.cell? ⟨bb, 10, none⟩ = some (.slice s.uo s.un s.uc) := A0.out.cell 10
 have y_11 : V.cell? ⟨bb, 11, none⟩ = some (.slice s.dO s.dn s.dc) := A0.out.cell 11
 have y_12 : V.cell? ⟨bb, 12, none⟩ = some (.int .i64 e.cell) := A0.out.cell 12
 have y_13 : V.cell? ⟨bb, 13, none⟩ = some (.string KS) := A0.out.cell 13
 clear h hok hT AV BV
 go_enter Tryz.func20, Tryz.ntmps20
 go_wp2_with (go_at_call 18; (with_reducible refine HS.out.mono ?_); rintro r v2 ⟨bo, bn, bc, rfl, BL, B2⟩; obtain ⟨V3, W3, f1, f2, AW, BW, zW, g0, g1, g2, g3⟩ := new_put2 v2 24 (.string ⟨#[]⟩) (.slice none 0 0) (.string T) (.slice bo bn bc); obtain ⟨p4, hp4⟩ : ∃ p, v2.heap.size = p := ⟨_, rfl⟩; rw [hp4] at f2 AW g0 g1 g2 g3; have hfin : Hid (Below w.heap.size w W3) := (have B12 := hBV.out.trans (B2.mono hBV.out.size); B12.trans (BW.mono B12.size)))
 refine bodyPost_ret (v := .bool (srcB e)) (by simp [results, Tryz.results20, go_sem]) rfl ?_
 exact ⟨rfl, by first | exact hfin.out | (rw [<- hbb]; exact hfin.out)⟩
end Go.Proofs.YtemdkkphmldgjaaGreatDoor
namespace Go.Proofs.YtemdkkphmldgjaaGreatDoor
open Go.RowKit Lx
namespace Lx
def idxP {α : Type} (q : α -> Bool) : List α -> Option Nat
  | [] => none
  | x :: r => if q x = true then some 0 else (idxP q r).map (· + 1)
def idxQ {α : Type} (q : α -> Bool) (xs : List α) : Int := match idxP q xs with
 | some i => i
 | none => -1
theorem idxP_some {α : Type} {q : α -> Bool} : ∀ {xs : List α} {j : Nat} {x : α}, xs[j]? = some x -> q x = true -> (∀ (t : Nat) y, t < j -> xs[t]? = some y -> q y = false) -> idxP q xs = some j
  | [], j, x, h, _, _ => by simp at h
  | u :: r, 0, x, h, hk, _ => by
   have : u = x := by simpa using h
   subst this
   rw [idxP, if_pos hk]
  | u :: r, j + 1, x, h, hk, hz => by
   have hu : ¬ q u = true := by rw [hz 0 u (by omega) (by simp)]; simp
   rw [idxP, if_neg hu, idxP_some (xs := r) (j := j) (by simpa using h) hk (fun t g ht hg => hz (t + 1) g (by omega) (by simpa using hg))]
   rfl
theorem idxP_none {α : Type} {q : α -> Bool} : ∀ {xs : List α}, (∀ (t : Nat) y, xs[t]? = some y -> q y = false) -> idxP q xs = none
  | [], _ => rfl
  | u :: r, hz => by
   have hu : ¬ q u = true := by rw [hz 0 u (by simp)]; simp
   rw [idxP, if_neg hu, idxP_none (xs := r) (fun t g hg => hz (t + 1) g (by simpa using hg))]
   rfl
theorem idxQ_some {α : Type} {q : α -> Bool} {xs : List α} {j : Nat} {x : α} (h : xs[j]? = some x) (hq : q x = true) (hz : ∀ (t : Nat) y, t < j -> xs[t]? = some y -> q y = false) : idxQ q xs = (j : Int) := by
 unfold idxQ
 rw [idxP_some h hq hz]
theorem idxQ_none {α : Type} {q : α -> Bool} {xs : List α} (hz : ∀ (t : Nat) y, xs[t]? = some y -> q y = false) : idxQ q xs = -1 := by
 unfold idxQ
 rw [idxP_none hz]
theorem idxP_any {α : Type} {q : α -> Bool} : ∀ (xs : List α), (idxP q xs).isSome = xs.any q
  | [] => rfl
  | u :: r => by
   rw [idxP, List.any_cons]
   by_cases hu : q u = true
   . rw [if_pos hu, hu]; rfl
   . rw [if_neg hu, Option.isSome_map, idxP_any r, Bool.eq_false_iff.2 hu, Bool.false_or]
theorem idxQ_any {α : Type} (q : α -> Bool) (xs : List α) : decide (idxQ q xs >= 0) = xs.any q := by
 rw [<- idxP_any]
 unfold idxQ
 cases h : idxP q xs with
 | none => rfl
 | some j =>
  show decide ((j : Int) >= 0) = true
  exact decide_eq_true (by omega)
def hasP (p : Int) (x : Sty) : Bool := x.precs.any (fun y => decide (y = p))
def styOf (xs : List Sty) (p : Int) : Int := idxQ (hasP p) xs
end Lx
theorem iIndex_c {S : World -> Nat -> Prop} (vs : List Int) (x : Int) (ao : Option Addr) (n c : Nat) (w : World) (h : IntL .i64 S w ao n c vs) :
    Calls Tryz.prog 109 #[.slice ao n c, .int .i64 x] w fun e w' => e = .returned (.int .i64 (idxQ (fun y => decide (y = x)) vs)) /\ w = w' := by
 have hcap := Row.cap h
 have hroom := Row.room h
 have hlen := Lib.hid (IntL.len h)
 have H := Lib.hid h
 clear h
 go_enter Tryz.func109, Tryz.ntmps109
 go_wp2_with fail
 go_loopw [8] (fun i wr => ∃ j : Nat, j <= n /\ i = .int .i64 (j : Int) /\ w = wr /\ Hid (∀ (t : Nat) y, t < j -> vs[t]? = some y -> decide (y = x) = false)) (fun i _ => n - (intOf i).toNat)
 case atStart => exact ⟨0, Nat.zero_le _, rfl, rfl, fun t y ht => absurd ht (by omega)⟩
 case round =>
  obtain ⟨j, hj, rfl, rfl, HZ⟩ := hrel
  by_cases hlt : j < n
  . have hlt' : (j : Int) < (n : Int) := by omega
    obtain ⟨v, a, hv, i1, c1⟩ := IntL.get Tryz.underlying58 (show (Tryz.prog.info? 3).map (·.size) = some 1 by kernel_rfl) H.out j hlt
    have hv := Lib.hid hv
    by_cases hxv : x = v
    . have hb : (x == v) = true := by rw [hxv]; exact beq_self_eq_true v
      have hb2 : (v == x) = true := by rw [hxv]; exact beq_self_eq_true v
      have hR : Hid (idxQ (fun y => decide (y = x)) vs = (j : Int)) := idxQ_some hv.out (decide_eq_true hxv.symm) HZ.out
      clear hxv
      go_wp2_with fail
      go_ret
      exact ⟨by rw [hR.out]; rfl, rfl⟩
    . have hb : (x == v) = false := beq_eq_false_iff_ne.2 hxv
      have hb2 : (v == x) = false := beq_eq_false_iff_ne.2 (Ne.symm hxv)
      have HZ2 : Hid (∀ (t : Nat) y, t < j + 1 -> vs[t]? = some y -> decide (y = x) = false) := by
       intro t y ht e
       by_cases h1 : t = j
       . rw [h1, hv.out] at e
         injection e with e
         rw [<- e]
         exact decide_eq_false (Ne.symm hxv)
       . exact HZ.out t y (by omega) e
      clear hxv
      go_wp2_with fail
      go_roundw
      case rel => exact ⟨j + 1, by omega, by go_num, by trivial, HZ2⟩
      case measure => simp [intOf]; omega
  . have hlt' : ¬ (j : Int) < (n : Int) := by omega
    have hR : Hid (idxQ (fun y => decide (y = x)) vs = -1) := idxQ_none fun t y e => by
     have := (List.getElem?_eq_some_iff.1 e).1
     have := hlen.out
     exact HZ.out t y (by omega) e
    go_wp2_with fail
    go_ret
    exact ⟨by rw [hR.out]; rfl, rfl⟩
theorem iContains_c {S : World -> Nat -> Prop} (vs : List Int) (x : Int) (ao : Option Addr) (n c : Nat) (w : World) (h : IntL .i64 S w ao n c vs) :
    Calls Tryz.prog 58 #[.slice ao n c, .int .i64 x] w fun e w' => e = .returned (.bool (vs.any fun y => decide (y = x))) /\ w = w' := by
 have HI := Lib.hid (iIndex_c vs x ao n c w h)
 have HG := Lib.hid (idxQ_any (fun y => decide (y = x)) vs)
 obtain ⟨R, hR⟩ : ∃ R, Hid (idxQ (fun y => decide (y = x)) vs = R) := ⟨_, rfl⟩
 rw [hR.out] at HI HG
 clear h
 go_enter Tryz.func58, Tryz.ntmps58
 go_wp2_with fail
 refine HI.out.mono ?_
 rintro e w1 ⟨rfl, rfl⟩
 go_wp2_with fail
 go_ret
 exact ⟨by rw [<- HG.out]; rfl, rfl⟩
theorem sty1_c (f : Sty) (x : Int) (po ko : Option Addr) (pn pc kn kc p : Nat) (w : World) (hp : w.cell? ⟨p, 0, none⟩ = some (.int .i64 x)) (h : IntL .i64 anyF w po pn pc f.precs) :
    Calls Tryz.prog 57 #[.agg #[.string (stg f.name), .slice po pn pc, .slice ko kn kc], .pointer (some ⟨p, 0, none⟩)] w fun e w' => e = .returned (.bool (hasP x f)) /\ Below w.heap.size w w' := by
 obtain ⟨V, e1, AV, BV, hz⟩ := new_box w 60 [.string (stg f.name), .slice po pn pc, .slice ko kn kc]
 have HC : Hid (Calls Tryz.prog 58 #[.slice po pn pc, .int .i64 x] V fun e w' => e = .returned (.bool (hasP x f)) /\ V = w') := iContains_c f.precs x po pn pc V (Row.keep h stable_any (keeps_below _ BV))
 obtain ⟨K, hK⟩ : ∃ K, stg f.name = K := ⟨_, rfl⟩
 rw [hK] at e1 AV |-
 have y0 : V.cell? ⟨w.heap.size, 1, none⟩ = some (.slice po pn pc) := AV.cell 1
 have y1 : V.cell? ⟨p, 0, none⟩ = some (.int .i64 x) := (World.cell?_of_block (BV.block _ (World.block_lt_of_cell? w _ hp))).trans hp
 have HB := Lib.hid BV
 clear AV BV hz hK hp h
 go_enter Tryz.func57, Tryz.ntmps57
 go_wp2_with (go_at_call 58; (with_reducible refine HC.out.mono ?_); rintro e w1 ⟨rfl, rfl⟩)
 go_ret
 exact ⟨rfl, HB.out⟩
theorem sty1Func_c (fs : List Sty) (k : Int) (p : Nat) (ao : Option Addr) (n c : Nat) (w : World) (h : StyS anyF w ao n c fs) (hp : w.cell? ⟨p, 0, none⟩ = some (.int .i64 k)) :
    Calls Tryz.prog 56 #[.slice ao n c, .func (.func 57) #[] #[.pointer (some ⟨p, 0, none⟩)]] w fun e w' => e = .returned (.int .i64 (styOf fs k)) /\ Below w.heap.size w w' := by
 have hcap : n <= c := by obtain ⟨us, hr, _⟩ := h; exact hr.cap
 have hroom : c <= 9223372036854775807 := by obtain ⟨us, hr, _⟩ := h; exact hr.room
 have hlen := Lib.hid h.len
 have H := Lib.hid h
 have HP := Lib.hid hp
 have hpb : Hid (p < w.heap.size) := World.block_lt_of_cell? w _ hp
 clear h hp
 go_enter Tryz.func56, Tryz.ntmps56
 go_wp2_with fail
 go_loopw [8] (fun i wr => ∃ j : Nat, j <= n /\ i = .int .i64 (j : Int) /\ Below w.heap.size w wr /\ Hid (∀ (t : Nat) g, t < j -> fs[t]? = some g -> hasP k g = false)) (fun i _ => n - (intOf i).toNat)
 case atStart => exact ⟨0, Nat.zero_le _, rfl, Below.refl _ _, fun t g ht => absurd ht (by omega)⟩
 case round =>
  obtain ⟨j, hj, rfl, B, HZ⟩ := hrel
  have B := Lib.hid B
  by_cases hlt : j < n
  . have hlt' : (j : Int) < (n : Int) := by omega
    obtain ⟨f, a, po, ko, pn, pc, kn, kc, hf, i1, c0, c1, c2, SP, SK⟩ := (StyS.keep H.out stable_any (keeps_below _ B.out)).get j hlt
    have HC := Lib.hid (sty1_c f k po ko pn pc kn kc p wr ((B.out.cell (p := ⟨p, 0, none⟩) hpb.out).trans HP.out) SP)
    have hf := Lib.hid hf
    clear SP SK
    rcases Bool.eq_false_or_eq_true (hasP k f) with hk | hk
    . rw [hk] at HC
      have hR : Hid (styOf fs k = (j : Int)) := idxQ_some hf.out hk HZ.out
      obtain ⟨K, hK⟩ : ∃ K, Hid (stg f.name = K) := ⟨_, rfl⟩
      rw [hK.out] at c0 HC
      clear hk
      go_wp2_with fail
      refine HC.out.mono ?_
      rintro e w1 ⟨rfl, B1⟩
      replace B1 : Hid (Below w.heap.size w w1) := B.out.trans (B1.mono B.out.size)
      clear HC c0 c1 c2 i1
      go_wp2_with fail
      go_ret
      exact ⟨by rw [hR.out]; rfl, B1.out⟩
    . rw [hk] at HC
      have HZ2 : Hid (∀ (t : Nat) g, t < j + 1 -> fs[t]? = some g -> hasP k g = false) := by
       intro t g ht e
       by_cases h1 : t = j
       . rw [h1, hf.out] at e
         injection e with e
         rw [<- e]
         exact hk
       . exact HZ.out t g (by omega) e
      obtain ⟨K, hK⟩ : ∃ K, Hid (stg f.name = K) := ⟨_, rfl⟩
      rw [hK.out] at c0 HC
      clear hk
      go_wp2_with fail
      refine HC.out.mono ?_
      rintro e w1 ⟨rfl, B1⟩
      replace B1 : Hid (Below w.heap.size w w1) := B.out.trans (B1.mono B.out.size)
      clear HC c0 c1 c2 i1
      go_wp2_with fail
      go_roundw
      case rel => exact ⟨j + 1, by omega, by go_num, B1.out, HZ2⟩
      case measure => simp [intOf]; omega
  . have hlt' : ¬ (j : Int) < (n : Int) := by omega
    have hR : Hid (styOf fs k = -1) := idxQ_none fun t g e => HZ.out t g (by have := (List.getElem?_eq_some_iff.1 e).1; have := hlen.out; omega) e
    go_wp2_with fail
    go_ret
    exact ⟨by rw [hR.out]; rfl, B.out⟩
theorem styleOf_c (e : Elc) (s : ESl) (p : Int) (w : World) (h : ElcS anyF w e s) :
    Calls Tryz.prog 25 #[eV e s, .int .i64 p] w fun r w' => r = .returned (.int .i64 (styOf e.stys p)) /\ Below w.heap.size w w' := by
 show Calls Tryz.prog 25 #[.agg #[.string (stg e.title), .int .i64 e.dots, .int .i64 e.blank, .int .i64 e.marked, .slice s.po s.pn s.pc, .slice s.co s.cn s.cc, .slice s.so s.sn s.sc, .int .i64 e.scanners, .int .i64 e.batch, .bool e.rneg, .slice s.uo s.un s.uc, .slice s.dO s.dn s.dc, .int .i64 e.cell, .string (stg e.seed)], .int .i64 p] w _
 obtain ⟨V, e1, AV, BV, hz⟩ := new_box w 34 [.string (stg e.title), .int .i64 e.dots, .int .i64 e.blank, .int .i64 e.marked, .slice s.po s.pn s.pc, .slice s.co s.cn s.cc, .slice s.so s.sn s.sc, .int .i64 e.scanners, .int .i64 e.batch, .bool e.rneg, .slice s.uo s.un s.uc, .slice s.dO s.dn s.dc, .int .i64 e.cell, .string (stg e.seed)]
 obtain ⟨U, e2, AU, BU, hz2⟩ := new_box V 3 [.int .i64 p]
 have HF := Lib.hid (sty1Func_c e.stys p V.heap.size s.so s.sn s.sc U ((h.below BV).below BU).stys (AU.cell 0))
 have y0 : U.cell? ⟨w.heap.size, 6, none⟩ = some (.slice s.so s.sn s.sc) := (AV.kept BU).cell 6
 rw [hz] at HF
 obtain ⟨K, hK⟩ : ∃ K, Hid (stg e.title = K) := ⟨_, rfl⟩
 obtain ⟨N, hN⟩ : ∃ K, Hid (stg e.seed = K) := ⟨_, rfl⟩
 rw [hK.out, hN.out] at e1
 rw [hK.out, hN.out]
 have HB : Hid (Below w.heap.size w U) := BV.trans (BU.mono BV.size)
 clear h AV AU BV BU hz2
 go_enter Tryz.func25, Tryz.ntmps25
 go_wp2_with fail
 refine HF.out.mono ?_
 rintro e w1 ⟨rfl, B1⟩
 replace B1 : Hid (Below w.heap.size w w1) := HB.out.trans (B1.mono HB.out.size)
 clear HF
 go_wp2_with fail
 go_ret
 exact ⟨rfl, B1.out⟩
end Go.Proofs.YtemdkkphmldgjaaGreatDoor
namespace Go.Proofs.YtemdkkphmldgjaaGreatDoor
open Go.RowKit Lx
namespace Lx
def allS (s : ByteArray) : Option Res := if s.size > 20000 then none else some (lexS (bys s) 1)
def lenS : Value -> Nat
  | .string x => x.size
  | _ => 0
theorem Res.app_snoc (ts : List Tok) (t : Tok) (r : Res) : Res.app ts (r.cons t) = Res.app (ts ++ [t]) r := by cases r <;> simp [Res.app, Res.cons]
end Lx
theorem all_c (s : ByteArray) (w : World) (hs : s.size <= 1000000) :
    Calls Tryz.prog 38 #[.string s] w fun e w' => AllOut w.heap.size (allS s) w' e /\ Below w.heap.size w w' := by
 obtain ⟨R, hR⟩ : ∃ R, Hid (lexS (bys s) 1 = R) := ⟨_, rfl⟩
 obtain ⟨V, hV⟩ : ∃ V, Hid (V = w.alloc (.cells #[.int .i64 0, .int .i64 0] 37)) := ⟨_, rfl⟩
 have AV : Hid (Arr V w.heap.size 37 [.int .i64 0, .int .i64 0]) := by show Arr _ _ _ _; rw [hV.out]; exact Arr.new w _ _
 have BV : Hid (Below w.heap.size w V) := by show Below _ _ _; rw [hV.out]; exact (Below.refl _ _).alloc (Nat.le_refl _) _
 have zV : Hid (V.heap.size = w.heap.size + 1) := by show _ = _; rw [hV.out]; simp
 by_cases hbig : s.size > 20000
 . have hbig' : (s.size : Int) > 20000 := by omega
   have hA : Hid (Arr (w.alloc (.cells #[.int .i64 7, .int .i64 0] 37)) w.heap.size 37 [.int .i64 7, .int .i64 0]) := Arr.new w _ _
   have hB : Hid (Below w.heap.size w (w.alloc (.cells #[.int .i64 7, .int .i64 0] 37))) := (Below.refl _ _).alloc (Nat.le_refl _) _
   have hall : Hid (allS s = none) := if_pos hbig
   go_enter Tryz.func38, Tryz.ntmps38
   go_wp2_with fail
   have r0 := hA.out.cell 0
   have r1 := hA.out.cell 1
   refine bodyPost_ret (v := .tuple #[.slice none 0 0, .agg #[.int .i64 7, .int .i64 0]]) (by simp [results, Tryz.results38, go_sem, r0, r1]) rfl ?_
   exact ⟨⟨none, 0, 0, 7, 0, rfl, by rw [hall.out]; exact ⟨rfl, rfl, rfl, rfl, rfl⟩⟩, hB.out⟩
 . have hbig' : ¬ (s.size : Int) > 20000 := by omega
   have hall : Hid (allS s = some R) := by show _ = _; rw [<- hR.out]; exact if_neg hbig
   have hs2 : s.size <= 20000 := by omega
   clear hbig
   go_enter Tryz.func38, Tryz.ntmps38
   go_wp2_with fail
   rw [<- hV.out]
   go_loopw [4, 5, 6] (fun v lv rv wr => ∃ (a : Option Addr) (n c L : Nat) (S : ByteArray) (ts : List Tok), v = .slice a n c /\ lv = .int .i64 (L : Int) /\ rv = .string S /\ n + S.size <= s.size /\ L + S.size <= s.size + 1 /\ TokOwn (w.heap.size + 1) wr a n c ts /\ Arr wr w.heap.size 37 [.int .i64 0, .int .i64 0] /\ Hid (R = Res.app ts (lexS (bys S) L)) /\ Below w.heap.size w wr /\ w.heap.size + 1 <= wr.heap.size) (fun _ _ rv _ => lenS rv)
   case atStart => exact ⟨none, 0, 0, 1, s, [], rfl, rfl, rfl, by omega, by omega, TokOwn.nil _ _, AV.out, by show _ = _; rw [hR.out, Res.app_nil], BV.out, by rw [zV.out]; exact Nat.le_refl _⟩
   case round =>
    clear AV BV zV
    obtain ⟨a, n, c, L, S, ts, rfl, rfl, rfl, hn, hL, O, A, hI, B, zB⟩ := hrel
    have HO := Lib.hid O
    have HA := Lib.hid A
    have HB := Lib.hid B
    have hSs : S.size <= 1000000 := by omega
    have HK := blankLength_c S wr hSs
    obtain ⟨k, hk⟩ : ∃ k, Hid (blN false (bys S) = k) := ⟨_, rfl⟩
    have hkl := blN_le (bys S) false
    rw [hk.out, bys_len] at hkl
    rw [hk.out] at HK
    have HK := Lib.hid HK
    have HC := count_c (S.extract 0 k) wr
    rw [bys_pre] at HC
    obtain ⟨m, hm⟩ : ∃ m, Hid (nlN ((bys S).take k) = m) := ⟨_, rfl⟩
    have hml := nlN_le ((bys S).take k)
    rw [List.length_take, bys_len] at hml
    rw [hm.out] at HC hml
    have HC := Lib.hid HC
    obtain ⟨S1, hS1⟩ : ∃ S1, Hid (S.extract k S.size = S1) := ⟨_, rfl⟩
    have hS1e := hS1.out
    have hS1s : S1.size + k = S.size := by rw [<- hS1e, ByteArray.size_extract]; omega
    have hS1b : Hid (bys S1 = (bys S).drop k) := by show _ = _; rw [<- hS1e]; exact bys_sub S k
    have hJ : Hid (R = Res.app ts (lexS (bys S1) (L + m))) := by
     show _ = _
     rw [hI.out, lexS_skip (bys S) L, hk.out, hm.out, hS1b.out]
    have c1 : (0 : Int) <= (k : Int) := by omega
    have c2 : (k : Int) <= (S.size : Int) := by omega
    have c5 : IntKind.i64.wrap ((L : Int) + (m : Int)) = ((L + m : Nat) : Int) := by rw [IntWalk.i64_in _ (by omega)]; omega
    obtain ⟨L1, hL1⟩ : ∃ L1, Hid (L + m = L1) := ⟨_, rfl⟩
    have hL1e := hL1.out
    rw [hL1e] at c5 hJ
    have hL1b : L1 + S1.size <= s.size + 1 := by omega
    clear hI O A B
    by_cases h0 : S1.size = 0
    . have e0 : S1 = ⟨#[]⟩ := size_zero h0
      have t0 : S1.toList = [] := by rw [toList_bys, e0]; rfl
      have hN : Hid (R = .ok ts L1) := by show _ = _; rw [hJ.out, bys_zero h0, lexS_nil]; simp [Res.app]
      clear h0 e0 hJ
      go_wp2_with fail
      refine HK.out.mono ?_
      rintro e w' ⟨rfl, rfl⟩
      go_wp2_with fail
      refine HC.out.mono ?_
      rintro e w' ⟨rfl, rfl⟩
      go_wp2_with (at_builtin; refine wpList_appT (t := ⟨5, [], L1⟩) (B := w.heap.size + 1) HO.out zB (by omega) rfl rfl rfl rfl rfl ?_)
      intro a2 d2 w2 O2 b2
      have A2 := HA.out.below b2 (Nat.lt_succ_self _)
      obtain ⟨r0, r1, r2, r3⟩ := A2.store2 (.int .i64 0)
      have A3 := Lib.hid (A2.put2 (.int .i64 0) (.int .i64 0))
      have O3 := Lib.hid (O2.put2 (Nat.lt_succ_self _) (.int .i64 0) (.int .i64 0))
      have B3 := Lib.hid (below_put2 (HB.out.trans (b2.mono (Nat.le_succ _))) (Nat.le_refl _) (.int .i64 0) (.int .i64 0))
      clear A2 O2 b2
      go_wp2_with fail
      have q0 := A3.out.cell 0
      have q1 := A3.out.cell 1
      unfold put2 at q0 q1
      refine bodyPost_ret (v := .tuple #[.slice a2 (n + 1) d2, .agg #[.int .i64 0, .int .i64 0]]) (by simp [results, Tryz.results38, go_sem, q0, q1]) rfl ?_
      exact ⟨⟨a2, n + 1, d2, 0, 0, rfl, by rw [hall.out, hN.out]; exact ⟨rfl, rfl, O3.out.lower (Nat.le_succ _)⟩⟩, B3.out⟩
    . have h0p : 0 < S1.size := by omega
      obtain ⟨c0, hc0, _, hne⟩ := at_0 S1 h0p
      have hie : S1.toList.isEmpty = false := by rw [List.isEmpty_eq_false_iff]; exact hne
      have hhead := blN_head (bys S) false c0 ((bys S1).drop 1) (by rw [hk.out, <- hS1b.out]; exact hc0.out)
      have HF := first_c S1 wr (by omega) h0p
      have hone : Hid (R = Res.app ts (match oneS (bys S1) with
       | none => .err L1
       | some x => (lexS ((bys S1).drop x.2.2) L1).cons ⟨x.1, x.2.1, L1⟩)) := by
       show _ = _
       rw [hJ.out]
       congr 1
       have := lexS_tok (r := (bys S1).drop 1) hhead L1
       rwa [<- hc0.out] at this
      have hlen := fun x => oneS_len c0 ((bys S1).drop 1) x
      rw [<- hc0.out, bys_len] at hlen
      have hposx := fun x => oneS_pos (bys S1) x
      clear h0 hJ hhead hc0
      cases hX : oneS (bys S1) with
      | none =>
       rw [hX] at HF hone
       have HF := Lib.hid HF
       have hN : Hid (R = .err L1) := hone.out
       clear hone hlen hposx hX
       go_wp2_with fail
       refine HK.out.mono ?_
       rintro e w' ⟨rfl, rfl⟩
       go_wp2_with fail
       refine HC.out.mono ?_
       rintro e w' ⟨rfl, rfl⟩
       go_wp2_with fail
       refine HF.out.mono ?_
       rintro e w1 ⟨⟨kk, tt, nn, rfl, hn0⟩, B1⟩
       have hn0' : nn = 0 := hn0
       have k0 : ((nn : Int) == 0) = true := by simp; omega
       have A2 := HA.out.kept B1
       obtain ⟨r0, r1, r2, r3⟩ := A2.store2 (.int .i64 1)
       have A3 := Lib.hid (A2.put2 (.int .i64 1) (.int .i64 (L1 : Int)))
       have B3 := Lib.hid (below_put2 (HB.out.trans (B1.mono (by omega))) (Nat.le_refl w.heap.size) (.int .i64 1) (.int .i64 (L1 : Int)))
       clear A2 B1 hn0 hn0'
       go_wp2_with fail
       have q0 := A3.out.cell 0
       have q1 := A3.out.cell 1
       unfold put2 at q0 q1
       refine bodyPost_ret (v := .tuple #[.slice none 0 0, .agg #[.int .i64 1, .int .i64 (L1 : Int)]]) (by simp [results, Tryz.results38, go_sem, q0, q1]) rfl ?_
       exact ⟨⟨none, 0, 0, 1, L1, rfl, by rw [hall.out, hN.out]; exact ⟨rfl, rfl, rfl, rfl, rfl⟩⟩, B3.out⟩
      | some x =>
       rw [hX] at HF hone
       have HF := Lib.hid HF
       have hx1 := hposx x hX
       have hx2 := hlen x hX
       obtain ⟨xk, xt, xn⟩ := x
       have hN : Hid (R = Res.app (ts ++ [⟨xk, xt, L1⟩]) (lexS ((bys S1).drop xn) L1)) := by
        show _ = _
        rw [hone.out]
        exact Res.app_snoc _ _ _
       clear hone hlen hposx hX
       simp only at hx1 hx2
       go_wp2_with fail
       refine HK.out.mono ?_
       rintro e w' ⟨rfl, rfl⟩
       go_wp2_with fail
       refine HC.out.mono ?_
       rintro e w' ⟨rfl, rfl⟩
       go_wp2_with fail
       refine HF.out.mono ?_
       rintro e w1 ⟨⟨kk, tt, nn, rfl, hh1, hh2, hh3⟩, B1⟩
       have hh3n : nn = xn := hh3
       have hh3' := Lib.hid hh3n
       have hnn1 : 1 <= nn := by omega
       have hnn2 : nn <= S1.size := by omega
       have hh1' : Hid ((kk : Int) = (((⟨xk, xt, L1⟩ : Tok).kind : Nat) : Int)) := by show (kk : Int) = (xk : Int); rw [show kk = xk from hh1]
       have hh2' := Lib.hid hh2
       have k0 : ((nn : Int) == 0) = false := by rw [beq_eq_false_iff_ne]; omega
       have d1 : (0 : Int) <= (nn : Int) := by omega
       have d2 : (nn : Int) <= (S1.size : Int) := by omega
       have z1 := B1.size
       have zB1 : w.heap.size + 1 <= w1.heap.size := by omega
       have O1 := Lib.hid (HO.out.keep B1)
       have A1 := Lib.hid (HA.out.kept B1)
       have BB1 := Lib.hid (HB.out.trans (B1.mono (by omega)))
       obtain ⟨S2, hS2⟩ : ∃ S2, Hid (S1.extract nn S1.size = S2) := ⟨_, rfl⟩
       have hS2e := hS2.out
       have hS2s : S2.size + nn = S1.size := by rw [<- hS2e, ByteArray.size_extract]; omega
       have hM : Hid (R = Res.app (ts ++ [⟨xk, xt, L1⟩]) (lexS (bys S2) L1)) := by
        show _ = _
        rw [hN.out, <- hS2e, bys_sub, hh3'.out]
       clear hh1 hh2 hh3 hh3n B1
       go_wp2_with (at_builtin; refine wpList_appT (t := ⟨xk, xt, L1⟩) (B := w.heap.size + 1) O1.out zB1 (by omega) hh1'.out hh2'.out rfl rfl rfl ?_)
       intro a2 c2 w2 O2 b2
       have A2 := Lib.hid (A1.out.below b2 (Nat.lt_succ_self _))
       have BB2 := Lib.hid (BB1.out.trans (b2.mono (Nat.le_succ _)))
       have z2 : w.heap.size + 1 <= w2.heap.size := Nat.le_trans zB1 (by have := b2.size; omega)
       have O2 := Lib.hid O2
       clear b2
       go_wp2_with fail
       go_roundw
       case rel => exact ⟨a2, n + 1, c2, L1, S2, ts ++ [⟨xk, xt, L1⟩], rfl, rfl, rfl, by omega, by omega, O2.out, A2.out, hM, BB2.out, z2⟩
       case measure => simp [lenS]; omega
end Go.Proofs.YtemdkkphmldgjaaGreatDoor
namespace Go.Proofs.YtemdkkphmldgjaaGreatDoor
open Go.RowKit Lx
namespace Lx
def parseS (s : ByteArray) : Option Ans := if s.size > 20000 then none else some (parseL (bys s))
def outA : Option Ans -> Int × Int × Src
  | none => (7, 0, ⟨[], []⟩)
  | some (.err l) => (1, l, ⟨[], []⟩)
  | some (.ok s) => (0, 0, s)
def ansR : PR Src -> Ans
  | .ok x _ => .ok x
  | .bad e => .err e
theorem parseS_cases (s : ByteArray) : (∃ (ts : List Tok) (m : Nat), allS s = some (.ok ts m) /\ parseS s = some (ansR (sourceP (ts ++ [⟨5, [], m⟩]))) /\ EndsT (ts ++ [⟨5, [], m⟩]) /\ (∀ t ∈ ts ++ [(⟨5, [], m⟩ : Tok)], t.text.length <= 500000) /\ (ts ++ [(⟨5, [], m⟩ : Tok)]).length <= 1000000) \/
    (∃ E L : Int, (E == 0) = false /\ outA (parseS s) = (E, L, ⟨[], []⟩) /\ outR (allS s) = (E, L, [])) := by
 unfold parseS allS
 by_cases hb : s.size > 20000
 . rw [if_pos hb, if_pos hb]
   exact Or.inr ⟨7, 0, rfl, rfl, rfl⟩
 . rw [if_neg hb, if_neg hb]
   unfold parseL
   cases hx : lexS (bys s) 1 with
   | err l => exact Or.inr ⟨1, l, rfl, rfl, rfl⟩
   | ok ts m =>
    refine Or.inl ⟨ts, m, rfl, ?_, ends_lex hx, ?_⟩
    . simp only
      cases sourceP (ts ++ [⟨5, [], m⟩]) <;> rfl
    obtain ⟨_, hw⟩ := lexS_good (bys s).length (bys s) 1 ts m (Nat.le_refl _) hx
    rw [bys_len] at hw
    have h1 : ∀ us : List Tok, us.length * 20 <= wgt us /\ ∀ t ∈ us, 2 * t.text.length <= wgt us := by
     intro us
     induction us with
     | nil => exact ⟨Nat.le_refl _, fun t ht => by cases ht⟩
     | cons t us ih =>
      refine ⟨by rw [wgt, List.length_cons]; have := ih.1; omega, fun u hu => ?_⟩
      rw [wgt]
      rcases List.mem_cons.1 hu with rfl | hu
      . omega
      . have := ih.2 u hu; omega
    obtain ⟨a, b⟩ := h1 ts
    refine ⟨fun t ht => ?_, by rw [List.length_append]; simp only [List.length_cons, List.length_nil]; omega⟩
    rcases List.mem_append.1 ht with ht | ht
    . have := b t ht; omega
    . have : t = ⟨5, [], m⟩ := by simpa using ht
      subst this
      exact Nat.zero_le _
end Lx
def ParseOut (r : Option Ans) (w' : World) (e : Ending) : Prop := ∃ (ao : Option Addr) (m d : Nat), e = .returned (.tuple #[.agg #[.string (stg (outA r).2.2.title), .slice ao m d], .agg #[.int .i64 (outA r).1, .int .i64 (outA r).2.1]]) /\ BlkL true anyF w' ao m d (outA r).2.2.blks
theorem blkl_nil (q : Bool) (S : World -> Nat -> Prop) (w : World) : BlkL q S w none 0 0 [] := ⟨[], Row.nil _ _ _, rfl⟩
theorem parse_end {W w : World} {b : Nat} {E L : Int} {r : Option Ans} (AV : Arr W b 24 [.string ⟨#[]⟩, .slice none 0 0]) (AU : Arr W (b + 1) 37 [.int .i64 0, .int .i64 0]) (HB : Below b w W) (hr : outA r = (E, L, ⟨[], []⟩)) :
    (put2 (put2 W b (.string ⟨#[]⟩) (.slice none 0 0)) (b + 1) (.int .i64 E) (.int .i64 L)).cell? ⟨b, 0, none⟩ = some (.string ⟨#[]⟩) /\ (put2 (put2 W b (.string ⟨#[]⟩) (.slice none 0 0)) (b + 1) (.int .i64 E) (.int .i64 L)).cell? ⟨b, 1, none⟩ = some (.slice none 0 0) /\
    (put2 (put2 W b (.string ⟨#[]⟩) (.slice none 0 0)) (b + 1) (.int .i64 E) (.int .i64 L)).cell? ⟨b + 1, 0, none⟩ = some (.int .i64 E) /\ (put2 (put2 W b (.string ⟨#[]⟩) (.slice none 0 0)) (b + 1) (.int .i64 E) (.int .i64 L)).cell? ⟨b + 1, 1, none⟩ = some (.int .i64 L) /\
    ParseOut r (put2 (put2 W b (.string ⟨#[]⟩) (.slice none 0 0)) (b + 1) (.int .i64 E) (.int .i64 L)) (.returned (.tuple #[.agg #[.string ⟨#[]⟩, .slice none 0 0], .agg #[.int .i64 E, .int .i64 L]])) /\
    Below b w (put2 (put2 W b (.string ⟨#[]⟩) (.slice none 0 0)) (b + 1) (.int .i64 E) (.int .i64 L)) := by
 have A1 := AV.put2 (.string ⟨#[]⟩) (.slice none 0 0)
 have A2 := A1.off2 (b := b + 1) (by omega) (.int .i64 E) (.int .i64 L)
 have A3 := (AU.off2 (b := b) (by omega) (.string ⟨#[]⟩) (.slice none 0 0)).put2 (.int .i64 E) (.int .i64 L)
 refine ⟨A2.cell 0, A2.cell 1, A3.cell 0, A3.cell 1, ⟨none, 0, 0, ?_, ?_⟩, below_put2 (below_put2 HB (Nat.le_refl _) _ _) (Nat.le_succ _) _ _⟩
 . rw [hr]; rfl
 . rw [hr]; exact blkl_nil _ _ _
end Go.Proofs.YtemdkkphmldgjaaGreatDoor
