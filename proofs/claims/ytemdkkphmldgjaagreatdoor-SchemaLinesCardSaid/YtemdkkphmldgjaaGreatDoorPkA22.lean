/-
  Texts of the proof, put together: SchBld SchDs2.
-/
import Derived.Maps.AppendAt
import Derived.Test.YtemdkkphmldgjaaGreatDoorPkA19
import Derived.Test.YtemdkkphmldgjaaGreatDoorPkA21
namespace Go.Proofs.YtemdkkphmldgjaaGreatDoor
open Go.RowKit Lx
namespace Lx
def bldJ (P C : List (List UInt8)) (t : List UInt8) (bs : List SBlc) : Elc where
 title := t
 dots := numberOf (lastK kScan bs) wDots
 blank := numberOf (lastK kScan bs) wBlank
 marked := numberOf (lastK kScan bs) wMarked
 precs := P
 conts := (ofKind kContest bs).map mkCst
 stys := (ofKind kStyle bs).map (mkSty P C)
 scanners := numberOf (lastK kScanners bs) wCount
 batch := numberOf (lastK kScanners bs) wBatch
 rneg := if ofKind kAudit bs = [] then false else (fracR (valueOf (lastK kAudit bs) wRisk)).s
 rnum := if ofKind kAudit bs = [] then [] else Q.NatMath.limbs (fracR (valueOf (lastK kAudit bs) wRisk)).p
 rden := if ofKind kAudit bs = [] then [] else Q.NatMath.limbs (fracR (valueOf (lastK kAudit bs) wRisk)).q
 cell := numberOf (lastK kPrivacy bs) wCell
 seed := valueOf (lastK kAudit bs) wSeed
theorem ofKind_add (k : List UInt8) (bs : List SBlc) (b : SBlc) : ofKind k (bs ++ [b]) = if b.kind = k then ofKind k bs ++ [b] else ofKind k bs := by
 unfold ofKind
 rw [List.filter_append, List.filter_cons, List.filter_nil]
 by_cases h : b.kind = k
 . rw [if_pos (by simp [h]), if_pos h]
 . rw [if_neg (by simp [h]), if_neg h, List.append_nil]
theorem lastK_add (k : List UInt8) (bs : List SBlc) (b : SBlc) : lastK k (bs ++ [b]) = if b.kind = k then b else lastK k bs := by
 unfold lastK
 rw [ofKind_add]
 by_cases h : b.kind = k
 . rw [if_pos h, if_pos h, List.getLast?_append]; rfl
 . rw [if_neg h, if_neg h]
theorem bldJ_nil (P C : List (List UInt8)) (t : List UInt8) : bldJ P C t [] = ⟨t, 0, 0, 0, P, [], [], 0, 0, false, [], [], 0, []⟩ := by
 unfold bldJ
 rfl
section
variable (P C : List (List UInt8)) (t : List UInt8) (bs : List SBlc) (b : SBlc)
theorem bldJ_scan (h : b.kind = kScan) : bldJ P C t (bs ++ [b]) = { bldJ P C t bs with dots := numberOf b wDots, blank := numberOf b wBlank, marked := numberOf b wMarked } := by
 unfold bldJ
 simp [lastK_add, ofKind_add, h, show kScan ≠ kContest by decide, show kScan ≠ kStyle by decide, show kScan ≠ kAudit by decide, show kScan ≠ kPrivacy by decide, show kScan ≠ kScanners by decide]
theorem bldJ_scanners (h : b.kind = kScanners) : bldJ P C t (bs ++ [b]) = { bldJ P C t bs with scanners := numberOf b wCount, batch := numberOf b wBatch } := by
 unfold bldJ
 simp [lastK_add, ofKind_add, h, show kScanners ≠ kContest by decide, show kScanners ≠ kStyle by decide, show kScanners ≠ kAudit by decide, show kScanners ≠ kPrivacy by decide, show kScanners ≠ kScan by decide]
theorem bldJ_contest (h : b.kind = kContest) : bldJ P C t (bs ++ [b]) = { bldJ P C t bs with conts := (bldJ P C t bs).conts ++ [mkCst b] } := by
 unfold bldJ
 simp [lastK_add, ofKind_add, h, show kContest ≠ kScanners by decide, show kContest ≠ kStyle by decide, show kContest ≠ kAudit by decide, show kContest ≠ kPrivacy by decide, show kContest ≠ kScan by decide]
theorem bldJ_style (h : b.kind = kStyle) : bldJ P C t (bs ++ [b]) = { bldJ P C t bs with stys := (bldJ P C t bs).stys ++ [mkSty P C b] } := by
 unfold bldJ
 simp [lastK_add, ofKind_add, h, show kStyle ≠ kScanners by decide, show kStyle ≠ kContest by decide, show kStyle ≠ kAudit by decide, show kStyle ≠ kPrivacy by decide, show kStyle ≠ kScan by decide]
theorem bldJ_audit (h : b.kind = kAudit) : bldJ P C t (bs ++ [b]) = { bldJ P C t bs with rneg := (fracR (valueOf b wRisk)).s, rnum := Q.NatMath.limbs (fracR (valueOf b wRisk)).p, rden := Q.NatMath.limbs (fracR (valueOf b wRisk)).q, seed := valueOf b wSeed } := by
 unfold bldJ
 simp [lastK_add, ofKind_add, h, show kAudit ≠ kScanners by decide, show kAudit ≠ kContest by decide, show kAudit ≠ kStyle by decide, show kAudit ≠ kPrivacy by decide, show kAudit ≠ kScan by decide]
theorem bldJ_privacy (h : b.kind = kPrivacy) : bldJ P C t (bs ++ [b]) = { bldJ P C t bs with cell := numberOf b wCell } := by
 unfold bldJ
 simp [lastK_add, ofKind_add, h, show kPrivacy ≠ kScanners by decide, show kPrivacy ≠ kContest by decide, show kPrivacy ≠ kStyle by decide, show kPrivacy ≠ kAudit by decide, show kPrivacy ≠ kScan by decide]
theorem bldJ_other (h1 : b.kind ≠ kScan) (h2 : b.kind ≠ kScanners) (h3 : b.kind ≠ kContest) (h4 : b.kind ≠ kStyle) (h5 : b.kind ≠ kAudit) (h6 : b.kind ≠ kPrivacy) : bldJ P C t (bs ++ [b]) = bldJ P C t bs := by
 unfold bldJ
 simp [lastK_add, ofKind_add, h1, h2, h3, h4, h5, h6]
end
end Lx
section
variable {w : World} {ops : Array Oper} {o : Oper} {a : Act} {K : Act -> World -> Prop} {Q : Exit -> Act -> World -> Prop}
theorem step_appK {T E : TypeId} {s bytes : Nat} {z : Value} (ht : Tryz.prog.underlying T = some (.slice E)) (hinfo : (Tryz.prog.info? E).map (fun i => (i.zero, i.size, i.bytes)) = some (some z, s, bytes)) (hzs : z.cells.size = s) (hs : 0 < s) (hby : bytes <= 1000)
    {X : World} {E2 : Prop} (p q : Operand) (hgd : o.guard = none) (hop : o.op = .call { callee := .builtin .append, args := #[p, q], argTypes := #[T, T] })
    {B : Nat} {ao : Option Addr} {n c : Nat} {us vs : List Value} (hX : w.alloc (.cells vs.toArray E) = X) (hO : w.ownsRow B E s (.slice ao n c) n us) (hB : B <= w.heap.size) (hn : n <= 4000000) (hv : vs.length = s) (h1 : ∀ u ∈ vs, u.oneCell' = true)
    (hp : a.eval p = .slice ao n c) (hq : a.eval q = .slice (some ⟨w.heap.size, 0, none⟩) 1 1)
    (h : ∀ ao' c' w', w'.ownsRow B E s (.slice ao' (n + 1) c') (n + 1) (us ++ vs) -> w.grownBy w' (Value.slice ao n c).ownBlock -> Below B w w' -> K (a.put o.dst (.slice ao' (n + 1) c')) w') :
    if Region.wanted o (yielded ops a.tmps) = true then Oper.wp Tryz.prog o a X K Q else E2 := by
 have hw : Region.wanted o (yielded ops a.tmps) = true := by simp [Region.wanted, hgd]
 rw [if_pos hw]
 subst hX
 obtain ⟨i0, hi, hz0, hz1, hz2⟩ := info_parts hinfo
 have b1 : Below w.heap.size w (w.alloc (.cells vs.toArray E)) := (Below.refl _ _).alloc (Nat.le_refl _) _
 have g1 : w.grownBy (w.alloc (.cells vs.toArray E)) (Value.slice ao n c).ownBlock := ⟨b1.os, b1.tape, b1.output, b1.size, fun k hk _ => b1.block k hk⟩
 have hnew : Arr (w.alloc (.cells vs.toArray E)) w.heap.size E vs := Arr.new w _ vs
 have hO1 := ownsRow_keep hO b1
 have hbb : (n + 1) * bytes <= (4000000 + 1) * 1000 := Nat.mul_le_mul (by omega) hby
 refine wp_append_own _ p q T hop B E i0 z s bytes ht hi hz0 hz1 hz2 hzs hs _ n _ hp hO1 ⟨w.heap.size, 0, none⟩ 1 1 vs hq (by omega) ?_ h1 (by unfold maxLen; omega) (by omega) (by simp; omega) ?_
 . intro j u hj
   have e := pt_own w.heap.size j
   simp only [pt, Option.getD_some] at e
   rw [e, hnew.cell]
   exact hj
 . intro v' w' ho' hg _
   obtain ⟨av, cv, hv⟩ : ∃ ao c, v' = .slice ao (n + 1) c := by
    rcases ho'.2 with ⟨hv, h0⟩ | ⟨g, cap, _, hv, _⟩
    . omega
    . exact ⟨_, cap, hv⟩
   subst hv
   exact h av cv w' ho' (grown_trans g1 hg) ((b1.mono hB).trans ((Below.refl _ _).grown hg (by simp; omega) (fun k hk => (World.ownsRow.lt hO k hk).1)))
end
def highF (B : Nat) : World -> Nat -> Prop := fun _ k => B <= k
theorem stable_high (B : Nat) : Stable (highF B) := fun _ _ _ _ _ h => h
theorem high_of {B B' : Nat} {Es : List TypeId} (h : B' <= B) {w : World} : ∀ k, ownF B Es w k -> highF B' w k := fun _ hk => Nat.le_trans h hk.1
theorem keeps_high {B g : Nat} {w Z : World} (h : w.grownBy Z (some g)) (hg : g < B) : Keeps (highF B) w Z := keeps_grown h (fun k hk e => by injection e with e; have h1 : B <= k := hk; omega)
structure BRw (B : Nat) (w : World) (e : Elc) (s : ESl) (C : List (List UInt8)) (qo : Option Addr) (qn qc : Nat) : Prop where
 precs : StrL (ownF B [9]) w s.po s.pn s.pc e.precs
 conts : ∃ us, w.ownsRow B 76 9 (.slice s.co s.cn s.cc) s.cn us /\ CC (ownF B [9]) w e.conts us
 stys : ∃ us, w.ownsRow B 60 3 (.slice s.so s.sn s.sc) s.sn us /\ TC (ownF B [3]) w e.stys us
 num : IntL .u32 (ownF B [144]) w s.uo s.un s.uc e.rnum
 den : IntL .u32 (ownF B [144]) w s.dO s.dn s.dc e.rden
 names : StrL (ownF B [9]) w qo qn qc C
section
variable {B : Nat} {w w' : World} {e : Elc} {s : ESl} {C : List (List UInt8)} {qo : Option Addr} {qn qc : Nat}
theorem BRw.below (h : BRw B w e s C qo qn qc) (hb : Below w.heap.size w w') : BRw B w' e s C qo qn qc := by
 obtain ⟨us, h1, h2⟩ := h.conts
 obtain ⟨vs, h3, h4⟩ := h.stys
 exact ⟨keep_own h.precs hb, ⟨us, ownsRow_keep h1 hb, h2.keep (stable_own _ _) (keeps_below _ hb)⟩, ⟨vs, ownsRow_keep h3 hb, h4.keep (stable_own _ _) (keeps_below _ hb)⟩, keep_own h.num hb, keep_own h.den hb, keep_own h.names hb⟩
theorem BRw.box {g : Nat} {T : TypeId} {cs : List Value} (h : BRw B w e s C qo qn qc) (hA : Arr w g T cs) (hT : T ∉ [9, 3, 144, 76, 60]) (hg : w.grownBy w' (some g)) : BRw B w' e s C qo qn qc := by
 obtain ⟨us, h1, h2⟩ := h.conts
 obtain ⟨vs, h3, h4⟩ := h.stys
 simp only [List.mem_cons, List.not_mem_nil, or_false, not_or] at hT
 obtain ⟨t1, t2, t3, t4, t5⟩ := hT
 have k1 : Keeps (ownF B [9]) w w' := keeps_gbox hA (by simpa using t1) hg
 have k2 : Keeps (ownF B [3]) w w' := keeps_gbox hA (by simpa using t2) hg
 have k3 : Keeps (ownF B [144]) w w' := keeps_gbox hA (by simpa using t3) hg
 exact ⟨Row.keep h.precs (stable_own _ _) k1, ⟨us, World.ownsRow.kept h1 hg (Or.inr (row_ne_box h1 hA t4)), h2.keep (stable_own _ _) k1⟩, ⟨vs, World.ownsRow.kept h3 hg (Or.inr (row_ne_box h3 hA t5)), h4.keep (stable_own _ _) k2⟩, Row.keep h.num (stable_own _ _) k3, Row.keep h.den (stable_own _ _) k3, Row.keep h.names (stable_own _ _) k1⟩
theorem row_ne_row {E1 E2 : TypeId} {s1 s2 n1 n2 : Nat} {v1 v2 : Value} {us vs : List Value} (h1 : w.ownsRow B E1 s1 v1 n1 us) (h2 : w.ownsRow B E2 s2 v2 n2 vs) (hE : E1 ≠ E2) : v1.ownBlock = none \/ v1.ownBlock ≠ v2.ownBlock := by
 rcases h1.2 with ⟨hv, _⟩ | ⟨g, cap, cur, hv, _, hh, _⟩
 . left; rw [hv]; rfl
 . right
   intro e
   rcases h2.2 with ⟨hv2, _⟩ | ⟨g2, cap2, cur2, hv2, _, hh2, _⟩
   . rw [hv, hv2] at e; cases e
   . rw [hv, hv2] at e
     have e' : some g = some g2 := e
     injection e' with e'
     subst e'
     rw [hh] at hh2
     injection hh2 with hh2
     injection hh2 with _ h2 _
     exact hE h2
theorem BRw.contest {us vs : List Value} {x : Cst} {ao' : Option Addr} {c' : Nat} (h : BRw B w e s C qo qn qc) (hr : w.ownsRow B 76 9 (.slice s.co s.cn s.cc) s.cn us) (hc : CC (ownF B [9]) w e.conts us) (hx : CC (ownF B [9]) w [x] vs)
    (ho : w'.ownsRow B 76 9 (.slice ao' (s.cn + 1) c') (s.cn + 1) (us ++ vs)) (hg : w.grownBy w' (Value.slice s.co s.cn s.cc).ownBlock) : BRw B w' { e with conts := e.conts ++ [x] } { s with co := ao', cn := s.cn + 1, cc := c' } C qo qn qc := by
 obtain ⟨vs', h3, h4⟩ := h.stys
 have k1 : Keeps (ownF B [9]) w w' := keeps_row hr hg (by decide)
 have k2 : Keeps (ownF B [3]) w w' := keeps_row hr hg (by decide)
 have k3 : Keeps (ownF B [144]) w w' := keeps_row hr hg (by decide)
 exact ⟨Row.keep h.precs (stable_own _ _) k1, ⟨_, ho, CC.append (hc.keep (stable_own _ _) k1) (hx.keep (stable_own _ _) k1)⟩, ⟨vs', World.ownsRow.kept h3 hg (row_ne_row h3 hr (by decide)), h4.keep (stable_own _ _) k2⟩, Row.keep h.num (stable_own _ _) k3, Row.keep h.den (stable_own _ _) k3, Row.keep h.names (stable_own _ _) k1⟩
theorem BRw.style {us vs : List Value} {x : Sty} {ao' : Option Addr} {c' : Nat} (h : BRw B w e s C qo qn qc) (hr : w.ownsRow B 60 3 (.slice s.so s.sn s.sc) s.sn us) (hc : TC (ownF B [3]) w e.stys us) (hx : TC (ownF B [3]) w [x] vs)
    (ho : w'.ownsRow B 60 3 (.slice ao' (s.sn + 1) c') (s.sn + 1) (us ++ vs)) (hg : w.grownBy w' (Value.slice s.so s.sn s.sc).ownBlock) : BRw B w' { e with stys := e.stys ++ [x] } { s with so := ao', sn := s.sn + 1, sc := c' } C qo qn qc := by
 obtain ⟨us', h3, h4⟩ := h.conts
 have k1 : Keeps (ownF B [9]) w w' := keeps_row hr hg (by decide)
 have k2 : Keeps (ownF B [3]) w w' := keeps_row hr hg (by decide)
 have k3 : Keeps (ownF B [144]) w w' := keeps_row hr hg (by decide)
 exact ⟨Row.keep h.precs (stable_own _ _) k1, ⟨us', World.ownsRow.kept h3 hg (row_ne_row h3 hr (by decide)), h4.keep (stable_own _ _) k1⟩, ⟨_, ho, TC.append (hc.keep (stable_own _ _) k2) (hx.keep (stable_own _ _) k2)⟩, Row.keep h.num (stable_own _ _) k3, Row.keep h.den (stable_own _ _) k3, Row.keep h.names (stable_own _ _) k1⟩
theorem set_box {g : Nat} {t : TypeId} {cs : List Value} (h : Arr w g t cs) (i : Nat) (u v : Value) (hv : cs[i]? = some v) : ∃ V, w.setCell ⟨g, i, none⟩ u = V /\ Arr V g t (cs.set i u) /\ w.grownBy V (some g) /\ (∀ (B : Nat) (a : World), Below B a w -> B <= g -> Below B a V) /\ w.cell? ⟨g, i, none⟩ = some v /\ w.frozen? ⟨g, i, none⟩ = false :=
 ⟨_, rfl, h.set i u, set_grown w g i u, fun B a hb hg => hb.setCell (p := ⟨_, i, none⟩) hg u, (h.cell i).trans hv, h.frozen i⟩
end
end Go.Proofs.YtemdkkphmldgjaaGreatDoor
namespace Go.Proofs.YtemdkkphmldgjaaGreatDoor
open Go.RowKit Lx
section
variable {w : World} {ops : Array Oper} {o : Oper} {a : Act} {K : Act -> World -> Prop} {Q : Exit -> Act -> World -> Prop}
theorem step_appM {T E : TypeId} {s bytes : Nat} {z : Value} (ht : Tryz.prog.underlying T = some (.slice E)) (hinfo : (Tryz.prog.info? E).map (fun i => (i.zero, i.size, i.bytes)) = some (some z, s, bytes)) (hzs : z.cells.size = s) (hs : 0 < s) (hby : bytes <= 1000)
    {X : World} {E2 : Prop} {m : Nat} (hm : 1 <= m) (hm2 : m <= 100) (p q : Operand) (hgd : o.guard = none) (hop : o.op = .call { callee := .builtin .append, args := #[p, q], argTypes := #[T, T] })
    {B : Nat} {ao : Option Addr} {n c : Nat} {us vs : List Value} (hX : w.alloc (.cells vs.toArray E) = X) (hO : w.ownsRow B E s (.slice ao n c) n us) (hB : B <= w.heap.size) (hn : n <= 4000000) (hv : vs.length = m * s) (h1 : ∀ u ∈ vs, u.oneCell' = true)
    (hp : a.eval p = .slice ao n c) (hq : a.eval q = .slice (some ⟨w.heap.size, 0, none⟩) m m)
    (h : ∀ ao' c' w', w'.ownsRow B E s (.slice ao' (n + m) c') (n + m) (us ++ vs) -> w.grownBy w' (Value.slice ao n c).ownBlock -> Below B w w' -> K (a.put o.dst (.slice ao' (n + m) c')) w') :
    if Region.wanted o (yielded ops a.tmps) = true then Oper.wp Tryz.prog o a X K Q else E2 := by
 have hw : Region.wanted o (yielded ops a.tmps) = true := by simp [Region.wanted, hgd]
 rw [if_pos hw]
 subst hX
 obtain ⟨i0, hi, hz0, hz1, hz2⟩ := info_parts hinfo
 have b1 : Below w.heap.size w (w.alloc (.cells vs.toArray E)) := (Below.refl _ _).alloc (Nat.le_refl _) _
 have g1 : w.grownBy (w.alloc (.cells vs.toArray E)) (Value.slice ao n c).ownBlock := ⟨b1.os, b1.tape, b1.output, b1.size, fun k hk _ => b1.block k hk⟩
 have hnew : Arr (w.alloc (.cells vs.toArray E)) w.heap.size E vs := Arr.new w _ vs
 have hO1 := ownsRow_keep hO b1
 have hbb : (n + m) * bytes <= (4000000 + 100) * 1000 := Nat.mul_le_mul (by omega) hby
 refine wp_append_own _ p q T hop B E i0 z s bytes ht hi hz0 hz1 hz2 hzs hs _ n _ hp hO1 ⟨w.heap.size, 0, none⟩ m m vs hq hv ?_ h1 (by unfold maxLen; omega) (by omega) (by simp; omega) ?_
 . intro j u hj
   have e := pt_own w.heap.size j
   simp only [pt, Option.getD_some] at e
   rw [e, hnew.cell]
   exact hj
 . intro v' w' ho' hg _
   obtain ⟨av, cv, hv⟩ : ∃ ao c, v' = .slice ao (n + m) c := by
    rcases ho'.2 with ⟨hv, h0⟩ | ⟨g, cap, _, hv, _⟩
    . omega
    . exact ⟨_, cap, hv⟩
   subst hv
   exact h av cv w' ho' (grown_trans g1 hg) ((b1.mono hB).trans ((Below.refl _ _).grown hg (by simp; omega) (fun k hk => (World.ownsRow.lt hO k hk).1)))
end
section
variable {w : World} {ops : Array Oper} {rest : List Oper} {a : Act} {Q : Exit -> Act -> World -> Prop} {d : Option Tmp} {p q : Operand} {ty : TypeId} {pos : String} {after : Array Edge}
theorem wpList_appT2 {B : Nat} {ao : Option Addr} {n c : Nat} {us : List Value} {x : Value} (hO : w.ownsRow B 9 1 (.slice ao n c) n us) (hB : B <= w.heap.size) (hn : n <= 4000000) (h1 : x.oneCell' = true)
    (hp : a.eval p = .slice ao n c) (hq : a.eval q = .slice (some ⟨w.heap.size, 0, none⟩) 1 1)
    (h : ∀ ao' c' w', w'.ownsRow B 9 1 (.slice ao' (n + 1) c') (n + 1) (us ++ [x]) -> w.grownBy w' (Value.slice ao n c).ownBlock -> ((Value.slice ao' (n + 1) c').ownBlock = (Value.slice ao n c).ownBlock \/ (Value.slice ao' (n + 1) c').ownBlock = some (w.heap.size + 1)) -> Below B w w' -> wpList Tryz.prog ops Q rest (a.put d (.slice ao' (n + 1) c')) w') :
    wpList Tryz.prog ops Q (⟨d, .call { callee := .builtin .append, args := #[p, q], argTypes := #[26, 26] }, ty, pos, after, none⟩ :: rest) a (w.alloc (.cells #[x] 9)) := by
 obtain ⟨i0, hi, hz0, hz1, hz2⟩ := info_parts infoS3
 have b1 : Below w.heap.size w (w.alloc (.cells #[x] 9)) := (Below.refl _ _).alloc (Nat.le_refl _) _
 have g1 : w.grownBy (w.alloc (.cells #[x] 9)) (Value.slice ao n c).ownBlock := ⟨b1.os, b1.tape, b1.output, b1.size, fun k hk _ => b1.block k hk⟩
 have hO1 := ownsRow_keep hO b1
 refine wpList_append_own_at _ rfl p q 26 rfl B 9 i0 (.string ⟨#[]⟩) 1 16 Tryz.underlying26 hi hz0 hz1 hz2 rfl (by decide) _ n _ hp hO1 ⟨w.heap.size, 0, none⟩ 1 1 [x] hq rfl (cell_one_new _ _ _) (by simpa using h1) (by unfold maxLen; omega) (by omega) (by simp; omega) ?_
 intro v' w' ho' hg _ hob
 obtain ⟨av, cv, hv⟩ : ∃ ao c, v' = .slice ao (n + 1) c := by
  rcases ho'.2 with ⟨hv, h0⟩ | ⟨g, cap, _, hv, _⟩
  . omega
  . exact ⟨_, cap, hv⟩
 subst hv
 refine h av cv w' ho' (grown_trans g1 hg) ?_ ((b1.mono hB).trans ((Below.refl _ _).grown hg (by simp; omega) (fun k hk => (World.ownsRow.lt hO k hk).1)))
 rcases hob with e | e
 . exact Or.inl e
 . exact Or.inr (by rw [e]; simp)
end
def ownX (B : Nat) (q : Option Nat) : World -> Nat -> Prop := fun w k => ownF B [9, 63] w k /\ q ≠ some k
theorem stable_ownX (B : Nat) (q : Option Nat) : Stable (ownX B q) := fun w w' k hk he ⟨h, h2⟩ => ⟨stable_own _ _ w w' k hk he h, h2⟩
theorem own_lt {B : Nat} {Es : List TypeId} {w : World} {k : Nat} (h : ownF B Es w k) : k < w.heap.size := by
 obtain ⟨_, E, _, cs, fz, e⟩ := h
 exact (Array.getElem?_eq_some_iff.1 e).1
theorem own_wide {B B' : Nat} {Es Fs : List TypeId} (hB : B' <= B) (hs : ∀ E ∈ Es, E ∈ Fs) {w : World} : ∀ k, ownF B Es w k -> ownF B' Fs w k := fun _ ⟨h1, E, hE, r⟩ => ⟨Nat.le_trans hB h1, E, hs E hE, r⟩
theorem own_new {B B' : Nat} {Es : List TypeId} {q : Option Nat} (hB : B' <= B) (hs : ∀ E ∈ Es, E ∈ [9, 63]) (hq : ∀ k, q = some k -> k < B) {w : World} : ∀ k, ownF B Es w k -> ownX B' q w k :=
 fun k h => ⟨own_wide hB hs k h, fun e => by have := hq k e; have := h.1; omega⟩
structure DsI (B : Nat) (w : World) (bs : List SBlc) (bo : Option Addr) (bn bc : Nat) (ns : List (List UInt8)) (qo : Option Addr) (qn qc : Nat) : Prop where
 blk : ∃ us, w.ownsRow B 55 4 (.slice bo bn bc) bn us /\ BC (ownX B (Value.slice qo qn qc).ownBlock) w bs us
 nms : w.ownsRow B 9 1 (.slice qo qn qc) qn (ns.map fun v => .string (stg v))
section
variable {B : Nat} {w w' : World} {bs : List SBlc} {bo : Option Addr} {bn bc : Nat} {ns : List (List UInt8)} {qo : Option Addr} {qn qc : Nat}
theorem DsI.below (h : DsI B w bs bo bn bc ns qo qn qc) (hb : Below w.heap.size w w') : DsI B w' bs bo bn bc ns qo qn qc := by
 obtain ⟨us, h1, h2⟩ := h.blk
 exact ⟨⟨us, ownsRow_keep h1 hb, h2.keep (stable_ownX _ _) (keeps_below _ hb)⟩, ownsRow_keep h.nms hb⟩
theorem keeps_ownX {Es : List TypeId} {q : Option Nat} (hE : Es = [9, 63]) (h : Keeps (ownF B Es) w w') : Keeps (ownX B q) w w' := fun k hk ⟨hs, _⟩ => h k hk (by rw [hE]; exact hs)
theorem DsI.block {us vs : List Value} {xs : List SBlc} {ao' : Option Addr} {m c' : Nat} (h : DsI B w bs bo bn bc ns qo qn qc) (hr : w.ownsRow B 55 4 (.slice bo bn bc) bn us) (hc : BC (ownX B (Value.slice qo qn qc).ownBlock) w bs us) (hx : BC (ownX B (Value.slice qo qn qc).ownBlock) w xs vs)
    (ho : w'.ownsRow B 55 4 (.slice ao' (bn + m) c') (bn + m) (us ++ vs)) (hg : w.grownBy w' (Value.slice bo bn bc).ownBlock) : DsI B w' (bs ++ xs) ao' (bn + m) c' ns qo qn qc := by
 have k1 : Keeps (ownX B (Value.slice qo qn qc).ownBlock) w w' := keeps_ownX rfl (keeps_row hr hg (by decide))
 exact ⟨⟨_, ho, BC.append (hc.keep (stable_ownX _ _) k1) (hx.keep (stable_ownX _ _) k1)⟩, World.ownsRow.kept h.nms hg (row_ne_row h.nms hr (by decide))⟩
theorem DsI.name {x : List UInt8} {ao' : Option Addr} {c' : Nat} (h : DsI B w bs bo bn bc ns qo qn qc)
    (ho : w'.ownsRow B 9 1 (.slice ao' (qn + 1) c') (qn + 1) ((ns.map fun v => Value.string (stg v)) ++ [.string (stg x)])) (hg : w.grownBy w' (Value.slice qo qn qc).ownBlock) (hob : (Value.slice ao' (qn + 1) c').ownBlock = (Value.slice qo qn qc).ownBlock \/ (Value.slice ao' (qn + 1) c').ownBlock = some (w.heap.size + 1)) : DsI B w' bs bo bn bc (ns ++ [x]) ao' (qn + 1) c' := by
 obtain ⟨us, h1, h2⟩ := h.blk
 let S2 : World -> Nat -> Prop := fun w k => ownX B (Value.slice qo qn qc).ownBlock w k /\ (Value.slice ao' (qn + 1) c').ownBlock ≠ some k
 have st2 : Stable S2 := fun w w' k hk he ⟨a1, a2⟩ => ⟨stable_ownX _ _ w w' k hk he a1, a2⟩
 have h3 : BC S2 w bs us := h2.mono fun k ⟨a1, a2⟩ => ⟨⟨a1, a2⟩, fun e => by
  rcases hob with e1 | e1
  . exact a2 (e1.symm.trans e)
  . rw [e1] at e
    injection e with e
    have := own_lt a1
    omega⟩
 have k1 : Keeps S2 w w' := keeps_grown hg (fun k hk => hk.1.2)
 exact ⟨⟨us, World.ownsRow.kept h1 hg (row_ne_row h1 h.nms (by decide)), (h3.keep st2 k1).mono fun k hk => ⟨hk.1.1, hk.2⟩⟩, by rw [List.map_append]; exact ho⟩
theorem DsI.box {g : Nat} {T : TypeId} {cs : List Value} (h : DsI B w bs bo bn bc ns qo qn qc) (hA : Arr w g T cs) (hT : T ∉ [9, 63, 55]) (hg : w.grownBy w' (some g)) : DsI B w' bs bo bn bc ns qo qn qc := by
 obtain ⟨us, h1, h2⟩ := h.blk
 simp only [List.mem_cons, List.not_mem_nil, or_false, not_or] at hT
 obtain ⟨t1, t2, t3⟩ := hT
 have k1 : Keeps (ownX B (Value.slice qo qn qc).ownBlock) w w' := keeps_ownX rfl (keeps_gbox hA (by simp [t1, t2]) hg)
 exact ⟨⟨us, World.ownsRow.kept h1 hg (Or.inr (row_ne_box h1 hA t3)), h2.keep (stable_ownX _ _) k1⟩, World.ownsRow.kept h.nms hg (Or.inr (row_ne_box h.nms hA t1))⟩
theorem DsI.names (h : DsI B w bs bo bn bc ns qo qn qc) : StrL anyF w qo qn qc ns := (Row.own h.nms (by decide)).mono fun _ _ => trivial
end
end Go.Proofs.YtemdkkphmldgjaaGreatDoor
