/-
  Texts of the proof, put together: SchSmP SynVal SynPVal SynStep SynPFld.
-/
import Derived.Deep.RegionHeld3
import Derived.Test.YtemdkkphmldgjaaGreatDoorPkA4
import Derived.Test.YtemdkkphmldgjaaGreatDoorPkA27
import Derived.Test.YtemdkkphmldgjaaGreatDoorPkA33
set_option maxRecDepth 100000
set_option maxHeartbeats 6400000
namespace Go.Proofs.YtemdkkphmldgjaaGreatDoor
open Go.RowKit Lx
namespace Lx
theorem wFs_mem : ∀ {fs : List Fld} {f : Fld}, f ∈ fs -> wF f <= wFs fs
  | g :: r, f, h => by
   rw [wFs]
   rcases List.mem_cons.1 h with rfl | h
   . omega
   . have := wFs_mem h; omega
theorem wBs_mem : ∀ {bs : List Blc} {b : Blc}, b ∈ bs -> wB b <= wBs bs
  | g :: r, f, h => by
   rw [wBs]
   rcases List.mem_cons.1 h with rfl | h
   . omega
   . have := wBs_mem h; omega
theorem wBs_len : ∀ bs : List Blc, bs.length <= wBs bs
  | [] => Nat.le_refl _
  | b :: r => by
   have := wBs_len r
   rw [wBs, wB, List.length_cons]
   omega
theorem vals_w (b : Blc) (k : List UInt8) : (valuesOf (toSB b) k).length <= wFs b.flds := by
 unfold valuesOf fieldOf
 cases h : (toSB b).flds.find? fun f => decide (f.key = k) with
 | none => exact Nat.zero_le _
 | some f =>
  have hm := List.mem_of_find?_eq_some h
  obtain ⟨g, hg, rfl⟩ := List.mem_map.1 hm
  have := wFs_mem hg
  rw [wF] at this
  show g.vals.length <= _
  omega
theorem flat_w (q : SBlc -> Bool) (k : SBlc -> List (List UInt8)) (hk : ∀ b : Blc, (k (toSB b)).length <= wFs b.flds) : ∀ bs : List Blc, (((bs.map toSB).filter q).flatMap k).length <= wBs bs
  | [] => Nat.le_refl _
  | b :: r => by
   have h1 := flat_w q k hk r
   have h2 := hk b
   rw [List.map_cons, List.filter_cons, wBs, wB]
   split
   . rw [List.flatMap_cons, List.length_append]
     omega
   . omega
def LnB (M : Int) (b : SBlc) : Prop := b.line <= M /\ ∀ f ∈ b.flds, f.line <= M
section
variable {M : Int} (h0 : 0 <= M)
include h0
theorem fldsGo_le (kind : List UInt8) : ∀ (fs e : List SFld), (∀ f ∈ fs, f.line <= M) -> (fldsGo kind e fs).2 <= M
  | [], _, _ => h0
  | f :: r, e, h => by
   rw [fldsGo]
   split
   . exact h f List.mem_cons_self
   . exact fldsGo_le kind r _ (fun x hx => h x (List.mem_cons_of_mem _ hx))
theorem lineF_le {b : SBlc} (hb : LnB M b) (k : List UInt8) : lineF b k <= M := by
 unfold lineF fieldOf
 cases h : b.flds.find? fun f => decide (f.key = k) with
 | none => exact h0
 | some f => exact hb.2 f (List.mem_of_find?_eq_some h)
theorem togE_le {b : SBlc} (hb : LnB M b) : (togE b).2 <= M := by
 unfold togE
 (repeat' split) <;> first | exact lineF_le h0 hb _ | exact hb.1 | exact h0
theorem blockE_le {b : SBlc} (hb : LnB M b) (e : List SBlc) : (blockE e b).2 <= M := by
 unfold blockE
 split
 . exact hb.1
 . split
   . exact fldsGo_le h0 _ _ _ hb.2
   . split
     . exact hb.1
     . exact togE_le h0 hb
theorem blksGo_le : ∀ (bs e : List SBlc), (∀ b ∈ bs, LnB M b) -> (blksGo e bs).2 <= M
  | [], _, _ => h0
  | b :: r, e, h => by
   rw [blksGo]
   split
   . exact blockE_le h0 (h b List.mem_cons_self) e
   . exact blksGo_le r _ (fun x hx => h x (List.mem_cons_of_mem _ hx))
theorem precGo_le (precs : List (List UInt8)) {ln : Int} (hl : ln <= M) : ∀ (vs used : List (List UInt8)), (precGo precs ln used vs).1.2 <= M
  | [], _ => h0
  | v :: r, used => by
   rw [precGo]
   split
   . exact hl
   . split
     . exact hl
     . exact precGo_le precs hl r _
theorem stylesGo_le (precs conts : List (List UInt8)) : ∀ (bs : List SBlc) (used : List (List UInt8)), (∀ b ∈ bs, LnB M b) -> (stylesGo precs conts used bs).2 <= M
  | [], used, _ => by
   rw [stylesGo]
   split <;> exact h0
  | b :: r, used, h => by
   have hb := h b List.mem_cons_self
   rw [stylesGo]
   split
   . exact precGo_le h0 precs (lineF_le h0 hb _) _ _
   . split
     . unfold contE
       split
       . exact h0
       . exact lineF_le h0 hb _
     . exact stylesGo_le precs conts r _ (fun x hx => h x (List.mem_cons_of_mem _ hx))
theorem compS_le {s : SSrc} (h : ∀ b ∈ s.blks, LnB M b) : (compS s).1.2 <= M := by
 have hc : (checkS s).2 <= M := by
  unfold checkS
  split
  . exact h0
  . split
    . exact blksGo_le h0 _ _ h
    . split
      . exact h0
      . exact stylesGo_le h0 _ _ _ _ (fun b hb => h b ((List.mem_filter.1 hb).1))
 unfold compS
 split
 . exact hc
 . exact h0
end
theorem small_src {B N : Nat} {s : Src} (h1 : ∀ b ∈ s.blks, GdB B b) (h2 : wBs s.blks <= N) (hB : B <= 1000000) (hN : N <= 1000000) :
    SmallS (toSS s) /\ (∀ b ∈ (toSS s).blks, ∀ f ∈ b.flds, f.vals.length <= 4000000) /\ (∀ b ∈ (toSS s).blks, PosB b) /\ ∀ b ∈ (toSS s).blks, LnB 1000000 b := by
 refine ⟨⟨?_, ?_, ?_, ?_⟩, ?_, ?_, ?_⟩
 . have := wBs_len s.blks
   show (s.blks.map toSB).length <= _
   rw [List.length_map]
   omega
 . intro b hb f hf r _ v hv _
   obtain ⟨c, hc, rfl⟩ := List.mem_map.1 hb
   obtain ⟨g, hg, rfl⟩ := List.mem_map.1 hf
   have := ((h1 c hc).flds g hg).vals v hv
   omega
 . have := flat_w (fun b => decide (b.kind = kPrecincts)) (fun b => valuesOf b wNames) (fun b => vals_w b _) s.blks
   show (((s.blks.map toSB).filter _).flatMap _).length <= _
   omega
 . have := flat_w (fun b => decide (b.kind = kStyle)) (fun b => (fldOr b kPrecincts).vals) (fun b => by rw [<- valuesOf_or]; exact vals_w b _) s.blks
   show (((s.blks.map toSB).filter _).flatMap _).length <= _
   omega
 . intro b hb f hf
   obtain ⟨c, hc, rfl⟩ := List.mem_map.1 hb
   obtain ⟨g, hg, rfl⟩ := List.mem_map.1 hf
   have e1 := wBs_mem hc
   have e2 := wFs_mem hg
   rw [wB] at e1
   rw [wF] at e2
   show g.vals.length <= _
   omega
 . intro b hb
   obtain ⟨c, hc, rfl⟩ := List.mem_map.1 hb
   have hg := h1 c hc
   refine ⟨by have := hg.ln; show (1 : Int) <= ((c.line : Nat) : Int); omega, fun f hf => ?_⟩
   obtain ⟨g, hg2, rfl⟩ := List.mem_map.1 hf
   have := (hg.flds g hg2).ln
   show (1 : Int) <= ((g.line : Nat) : Int)
   omega
 . intro b hb
   obtain ⟨c, hc, rfl⟩ := List.mem_map.1 hb
   have hg := h1 c hc
   refine ⟨by have := hg.top; show ((c.line : Nat) : Int) <= 1000000; omega, fun f hf => ?_⟩
   obtain ⟨g, hg2, rfl⟩ := List.mem_map.1 hf
   have := (hg.flds g hg2).top
   show ((g.line : Nat) : Int) <= 1000000
   omega
theorem lexS_last : ∀ (l : List UInt8) (ln : Nat) (ts : List Tok) (m : Nat), lexS l ln = .ok ts m -> m <= ln + l.length := by
 intro l
 induction hk : l.length using Nat.strongRecOn generalizing l with
 | _ k ih =>
  intro ln ts m h
  cases l with
  | nil => rw [lexS_nil] at h; injection h with _ h; omega
  | cons c r =>
   have hr : r.length < k := by rw [<- hk]; simp
   have hk' : k = r.length + 1 := by rw [<- hk]; simp
   rw [lexS_cons] at h
   split at h
   . have hd := drop_while_len notNl r
     have := ih _ (Nat.lt_of_le_of_lt hd hr) _ rfl _ _ _ h
     omega
   . split at h
     . have := ih _ hr _ rfl _ _ _ h
       have : lineOf c ln <= ln + 1 := by unfold lineOf; split <;> omega
       omega
     . cases hx : oneS (c :: r) with
       | none => rw [hx] at h; cases h
       | some x =>
        rw [hx] at h
        simp only at h
        have hd : (r.drop (x.2.2 - 1)).length <= r.length := by rw [List.length_drop]; omega
        cases hy : lexS (r.drop (x.2.2 - 1)) ln with
        | err e => rw [hy] at h; cases h
        | ok us e =>
         rw [hy] at h
         injection h with _ h
         have := ih _ (Nat.lt_of_le_of_lt hd hr) _ rfl _ _ _ hy
         omega
theorem wgt_mem : ∀ {ts : List Tok} {t : Tok}, t ∈ ts -> 2 * t.text.length + 20 <= wgt ts
  | g :: r, f, h => by
   rw [wgt]
   rcases List.mem_cons.1 h with rfl | h
   . omega
   . have := wgt_mem h; omega
theorem wgt_len : ∀ ts : List Tok, 20 * ts.length <= wgt ts
  | [] => Nat.le_refl _
  | t :: r => by
   have := wgt_len r
   rw [wgt, List.length_cons]
   omega
theorem small_parse {l : List UInt8} {s : Src} (h : parseL l = .ok s) (hl : l.length <= 20000) :
    SmallS (toSS s) /\ (∀ b ∈ (toSS s).blks, ∀ f ∈ b.flds, f.vals.length <= 4000000) /\ (∀ b ∈ (toSS s).blks, PosB b) /\ ∀ b ∈ (toSS s).blks, LnB 1000000 b := by
 unfold parseL at h
 cases e : lexS l 1 with
 | err m => rw [e] at h; cases h
 | ok ts ln =>
  rw [e] at h
  cases e2 : sourceP (ts ++ [⟨5, [], ln⟩]) with
  | bad m =>
   replace h : (match sourceP (ts ++ [⟨5, [], ln⟩]) with
    | .ok s _ => Ans.ok s
    | .bad m => Ans.err m) = .ok s := h
   rw [e2] at h
   cases h
  | ok s2 r =>
   replace h : (match sourceP (ts ++ [⟨5, [], ln⟩]) with
    | .ok s _ => Ans.ok s
    | .bad m => Ans.err m) = .ok s := h
   rw [e2] at h
   injection h with h
   subst h
   have hw := (lexS_good _ l 1 ts ln (Nat.le_refl _) e).2
   have hn := lexS_lines _ l 1 ts ln (Nat.le_refl _) e
   have hm := lexS_last l 1 ts ln e
   have hg : GdT 1000000 (ts ++ [⟨5, [], ln⟩]) := by
    intro t ht
    rcases List.mem_append.1 ht with ht | ht
    . have := wgt_mem ht
      exact ⟨(hn.2 t ht).1, by omega, by have := (hn.2 t ht).2.1; omega⟩
    . have : t = ⟨5, [], ln⟩ := by simpa using ht
      subst this
      exact ⟨hn.1, by show 2 * 0 + 1 <= _; omega, by show ln <= _; omega⟩
   obtain ⟨a, b⟩ := sourceP_gd e2 hg
   refine small_src a b (Nat.le_refl _) ?_
   have := wgt_len ts
   rw [List.length_append]
   show ts.length + 1 <= _
   omega
theorem toSB_up (n : Nat) (b : Blc) : toSB (b.up n) = (toSB b).up (n : Int) := by
 have hf : ∀ f : Fld, toSF (f.up n) = (toSF f).up (n : Int) := fun f => by
  show SFld.mk f.key f.vals (((f.line + n : Nat)) : Int) = SFld.mk f.key f.vals ((f.line : Int) + (n : Int))
  rw [Int.natCast_add]
 show SBlc.mk b.kind b.name ((b.flds.map (Fld.up n)).map toSF) (((b.line + n : Nat)) : Int) = SBlc.mk b.kind b.name ((b.flds.map toSF).map (SFld.up (n : Int))) ((b.line : Int) + (n : Int))
 rw [Int.natCast_add, List.map_map, List.map_map, List.map_congr_left (f := toSF ∘ Fld.up n) (g := SFld.up (n : Int) ∘ toSF) (fun f _ => hf f)]
theorem toSS_up (n : Nat) (s : Src) : toSS (s.up n) = (toSS s).up (n : Int) := by
 show SSrc.mk s.title ((s.blks.map (Blc.up n)).map toSB) = SSrc.mk s.title ((s.blks.map toSB).map (SBlc.up (n : Int)))
 rw [List.map_map, List.map_map, List.map_congr_left (f := toSB ∘ Blc.up n) (g := SBlc.up (n : Int) ∘ toSB) (fun b _ => toSB_up n b)]
theorem gap_comp {l : List UInt8} {s : Src} (n : Nat) (h : parseL l = .ok s) (hl : l.length <= 20000) : parseL (gapL n ++ l) = .ok (s.up n) /\ (compS (toSS (s.up n))).1 = shiftF (n : Int) (compS (toSS s)).1 := by
 have hr := parseL_gap n l
 rw [h] at hr
 obtain ⟨_, _, hp, _⟩ := small_parse h hl
 refine ⟨?_, by rw [toSS_up]; exact compS_up _ _ hp⟩
 cases e : parseL (gapL n ++ l) with
 | err k => rw [e] at hr; exact hr.elim
 | ok t => rw [e] at hr; exact congrArg Ans.ok hr
end Lx
end Go.Proofs.YtemdkkphmldgjaaGreatDoor
namespace Go.Proofs.YtemdkkphmldgjaaGreatDoor
open Go.RowKit Lx
def BadP (w : World) (g gt n c : Nat) (ts : List Tok) (ln : Nat) : Prop := ∃ l, AtP w g gt n c ts l /\ lineP l = ln
def PValOut (w' : World) (g gt n c : Nat) (ts : List Tok) (p : PR (List UInt8)) (e : Ending) : Prop := match p with
 | .ok a r => e = .returned (.tuple #[.string (stg a), .bool true]) /\ AtP w' g gt n c ts r
 | .bad ln => (∃ S, e = .returned (.tuple #[.string S, .bool false])) /\ BadP w' g gt n c ts ln
theorem pValue_c (w : World) (g gt n c : Nat) (ts l : List Tok) (h : AtP w g gt n c ts l) (he : EndsT ts) (hsz : ∀ t ∈ ts, t.text.length <= 500000) :
    Calls Tryz.prog 191 #[.pointer (some ⟨g, 0, none⟩)] w fun e w' => PValOut w' g gt n c ts (valueP l) e /\ w.grownBy w' (some g) := by
 obtain ⟨i, t, r, hP, ht, rfl, hr⟩ := h.head
 have hts : t.text.length <= 500000 := hsz t (List.mem_of_getElem? ht)
 have hts' : (stg t.text).size <= 500000 := by rw [<- bys_len, bys_stg]; exact hts
 clear hP ht hr
 by_cases k1 : t.kind = 1
 . have HV : Hid (valueP (t :: r) = .ok t.text r) := by
    show _ = _
    rw [valueP_def]
    simp only [show atKind 1 (t :: r) = true from decide_eq_true k1]
    exact if_pos k1
   have HT := Lib.hid (pTake_yes w g gt n c ts r t h he 1 k1 (by decide))
   clear h k1
   obtain ⟨P, hP⟩ : ∃ P, Hid (valueP (t :: r) = P) := ⟨_, rfl⟩
   rw [hP.out]
   go_enter Tryz.func191, Tryz.ntmps191
   go_wp2_with fail
   refine HT.out.mono ?_
   rintro e w1 ⟨rfl, hA, hG⟩
   obtain ⟨V0, V, e1, e2, AV, BV, hz, f0, f1, f2, f3, f4, f5⟩ := new_put3 w1 87 (.int .i64 0) (.string ⟨#[]⟩) (.int .i64 0) (.int .i64 (t.kind : Int)) (.string (stg t.text)) (.int .i64 (t.line : Int))
   have hA := Lib.hid (hA.keep BV)
   have hG := Lib.hid (grown_on hG (grown_below BV _))
   have q1 : V.cell? ⟨w1.heap.size, 1, none⟩ = some (.string (stg t.text)) := AV.cell 1
   clear HT AV BV
   go_wp2_with fail
   go_ret2
   refine ⟨?_, hG.out⟩
   rw [<- hP.out, HV.out]
   exact ⟨rfl, hA.out⟩
 . have HT := Lib.hid (pTake_not w g gt n c ts r t h 1 k1)
   clear h
   obtain ⟨P, hP⟩ : ∃ P, Hid (valueP (t :: r) = P) := ⟨_, rfl⟩
   rw [hP.out]
   by_cases k3 : t.kind = 3
   . have HV : Hid (valueP (t :: r) = .ok t.text r) := by
      show _ = _
      rw [valueP_def]
      simp only [show atKind 1 (t :: r) = false from decide_eq_false k1, show atKind 3 (t :: r) = true from decide_eq_true k3]
      exact if_pos k3
     have k1' := Lib.hid k1
     have k3' := Lib.hid k3
     clear k1 k3
     go_enter Tryz.func191, Tryz.ntmps191
     go_wp2_with fail
     refine HT.out.mono ?_
     rintro e w1 ⟨rfl, hA, hG⟩
     obtain ⟨V0, V, e1, e2, AV, BV, hz, f0, f1, f2, f3, f4, f5⟩ := new_put3 w1 87 (.int .i64 0) (.string ⟨#[]⟩) (.int .i64 0) (.int .i64 0) (.string ⟨#[]⟩) (.int .i64 0)
     have HT2 := Lib.hid (pTake_yes V g gt n c ts r t (hA.keep BV) he 3 k3'.out (by decide))
     have hG := Lib.hid (grown_on hG (grown_below BV _))
     clear HT AV BV hA
     go_wp2_with fail
     clear e1 e2 f0 f1 f2 f3 f4 f5 hz
     refine HT2.out.mono ?_
     rintro e w2 ⟨rfl, hA, hG2⟩
     obtain ⟨U0, U, e1, e2, AV, BV, hz, f0, f1, f2, f3, f4, f5⟩ := new_put3 w2 87 (.int .i64 0) (.string ⟨#[]⟩) (.int .i64 0) (.int .i64 (t.kind : Int)) (.string (stg t.text)) (.int .i64 (t.line : Int))
     have hA := Lib.hid (hA.keep BV)
     have hG := Lib.hid (grown_on hG.out (grown_on hG2 (grown_below BV _)))
     have q1 : U.cell? ⟨w2.heap.size, 1, none⟩ = some (.string (stg t.text)) := AV.cell 1
     clear HT2 AV BV hG2
     go_wp2_with fail
     go_ret2
     refine ⟨?_, hG.out⟩
     rw [<- hP.out, HV.out]
     exact ⟨rfl, hA.out⟩
   . have HV : Hid (valueP (t :: r) = (takeK 2 (t :: r)).bind fracP) := by
      show _ = _
      rw [valueP_def]
      simp only [show atKind 1 (t :: r) = false from decide_eq_false k1, show atKind 3 (t :: r) = false from decide_eq_false k3]
      rfl
     have k1' := Lib.hid k1
     have k3' := Lib.hid k3
     clear k1 k3
     go_enter Tryz.func191, Tryz.ntmps191
     go_wp2_with fail
     refine HT.out.mono ?_
     rintro e w1 ⟨rfl, hA, hG⟩
     obtain ⟨V0, V, e1, e2, AV, BV, hz, f0, f1, f2, f3, f4, f5⟩ := new_put3 w1 87 (.int .i64 0) (.string ⟨#[]⟩) (.int .i64 0) (.int .i64 0) (.string ⟨#[]⟩) (.int .i64 0)
     have HT2 := Lib.hid (pTake_not V g gt n c ts r t (hA.keep BV) 3 k3'.out)
     have hG := Lib.hid (grown_on hG (grown_below BV _))
     clear HT AV BV hA
     go_wp2_with fail
     clear e1 e2 f0 f1 f2 f3 f4 f5 hz
     refine HT2.out.mono ?_
     rintro e w2 ⟨rfl, hA, hG2⟩
     obtain ⟨U0, U, e1, e2, AV, BV, hz, f0, f1, f2, f3, f4, f5⟩ := new_put3 w2 87 (.int .i64 0) (.string ⟨#[]⟩) (.int .i64 0) (.int .i64 0) (.string ⟨#[]⟩) (.int .i64 0)
     have hG := Lib.hid (grown_on hG.out (grown_on hG2 (grown_below BV _)))
     have hA := hA.keep BV
     clear HT2 AV BV hG2
     by_cases k2 : t.kind = 2
     . have HT3 := Lib.hid (pTake_yes U g gt n c ts r t hA he 2 k2 (by decide))
       have HV : Hid (P = fracP t.text r) := by
        show _ = _
        rw [<- hP.out, HV.out, show takeK 2 (t :: r) = .ok t.text r from if_pos k2]
        rfl
       clear hA k2
       go_wp2_with fail
       clear e1 e2 f0 f1 f2 f3 f4 f5 hz
       refine HT3.out.mono ?_
       rintro e w3 ⟨rfl, hA, hG3⟩
       obtain ⟨W0, W, e1, e2, AV, BV, hz, f0, f1, f2, f3, f4, f5⟩ := new_put3 w3 87 (.int .i64 0) (.string ⟨#[]⟩) (.int .i64 0) (.int .i64 (t.kind : Int)) (.string (stg t.text)) (.int .i64 (t.line : Int))
       have hne3 : Hid (w3.heap.size ≠ g) := fun e => by have := hA.sizes.1; omega
       have hA := hA.keep BV
       have hG := Lib.hid (grown_on hG.out (grown_on hG3 (grown_below BV _)))
       have q1 : W.cell? ⟨w3.heap.size, 1, none⟩ = some (.string (stg t.text)) := AV.cell 1
       have HM := pMark_c W g gt n c ts r hA he 47
       cases hm : atMark 47 r with
       | false =>
        rw [hm] at HM
        have HV : Hid (P = .ok t.text r) := by show _ = _; rw [HV.out]; unfold fracP; rw [hm]; rfl
        rw [if_neg (by decide)] at HM
        have HM := Lib.hid HM
        have AW := Lib.hid AV
        clear HT3 AV BV hA hm hG3
        go_wp2_with fail
        clear e1 e2 f0 f1 f2 f3 f4 f5 hz
        refine HM.out.mono ?_
        rintro e w4 ⟨rfl, hA, hG4⟩
        have q2 : w4.cell? ⟨w3.heap.size, 1, none⟩ = some (.string (stg t.text)) := (AW.out.grown hG4 hne3.out).cell 1
        have hA := Lib.hid hA
        have hG := Lib.hid (grown_on hG.out hG4)
        clear HM hG4
        go_wp2_with fail
        go_ret2
        refine ⟨?_, hG.out⟩
        rw [HV.out]
        exact ⟨rfl, hA.out⟩
       | true =>
        rw [hm] at HM
        have hdr := hm
        obtain ⟨u, r2, rfl⟩ : ∃ u r2, r = u :: r2 := by
         cases r with
         | nil => cases hm
         | cons u r2 => exact ⟨u, r2, rfl⟩
        rw [if_pos rfl] at HM
        have HV : Hid (P = (takeK 2 r2).bind (fun b r3 => .ok (t.text ++ 47 :: b) r3)) := by show _ = _; rw [HV.out]; unfold fracP; rw [hm, if_pos rfl]; rfl
        have HM := Lib.hid HM
        have AW := Lib.hid AV
        clear HT3 AV BV hA hm hG3 hdr
        go_wp2_with fail
        clear e1 e2 f0 f1 f2 f3 f4 f5 hz
        refine HM.out.mono ?_
        rintro e w4 ⟨rfl, hA, hG4⟩
        have AW := Lib.hid (AW.out.grown hG4 hne3.out)
        have hG := Lib.hid (grown_on hG.out hG4)
        clear HM hG4 q1
        have hA' : AtP w4 g gt n c ts r2 := hA
        obtain ⟨i2, v, r3, _, hv2, rfl, _⟩ := hA'.head
        have hvs : (stg v.text).size <= 500000 := by rw [<- bys_len, bys_stg]; exact hsz v (List.mem_of_getElem? hv2)
        by_cases k4 : v.kind = 2
        . have HT4 := Lib.hid (pTake_yes w4 g gt n c ts r3 v hA' he 2 k4 (by decide))
          have HV : Hid (P = .ok (t.text ++ 47 :: v.text) r3) := by
           show _ = _
           rw [HV.out, show takeK 2 (v :: r3) = .ok v.text r3 from if_pos k4]
           rfl
          clear hA hA' hv2 k4
          go_wp2_with fail
          refine HT4.out.mono ?_
          rintro e w5 ⟨rfl, hA, hG5⟩
          have hne5 : w3.heap.size ≠ w5.heap.size := fun e => by have := AW.out.lt; have := hG5.size; omega
          have A5 := AW.out.grown hG5 hne3.out
          obtain ⟨X0, X, e1, e2, AV, BV, hz, f0, f1, f2, f3, f4, f5⟩ := new_put3 w5 87 (.int .i64 0) (.string ⟨#[]⟩) (.int .i64 0) (.int .i64 (v.kind : Int)) (.string (stg v.text)) (.int .i64 (v.line : Int))
          have hA := Lib.hid (hA.keep BV)
          have hG := Lib.hid (grown_on hG.out (grown_on hG5 (grown_below BV _)))
          have q1 : X.cell? ⟨w5.heap.size, 1, none⟩ = some (.string (stg v.text)) := AV.cell 1
          have q2 : X.cell? ⟨w3.heap.size, 1, none⟩ = some (.string (stg t.text)) := (A5.kept BV).cell 1
          have hcat : Hid (stg t.text ++ (⟨#[47]⟩ : ByteArray) ++ stg v.text = stg (t.text ++ 47 :: v.text)) := by
           show _ = _
           apply bys_inj
           rw [bys_append, bys_append, bys_stg, bys_stg, bys_stg]
           show t.text ++ [47] ++ v.text = _
           simp
          have m1 : (⟨#[47]⟩ : ByteArray).size = 1 := rfl
          obtain ⟨SA, hSA⟩ : ∃ S, Hid (stg t.text = S) := ⟨_, rfl⟩
          obtain ⟨SB, hSB⟩ : ∃ S, Hid (stg v.text = S) := ⟨_, rfl⟩
          rw [hSA.out] at q2 hts' hcat
          rw [hSB.out] at q1 hvs hcat e2 f4 f5 |-
          clear HT4 AV BV hG5 A5 AW
          go_wp2_with fail
          go_ret2
          refine ⟨?_, hG.out⟩
          rw [HV.out]
          refine ⟨?_, hA.out⟩
          rw [<- hcat.out]
          rfl
        . have HT4 := Lib.hid (pTake_not w4 g gt n c ts r3 v hA' 2 k4)
          have HV : Hid (P = .bad v.line) := by
           show _ = _
           rw [HV.out, show takeK 2 (v :: r3) = .bad v.line from if_neg k4]
           rfl
          clear hA hA' hv2 k4
          go_wp2_with fail
          refine HT4.out.mono ?_
          rintro e w5 ⟨rfl, hA, hG5⟩
          have A5 := AW.out.grown hG5 hne3.out
          obtain ⟨X0, X, e1, e2, AV, BV, hz, f0, f1, f2, f3, f4, f5⟩ := new_put3 w5 87 (.int .i64 0) (.string ⟨#[]⟩) (.int .i64 0) (.int .i64 0) (.string ⟨#[]⟩) (.int .i64 0)
          have hA := Lib.hid (hA.keep BV)
          have hG := Lib.hid (grown_on hG.out (grown_on hG5 (grown_below BV _)))
          have q1 : X.cell? ⟨w5.heap.size, 1, none⟩ = some (.string ⟨#[]⟩) := AV.cell 1
          have q2 : X.cell? ⟨w3.heap.size, 1, none⟩ = some (.string (stg t.text)) := (A5.kept BV).cell 1
          have m1 : (⟨#[47]⟩ : ByteArray).size = 1 := rfl
          obtain ⟨SA, hSA⟩ : ∃ S, Hid (stg t.text = S) := ⟨_, rfl⟩
          rw [hSA.out] at q2 hts'
          clear HT4 AV BV hG5 A5 AW
          go_wp2_with fail
          go_ret2
          refine ⟨?_, hG.out⟩
          rw [HV.out]
          exact ⟨⟨_, rfl⟩, _, hA.out, rfl⟩
     . have HT3 := Lib.hid (pTake_not U g gt n c ts r t hA 2 k2)
       have HV : Hid (P = .bad t.line) := by
        show _ = _
        rw [<- hP.out, HV.out, show takeK 2 (t :: r) = .bad t.line from if_neg k2]
        rfl
       clear hA k2
       go_wp2_with fail
       clear e1 e2 f0 f1 f2 f3 f4 f5 hz
       refine HT3.out.mono ?_
       rintro e w3 ⟨rfl, hA, hG3⟩
       obtain ⟨W0, W, e1, e2, AV, BV, hz, f0, f1, f2, f3, f4, f5⟩ := new_put3 w3 87 (.int .i64 0) (.string ⟨#[]⟩) (.int .i64 0) (.int .i64 0) (.string ⟨#[]⟩) (.int .i64 0)
       have hA := Lib.hid (hA.keep BV)
       have hG := Lib.hid (grown_on hG.out (grown_on hG3 (grown_below BV _)))
       have q1 : W.cell? ⟨w3.heap.size, 1, none⟩ = some (.string ⟨#[]⟩) := AV.cell 1
       clear HT3 AV BV hG3
       go_wp2_with fail
       go_ret2
       refine ⟨?_, hG.out⟩
       rw [HV.out]
       exact ⟨⟨_, rfl⟩, _, hA.out, rfl⟩
end Go.Proofs.YtemdkkphmldgjaaGreatDoor
namespace Go.Proofs.YtemdkkphmldgjaaGreatDoor.Lx
theorem takeM_at (c : UInt8) (l : List Tok) : takeM c l = if atMark c l then .ok () (l.drop 1) else .bad (lineP l) := by
 cases l with
 | nil => rfl
 | cons t r => rfl
def morR (acc : List (List UInt8)) (l : List Tok) : PR (List (List UInt8)) := (moreA l).bind fun vs r => .ok (acc ++ vs) r
theorem morR_end {acc : List (List UInt8)} {l : List Tok} (h : atMark 44 l = false) : morR acc l = .ok acc l := by
 unfold morR
 rw [more_any (l := l) (k := l.length + 1) (Nat.le_succ _), moreP, h, if_neg (by decide), PR.bind_ok, List.append_nil]
theorem morR_bad {acc : List (List UInt8)} {l : List Tok} {e : Nat} (h : atMark 44 l = true) (hv : valueP (l.drop 1) = .bad e) : morR acc l = .bad e := by
 unfold morR
 rw [more_any (l := l) (k := l.length + 1) (Nat.le_succ _), moreP, h, if_pos rfl, hv]
 rfl
theorem morR_ok {acc : List (List UInt8)} {l r : List Tok} {v : List UInt8} (h : atMark 44 l = true) (hv : valueP (l.drop 1) = .ok v r) : morR acc l = morR (acc ++ [v]) r := by
 unfold morR
 have h1 := value_lt hv
 rw [List.length_drop] at h1
 rw [more_any (l := l) (k := l.length + 1) (Nat.le_succ _), moreP, h, if_pos rfl, hv, PR.bind_ok, more_any (l := r) (k := l.length) (by omega)]
 cases moreP l.length r with
 | bad e => rfl
 | ok vs q =>
  rw [PR.bind_ok, PR.bind_ok, PR.bind_ok, List.append_assoc]
  rfl
def tailF (key : List UInt8) (ln : Nat) (p : PR (List (List UInt8))) : PR Fld := p.bind fun vs r => (takeM 59 r).bind fun _ r2 => .ok ⟨key, vs, ln⟩ r2
theorem fieldP_step (l : List Tok) : fieldP l = (takeK 1 l).bind fun key r => tailF key (lineP l) ((valueP r).bind fun v r2 => morR [v] r2) := by
 rw [fieldP_Q]
 unfold fieldQ
 cases takeK 1 l with
 | bad e => rfl
 | ok key r =>
  rw [PR.bind_ok, PR.bind_ok]
  cases valueP r with
  | bad e => rfl
  | ok v r2 =>
   rw [PR.bind_ok, PR.bind_ok]
   unfold tailF morR
   cases moreA r2 with
   | bad e => rfl
   | ok vs r3 => rfl
def untR {α : Type} (p : List Tok -> PR α) (acc : List α) (l : List Tok) : PR (List α) := (untilP p (l.length + 1) l).bind fun fs r => .ok (acc ++ fs) r
section
variable {α : Type} {p : List Tok -> PR α} {acc : List α} {l r : List Tok}
theorem untR_end (h : atMark 125 l = true) : untR p acc l = .ok acc l := by
 unfold untR
 rw [untilP, h, if_pos rfl, PR.bind_ok, List.append_nil]
theorem untR_bad {e : Nat} (h : atMark 125 l = false) (hp : p l = .bad e) : untR p acc l = .bad e := by
 unfold untR
 rw [untilP, h, if_neg (by decide), hp]
 rfl
theorem untR_ok {a : α} (hlt : ∀ l a r, p l = .ok a r -> r.length < l.length) (h : atMark 125 l = false) (hp : p l = .ok a r) : untR p acc l = untR p (acc ++ [a]) r := by
 unfold untR
 have h1 := hlt l a r hp
 rw [untilP, h, if_neg (by decide), hp, PR.bind_ok, until_fuel hlt r.length r l.length (r.length + 1) (Nat.le_refl _) h1 (Nat.lt_succ_self _)]
 cases untilP p (r.length + 1) r with
 | bad e => rfl
 | ok fs q =>
  rw [PR.bind_ok, PR.bind_ok, PR.bind_ok, List.append_assoc]
  rfl
theorem untR_nil : untR p [] l = untilP p (l.length + 1) l := by
 unfold untR
 cases untilP p (l.length + 1) l <;> rfl
end
def tailB2 (kind name : List UInt8) (ln : Nat) (p : PR (List Fld)) : PR Blc := p.bind fun fs r => (takeM 125 r).bind fun _ r2 => .ok ⟨kind, name, fs, ln⟩ r2
theorem blockP_step (l : List Tok) : blockP l = (takeK 1 l).bind fun kind r => (nameR r).bind fun name r2 => (takeM 123 r2).bind fun _ r3 => tailB2 kind name (lineP l) (untR fieldP [] r3) := by
 rw [blockP_Q]
 unfold blockQ
 simp only [untR_nil]
 rfl
def tailS (title : List UInt8) (p : PR (List Blc)) : PR Src := p.bind fun bs r => (takeM 125 r).bind fun _ r2 => (takeK 5 r2).bind fun _ r3 => .ok ⟨title, bs⟩ r3
theorem sourceP_step (l : List Tok) : sourceP l = (takeE l).bind fun _ r => (takeK 3 r).bind fun title r2 => (takeM 123 r2).bind fun _ r3 => tailS title (untR blockP [] r3) := by
 unfold sourceP
 simp only [blocksP_until, untR_nil]
 rfl
end Go.Proofs.YtemdkkphmldgjaaGreatDoor.Lx
namespace Go.Proofs.YtemdkkphmldgjaaGreatDoor
open Go.RowKit Lx
theorem infoS : (Tryz.prog.info? 9).map (fun i => (i.zero, i.size, i.bytes)) = some (some (.string ⟨#[]⟩), 1, 16) := by kernel_rfl
def PFldOut (B : Nat) (w' : World) (g gt n c : Nat) (ts : List Tok) (p : PR Fld) (e : Ending) : Prop := match p with
 | .ok f r => (∃ ao m d, e = .returned (.tuple #[.agg #[.string (stg f.key), .slice ao m d, .int .i64 (f.line : Int)], .bool true]) /\ StrL (ownF B [9]) w' ao m d f.vals) /\ AtP w' g gt n c ts r
 | .bad ln => (∃ S ao m d z, e = .returned (.tuple #[.agg #[.string S, .slice ao m d, .int .i64 z], .bool false])) /\ BadP w' g gt n c ts ln
theorem pField_c (w : World) (g gt n c : Nat) (ts l : List Tok) (h : AtP w g gt n c ts l) (he : EndsT ts) (hsz : ∀ t ∈ ts, t.text.length <= 500000) (hts : ts.length <= 1000000) :
    Calls Tryz.prog 139 #[.pointer (some ⟨g, 0, none⟩)] w fun e w' => PFldOut w.heap.size w' g gt n c ts (fieldP l) e /\ w.grownBy w' (some g) := by
 obtain ⟨i, t, r, hP, ht, rfl, hr⟩ := h.head
 obtain ⟨hg, hgt⟩ := h.sizes
 clear hP ht hr
 obtain ⟨V, e1, AV, BV, hz⟩ := new_box w 63 [.string ⟨#[]⟩, .slice none 0 0, .int .i64 0]
 have hA := h.keep BV
 have hG := Lib.hid (grown_below BV (some g))
 obtain ⟨b, hb⟩ : ∃ b, w.heap.size = b := ⟨_, rfl⟩
 rw [hb] at AV BV hz hg hgt
 obtain ⟨P, hP⟩ : ∃ P, Hid (fieldP (t :: r) = P) := ⟨_, rfl⟩
 rw [hP.out]
 clear h BV
 by_cases k1 : t.kind = 1
 . have HT := Lib.hid (pTake_yes V g gt n c ts r t hA he 1 k1 (by decide))
   have HV : Hid (P = tailF t.text t.line ((valueP r).bind fun v r2 => morR [v] r2)) := by
    show _ = _
    rw [<- hP.out, fieldP_step, show takeK 1 (t :: r) = .ok t.text r from if_pos k1]
    rfl
   have AV := Lib.hid AV
   have hg' := Lib.hid hg
   have hgt' := Lib.hid hgt
   clear hA k1 hP hg hgt
   go_enter Tryz.func139, Tryz.ntmps139
   go_wp2_with fail
   refine HT.out.mono ?_
   rintro e w1 ⟨rfl, hA, hG1⟩
   obtain ⟨U0, U, e2, e3, AU, BU, hz2, f0, f1, f2, f3, f4, f5⟩ := new_put3 w1 87 (.int .i64 0) (.string ⟨#[]⟩) (.int .i64 0) (.int .i64 (t.kind : Int)) (.string (stg t.text)) (.int .i64 (t.line : Int))
   obtain ⟨X0, X, e4, e5, AX, BX, hz3, d0, d1, d2, d3, d4, d5⟩ := new_put3 U 63 (.string ⟨#[]⟩) (.slice none 0 0) (.int .i64 0) (.string (stg t.text)) (.slice none 0 0) (.int .i64 (t.line : Int))
   have hA := (hA.keep BU).keep BX
   have GW := grown_on hG.out (grown_on hG1 (grown_on (grown_below BU _) (grown_below BX _)))
   have RX : Arr X b 63 [.string ⟨#[]⟩, .slice none 0 0, .int .i64 0] := ((AV.out.grown hG1 (by have := hg'.out; omega)).kept BU).kept BX
   have hs1 : V.heap.size <= w1.heap.size := hG1.size
   have q1 : U.cell? ⟨w1.heap.size, 1, none⟩ = some (.string (stg t.text)) := AU.cell 1
   have q2 : U.cell? ⟨w1.heap.size, 2, none⟩ = some (.int .i64 (t.line : Int)) := AU.cell 2
   have Fh : Hid (FSt w X g U.heap.size (.string (stg t.text)) (.int .i64 (t.line : Int)) none 0 0 []) := by
    refine ⟨by rw [hb]; exact World.ownsRow_nil _ _ _ _, AX, by rw [hb]; exact RX, GW, by omega, by have := hg'.out; omega⟩
   obtain ⟨fb, hfb⟩ : ∃ fb, U.heap.size = fb := ⟨_, rfl⟩
   rw [hfb] at Fh e5 d0 d1 d2 d3 d4 d5
   have hlen : 0 + r.length <= ts.length := by have := hA.sub; omega
   have hA0 := Lib.hid hA
   clear HT AU BU AX BX hG1 GW RX hs1 hA hz2
   go_wp2_with fail
   clear e2 e3 e4 e5 f0 f1 f2 f3 f4 f5 d0 d1 d2 d3 d4 d5 q1 q2
   go_loopw [7, 8] (fun _ _ wr => ∃ (ao : Option Addr) (m d : Nat) (l : List Tok) (vs : List (List UInt8)), AtP wr g gt n c ts l /\ FSt w wr g fb (.string (stg t.text)) (.int .i64 (t.line : Int)) ao m d vs /\ Hid (P = tailF t.text t.line ((valueP l).bind fun v r2 => morR (vs ++ [v]) r2)) /\ m + l.length <= ts.length) (fun _ _ wr => psN g wr)
   case atStart => exact ⟨none, 0, 0, r, [], hA0.out, Fh.out, HV, hlen⟩
   case round =>
    clear hA0 Fh HV hlen
    obtain ⟨ao, m, d, l, vs, hA, Fh, hR, hm⟩ := hrel
    have hme := Lib.hid hA.psN
    have HVv := pValue_c wr g gt n c ts l hA he hsz
    cases hv : valueP l with
    | bad ln =>
     rw [hv] at HVv hR
     have HVv := Lib.hid HVv
     have Fh := Lib.hid Fh
     have hR : Hid (P = .bad ln) := hR.out
     clear hA hv
     go_wp2_with fail
     refine HVv.out.mono ?_
     rintro e w2 ⟨⟨⟨S, rfl⟩, hB⟩, G2⟩
     have FS2 := Fh.out.call G2
     have hR2 := FS2.res
     rw [hb] at hR2
     obtain ⟨Y, e6, hY, AY, f0, f1, f2, f3, f4, f5⟩ := put_box3 hR2 (.string ⟨#[]⟩) (.slice none 0 0) (.int .i64 0)
     have q0 : Y.cell? ⟨b, 0, none⟩ = some (.string ⟨#[]⟩) := AY.cell 0
     have q1 : Y.cell? ⟨b, 1, none⟩ = some (.slice none 0 0) := AY.cell 1
     have q2 : Y.cell? ⟨b, 2, none⟩ = some (.int .i64 0) := AY.cell 2
     have GY : Hid (w.grownBy Y (some g)) := by show World.grownBy _ _ _; rw [hY.out]; exact grown_put3 FS2.grown (by omega) _ _ _
     have BY : Hid (BadP Y g gt n c ts ln) := by
      obtain ⟨l', h1, h2⟩ := hB
      exact ⟨l', by rw [hY.out]; exact h1.put3 (by have := hg'.out; omega) (by have := hgt'.out; omega) _ _ _, h2⟩
     clear HVv Fh FS2 hR2 AY hB G2
     go_wp2_with fail
     refine bodyPost_ret (v := .tuple #[.agg #[.string ⟨#[]⟩, .slice none 0 0, .int .i64 0], .bool false]) (by simp [results, Tryz.results139, go_sem, q0, q1, q2]) rfl ?_
     refine ⟨?_, GY.out⟩
     rw [hR.out]
     exact ⟨⟨_, _, _, _, _, rfl⟩, BY.out⟩
    | ok v r2 =>
     rw [hv] at HVv hR
     have HVv := Lib.hid HVv
     have hR : Hid (P = tailF t.text t.line (morR (vs ++ [v]) r2)) := hR.out
     have hlt := value_lt hv
     have Fh := Lib.hid Fh
     clear hA hv
     go_wp2_with fail
     refine HVv.out.mono ?_
     rintro e w2 ⟨⟨rfl, hA2⟩, G2⟩
     have FS2 := Fh.out.call G2
     have y1 : w2.cell? ⟨fb, 1, none⟩ = some (.slice ao m d) := FS2.box.cell 1
     have hs2 : b <= w2.heap.size := by have := FS2.res.lt; omega
     have O2 := Lib.hid FS2.own
     have hA2 := Lib.hid hA2
     have FS2 := Lib.hid FS2
     clear HVv Fh G2
     go_wp2_with (at_builtin; refine wpList_appR (vs := [.string (stg v)]) Tryz.underlying26 infoS rfl (by decide) (by decide) O2.out (by omega) (by omega) rfl (by intro u hu; simp at hu; subst hu; rfl) rfl rfl ?_)
     intro ao3 d3 w3 O3 G3 B3
     obtain ⟨Y, e6, FS3, hY, f0, f1⟩ := FS2.out.push O3 G3 B3
     have hA3 : AtP Y g gt n c ts r2 := by
      rw [hY.out]
      exact (hA2.out.low B3 (by rw [hb]; exact hg'.out) (by rw [hb]; exact hgt'.out)).far (by show g ≠ fb; have := FS3.new; have := hg'.out; omega) (by show gt ≠ fb; have := FS3.new; have := hgt'.out; omega) _
     have HM := pMark_c Y g gt n c ts r2 hA3 he 44
     cases hm2 : atMark 44 r2 with
     | true =>
      rw [hm2] at HM
      rw [if_pos rfl] at HM
      have HM := Lib.hid HM
      have hm2 := Lib.hid hm2
      have FS3 := Lib.hid FS3
      clear hA3 O3 G3 B3 hA2 O2 FS2
      go_wp2_with fail
      clear e6 f0 f1 y1
      refine HM.out.mono ?_
      rintro e w4 ⟨rfl, hA4, G4⟩
      have hA4 := Lib.hid hA4
      have FS4 := Lib.hid (FS3.out.call G4)
      clear HM FS3 G4
      go_wp2_with fail
      go_roundw
      case rel =>
       refine ⟨ao3, m + 1, d3, r2.drop 1, vs ++ [v], hA4.out, FS4.out, ?_, by rw [List.length_drop]; omega⟩
       show _ = _
       rw [hR.out]
       congr 1
       cases hv2 : valueP (r2.drop 1) with
       | bad e => rw [morR_bad hm2.out hv2]; rfl
       | ok v2 r3 => rw [morR_ok hm2.out hv2]; rfl
      case measure => rw [hA4.out.psN, hme.out, List.length_drop]; omega
     | false =>
      rw [hm2] at HM
      rw [if_neg (by decide)] at HM
      have HM := Lib.hid HM
      have hR : Hid (P = tailF t.text t.line (.ok (vs ++ [v]) r2)) := by show _ = _; rw [hR.out, morR_end hm2]
      have FS3 := Lib.hid FS3
      clear hA3 O3 G3 B3 hA2 O2 FS2 hm2
      go_wp2_with fail
      clear e6 f0 f1 y1
      refine HM.out.mono ?_
      rintro e w4 ⟨rfl, hA4, G4⟩
      have FS4 := FS3.out.call G4
      have hA5 := hA4.keep (Below.drew (Below.refl _ _))
      have FS5 := FS4.keep (Below.drew (Below.refl _ _))
      have HM2 := Lib.hid (pMark_c w4.drew g gt n c ts r2 hA5 he 59)
      have q0 : w4.drew.cell? ⟨fb, 0, none⟩ = some (.string (stg t.text)) := FS5.box.cell 0
      have q1 : w4.drew.cell? ⟨fb, 1, none⟩ = some (.slice ao3 (m + 1) d3) := FS5.box.cell 1
      have q2 : w4.drew.cell? ⟨fb, 2, none⟩ = some (.int .i64 (t.line : Int)) := FS5.box.cell 2
      have FS5 := Lib.hid FS5
      have hA5 := Lib.hid hA5
      clear HM FS3 FS4 hA4 G4
      go_wp2_with fail
      go_region_held3 (fun w' => w'.cell? ⟨fb, 0, none⟩ = some (.string (stg t.text)) /\ w'.cell? ⟨fb, 1, none⟩ = some (.slice ao3 (m + 1) d3) /\ w'.cell? ⟨fb, 2, none⟩ = some (.int .i64 (t.line : Int))) (go_keep) (first
        | (go_at_call 81; refine HM2.out.mono ?_; rintro e w5 ⟨rfl, hA6, G5⟩; have FS6 := FS5.out.call G5; have z0 : w5.cell? ⟨fb, 0, none⟩ = some (.string (stg t.text)) := FS6.box.cell 0; have z1 : w5.cell? ⟨fb, 1, none⟩ = some (.slice ao3 (m + 1) d3) := FS6.box.cell 1; have z2 : w5.cell? ⟨fb, 2, none⟩ = some (.int .i64 (t.line : Int)) := FS6.box.cell 2; have hR2 := FS6.res; rw [hb] at hR2; obtain ⟨Y5, e6, hY, AY, f0, f1, f2, f3, f4, f5⟩ := put_box3 hR2 (.string (stg t.text)) (.slice ao3 (m + 1) d3) (.int .i64 (t.line : Int)); have EY := FS6.box.off3 (b := b) (by have := FS6.new; omega) (.string (stg t.text)) (.slice ao3 (m + 1) d3) (.int .i64 (t.line : Int)); rw [<- hY.out] at EY; have p0 : Y5.cell? ⟨fb, 0, none⟩ = some (.string (stg t.text)) := EY.cell 0; have p1 : Y5.cell? ⟨fb, 1, none⟩ = some (.slice ao3 (m + 1) d3) := EY.cell 1; have p2 : Y5.cell? ⟨fb, 2, none⟩ = some (.int .i64 (t.line : Int)) := EY.cell 2; have FS6 := Lib.hid FS6; have hA6 := Lib.hid hA6; have AY := Lib.hid AY; clear hR2 G5 EY)
        | fail)
      all_goals
        go_wp2_with fail
        have r0 : Y5.cell? ⟨b, 0, none⟩ = some (.string (stg t.text)) := AY.out.cell 0
        have r1 : Y5.cell? ⟨b, 1, none⟩ = some (.slice ao3 (m + 1) d3) := AY.out.cell 1
        have r2' : Y5.cell? ⟨b, 2, none⟩ = some (.int .i64 (t.line : Int)) := AY.out.cell 2
        have GY : Hid (w.grownBy Y5 (some g)) := by show World.grownBy _ _ _; rw [hY.out]; exact grown_put3 FS6.out.grown (by omega) _ _ _
        have AT : Hid (AtP Y5 g gt n c ts (if atMark 59 r2 = true then r2.drop 1 else r2)) := by show AtP _ _ _ _ _ _ _; rw [hY.out]; exact hA6.out.put3 (by have := hg'.out; omega) (by have := hgt'.out; omega) _ _ _
        have SL : Hid (StrL (ownF w.heap.size [9]) Y5 ao3 (m + 1) d3 (vs ++ [v])) := by
         show StrL _ _ _ _ _ _
         have hk : Keeps (ownF w.heap.size [9]) w5 Y5 := by
          rw [hY.out]
          have k1 := keeps_set_kind (lo := w.heap.size) (Es := [9]) (i := 0) FS6.out.res (by decide) (.string (stg t.text))
          have k2 := keeps_set_kind (lo := w.heap.size) (Es := [9]) (i := 1) (FS6.out.res.set 0 (.string (stg t.text))) (by decide) (.slice ao3 (m + 1) d3)
          have k3 := keeps_set_kind (lo := w.heap.size) (Es := [9]) (i := 2) ((FS6.out.res.set 0 (.string (stg t.text))).set 1 (.slice ao3 (m + 1) d3)) (by decide) (.int .i64 (t.line : Int))
          rw [hb] at k1 k2 k3
          rw [hb]
          exact (k1.trans (stable_own _ _) (by simp [World.setCell]) k2).trans (stable_own _ _) (by simp [World.setCell]) k3
         exact FS6.out.strs.keep (stable_own _ _) hk
        refine bodyPost_ret (v := .tuple #[.agg #[.string (stg t.text), .slice ao3 (m + 1) d3, .int .i64 (t.line : Int)], .bool (atMark 59 r2)]) (by simp [results, Tryz.results139, go_sem, r0, r1, r2']) rfl ?_
        refine ⟨?_, GY.out⟩
        have AT := AT.out
        rw [hR.out]
        unfold tailF
        rw [PR.bind_ok, takeM_at]
        cases hm9 : atMark 59 r2 with
        | true =>
         rw [hm9, if_pos rfl] at AT
         exact ⟨⟨ao3, m + 1, d3, rfl, SL.out⟩, AT⟩
        | false =>
         rw [hm9, if_neg (by decide)] at AT
         exact ⟨⟨_, _, _, _, _, rfl⟩, r2, AT, rfl⟩
 . have HT := Lib.hid (pTake_not V g gt n c ts r t hA 1 k1)
   have HV : Hid (P = .bad t.line) := by
    show _ = _
    rw [<- hP.out, fieldP_step, show takeK 1 (t :: r) = .bad t.line from if_neg k1]
    rfl
   have AV := Lib.hid AV
   have hg' := Lib.hid hg
   have hgt' := Lib.hid hgt
   clear hA k1 hP hg hgt
   go_enter Tryz.func139, Tryz.ntmps139
   go_wp2_with fail
   refine HT.out.mono ?_
   rintro e w1 ⟨rfl, hA, hG1⟩
   obtain ⟨U0, U, e2, e3, AU, BU, hz2, f0, f1, f2, f3, f4, f5⟩ := new_put3 w1 87 (.int .i64 0) (.string ⟨#[]⟩) (.int .i64 0) (.int .i64 0) (.string ⟨#[]⟩) (.int .i64 0)
   have hA := hA.keep BU
   have GW := grown_on hG.out (grown_on hG1 (grown_below BU _))
   have RX : Arr U b 63 [.string ⟨#[]⟩, .slice none 0 0, .int .i64 0] := (AV.out.grown hG1 (by have := hg'.out; omega)).kept BU
   obtain ⟨Y, e6, hY, AY, d0, d1, d2, d3, d4, d5⟩ := put_box3 RX (.string ⟨#[]⟩) (.slice none 0 0) (.int .i64 0)
   have q0 : Y.cell? ⟨b, 0, none⟩ = some (.string ⟨#[]⟩) := AY.cell 0
   have q1 : Y.cell? ⟨b, 1, none⟩ = some (.slice none 0 0) := AY.cell 1
   have q2 : Y.cell? ⟨b, 2, none⟩ = some (.int .i64 0) := AY.cell 2
   have GY : Hid (w.grownBy Y (some g)) := by show World.grownBy _ _ _; rw [hY.out]; exact grown_put3 GW (by omega) _ _ _
   have BY : Hid (BadP Y g gt n c ts t.line) := ⟨t :: r, by rw [hY.out]; exact hA.put3 (by have := hg'.out; omega) (by have := hgt'.out; omega) _ _ _, rfl⟩
   clear HT AU BU hG1 GW RX AY hA
   go_wp2_with fail
   refine bodyPost_ret (v := .tuple #[.agg #[.string ⟨#[]⟩, .slice none 0 0, .int .i64 0], .bool false]) (by simp [results, Tryz.results139, go_sem, q0, q1, q2]) rfl ?_
   refine ⟨?_, GY.out⟩
   rw [HV.out]
   exact ⟨⟨_, _, _, _, _, rfl⟩, BY.out⟩
end Go.Proofs.YtemdkkphmldgjaaGreatDoor
