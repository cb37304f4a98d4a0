/-
  Texts of the proof, put together: SchElc SchPl SchStr.
-/
import Derived.Test.YtemdkkphmldgjaaGreatDoorPkA5
set_option maxRecDepth 100000
set_option maxHeartbeats 1600000
namespace Go.Proofs.YtemdkkphmldgjaaGreatDoor
open Go.RowKit Lx
def IntL (k : IntKind) (S : World -> Nat -> Prop) (w : World) (ao : Option Addr) (n c : Nat) (xs : List Int) : Prop := Row S 1 w ao n c (xs.map (Value.int k))
def CC (S : World -> Nat -> Prop) (w : World) : List Cst -> List Value -> Prop
  | [], us => us = []
  | x :: xs, us => ∃ vo vn vc r, us = .string (stg x.name) :: .slice vo vn vc :: .int .i64 x.method :: .int .i64 x.seats :: .int .i64 x.ranks :: .int .i64 x.digits :: .int .i64 x.ties :: .int .i64 x.over :: .int .i64 x.skip :: r /\ StrL S w vo vn vc x.cands /\ CC S w xs r
def CstS (S : World -> Nat -> Prop) (w : World) (ao : Option Addr) (n c : Nat) (xs : List Cst) : Prop := ∃ us, Row S 9 w ao n c us /\ CC S w xs us
def TC (S : World -> Nat -> Prop) (w : World) : List Sty -> List Value -> Prop
  | [], us => us = []
  | x :: xs, us => ∃ po pn pc ko kn kc r, us = .string (stg x.name) :: .slice po pn pc :: .slice ko kn kc :: r /\ IntL .i64 S w po pn pc x.precs /\ IntL .i64 S w ko kn kc x.conts /\ TC S w xs r
def StyS (S : World -> Nat -> Prop) (w : World) (ao : Option Addr) (n c : Nat) (xs : List Sty) : Prop := ∃ us, Row S 3 w ao n c us /\ TC S w xs us
section
variable {S T : World -> Nat -> Prop} {n c : Nat} {w w' : World} {ao : Option Addr} {k : IntKind}
theorem IntL.len {xs : List Int} (h : IntL k S w ao n c xs) : xs.length = n := by have := Row.len h; simpa using this
theorem IntL.get {t e : TypeId} (ht : Tryz.prog.underlying t = some (.slice e)) (he : (Tryz.prog.info? e).map (·.size) = some 1) {xs : List Int} (h : IntL k S w ao n c xs) (i : Nat) (hi : i < n) : ∃ (x : Int) (a : Addr), xs[i]? = some x /\
    (∀ W, (Instr.indexAt t (.slice ao n c) (.int .i64 (i : Int))).run Tryz.prog W = .ok (.pointer (some a)) W) /\ w.cell? a = some (.int k x) := by
 obtain ⟨x, hx⟩ : ∃ x, xs[i]? = some x := ⟨_, List.getElem?_eq_getElem (by rw [h.len]; exact hi)⟩
 have hr := run_ix ht he h i hi
 rw [Nat.mul_one] at hr
 exact ⟨x, pt ao i, hx, hr, (Row.cell h i _ (by rw [List.getElem?_map, hx]; rfl)).1⟩
theorem CC.keep (hS : Stable S) (hk : Keeps S w w') : ∀ {xs : List Cst} {us : List Value}, CC S w xs us -> CC S w' xs us
  | [], _, h => h
  | _ :: _, _, ⟨vo, vn, vc, r, h1, h2, h4⟩ => ⟨vo, vn, vc, r, h1, Row.keep h2 hS hk, CC.keep hS hk h4⟩
theorem CC.mono (hm : ∀ k, S w k -> T w k) : ∀ {xs : List Cst} {us : List Value}, CC S w xs us -> CC T w xs us
  | [], _, h => h
  | _ :: _, _, ⟨vo, vn, vc, r, h1, h2, h4⟩ => ⟨vo, vn, vc, r, h1, Row.mono h2 hm, CC.mono hm h4⟩
theorem CC.append : ∀ {fs : List Cst} {us : List Value} {gs : List Cst} {vs : List Value}, CC S w fs us -> CC S w gs vs -> CC S w (fs ++ gs) (us ++ vs)
  | [], _, _, _, h, k => by
   have : _ = [] := h
   subst this
   exact k
  | _ :: _, _, _, _, ⟨vo, vn, vc, r, h1, h2, h4⟩, k => by
   subst h1
   exact ⟨vo, vn, vc, _, rfl, h2, CC.append h4 k⟩
theorem CC.len : ∀ {xs : List Cst} {us : List Value}, CC S w xs us -> us.length = xs.length * 9
  | [], _, h => by
   have : _ = [] := h
   subst this
   rfl
  | _ :: xs, _, ⟨vo, vn, vc, r, h1, _, h4⟩ => by
   subst h1
   have := CC.len h4
   simp only [List.length_cons]
   omega
theorem CC.at : ∀ {xs : List Cst} {us : List Value}, CC S w xs us -> ∀ (i : Nat) (x : Cst), xs[i]? = some x -> us[i * 9]? = some (.string (stg x.name)) /\ (∃ vo vn vc, us[i * 9 + 1]? = some (.slice vo vn vc) /\ StrL S w vo vn vc x.cands) /\ us[i * 9 + 2]? = some (.int .i64 x.method) /\ us[i * 9 + 3]? = some (.int .i64 x.seats) /\ us[i * 9 + 4]? = some (.int .i64 x.ranks) /\ us[i * 9 + 5]? = some (.int .i64 x.digits) /\ us[i * 9 + 6]? = some (.int .i64 x.ties) /\ us[i * 9 + 7]? = some (.int .i64 x.over) /\ us[i * 9 + 8]? = some (.int .i64 x.skip)
  | [], _, _, i, f, hf => by simp at hf
  | g :: fs, _, ⟨vo, vn, vc, r, h1, h2, h4⟩, 0, f, hf => by
   have : g = f := by simpa using hf
   subst this
   subst h1
   exact ⟨rfl, ⟨vo, vn, vc, rfl, h2⟩, rfl, rfl, rfl, rfl, rfl, rfl, rfl⟩
  | g :: fs, _, ⟨vo, vn, vc, r, h1, h2, h4⟩, i + 1, f, hf => by
   subst h1
   have := CC.at h4 i f (by simpa using hf)
   rw [show (i + 1) * 9 = i * 9 + 9 by omega]
   exact this
theorem CstS.keep {xs : List Cst} (h : CstS S w ao n c xs) (hS : Stable S) (hk : Keeps S w w') : CstS S w' ao n c xs := by
 obtain ⟨us, h1, h2⟩ := h
 exact ⟨us, h1.keep hS hk, h2.keep hS hk⟩
theorem CstS.mono {xs : List Cst} (h : CstS S w ao n c xs) (hm : ∀ k, S w k -> T w k) : CstS T w ao n c xs := by
 obtain ⟨us, h1, h2⟩ := h
 exact ⟨us, h1.mono hm, h2.mono hm⟩
theorem CstS.len {xs : List Cst} (h : CstS S w ao n c xs) : xs.length = n := by
 obtain ⟨us, h1, h2⟩ := h
 have a := h1.len
 have b := h2.len
 omega
theorem CstS.caps {xs : List Cst} (h : CstS S w ao n c xs) : n <= c /\ c <= 9223372036854775807 := by
 obtain ⟨us, hr, _⟩ := h
 exact ⟨hr.cap, hr.room⟩
theorem TC.keep (hS : Stable S) (hk : Keeps S w w') : ∀ {xs : List Sty} {us : List Value}, TC S w xs us -> TC S w' xs us
  | [], _, h => h
  | _ :: _, _, ⟨po, pn, pc, ko, kn, kc, r, h1, h2, h3, h4⟩ => ⟨po, pn, pc, ko, kn, kc, r, h1, Row.keep h2 hS hk, Row.keep h3 hS hk, TC.keep hS hk h4⟩
theorem TC.mono (hm : ∀ k, S w k -> T w k) : ∀ {xs : List Sty} {us : List Value}, TC S w xs us -> TC T w xs us
  | [], _, h => h
  | _ :: _, _, ⟨po, pn, pc, ko, kn, kc, r, h1, h2, h3, h4⟩ => ⟨po, pn, pc, ko, kn, kc, r, h1, Row.mono h2 hm, Row.mono h3 hm, TC.mono hm h4⟩
theorem TC.append : ∀ {fs : List Sty} {us : List Value} {gs : List Sty} {vs : List Value}, TC S w fs us -> TC S w gs vs -> TC S w (fs ++ gs) (us ++ vs)
  | [], _, _, _, h, k => by
   have : _ = [] := h
   subst this
   exact k
  | _ :: _, _, _, _, ⟨po, pn, pc, ko, kn, kc, r, h1, h2, h3, h4⟩, k => by
   subst h1
   exact ⟨po, pn, pc, ko, kn, kc, _, rfl, h2, h3, TC.append h4 k⟩
theorem TC.len : ∀ {xs : List Sty} {us : List Value}, TC S w xs us -> us.length = xs.length * 3
  | [], _, h => by
   have : _ = [] := h
   subst this
   rfl
  | _ :: xs, _, ⟨po, pn, pc, ko, kn, kc, r, h1, _, _, h4⟩ => by
   subst h1
   have := TC.len h4
   simp only [List.length_cons]
   omega
theorem TC.at : ∀ {xs : List Sty} {us : List Value}, TC S w xs us -> ∀ (i : Nat) (x : Sty), xs[i]? = some x -> us[i * 3]? = some (.string (stg x.name)) /\ (∃ po pn pc, us[i * 3 + 1]? = some (.slice po pn pc) /\ IntL .i64 S w po pn pc x.precs) /\ ∃ ko kn kc, us[i * 3 + 2]? = some (.slice ko kn kc) /\ IntL .i64 S w ko kn kc x.conts
  | [], _, _, i, f, hf => by simp at hf
  | g :: fs, _, ⟨po, pn, pc, ko, kn, kc, r, h1, h2, h3, h4⟩, 0, f, hf => by
   have : g = f := by simpa using hf
   subst this
   subst h1
   exact ⟨rfl, ⟨po, pn, pc, rfl, h2⟩, ko, kn, kc, rfl, h3⟩
  | g :: fs, _, ⟨po, pn, pc, ko, kn, kc, r, h1, h2, h3, h4⟩, i + 1, f, hf => by
   subst h1
   have := TC.at h4 i f (by simpa using hf)
   rw [show (i + 1) * 3 = i * 3 + 3 by omega]
   exact this
theorem StyS.keep {xs : List Sty} (h : StyS S w ao n c xs) (hS : Stable S) (hk : Keeps S w w') : StyS S w' ao n c xs := by
 obtain ⟨us, h1, h2⟩ := h
 exact ⟨us, h1.keep hS hk, h2.keep hS hk⟩
theorem StyS.mono {xs : List Sty} (h : StyS S w ao n c xs) (hm : ∀ k, S w k -> T w k) : StyS T w ao n c xs := by
 obtain ⟨us, h1, h2⟩ := h
 exact ⟨us, h1.mono hm, h2.mono hm⟩
theorem StyS.len {xs : List Sty} (h : StyS S w ao n c xs) : xs.length = n := by
 obtain ⟨us, h1, h2⟩ := h
 have a := h1.len
 have b := h2.len
 omega
theorem StyS.caps {xs : List Sty} (h : StyS S w ao n c xs) : n <= c /\ c <= 9223372036854775807 := by
 obtain ⟨us, hr, _⟩ := h
 exact ⟨hr.cap, hr.room⟩
theorem CstS.get {xs : List Cst} (h : CstS S w ao n c xs) (i : Nat) (hi : i < n) : ∃ (x : Cst) (a : Addr) (vo : Option Addr) (vn vc : Nat), xs[i]? = some x /\
    (∀ W, (Instr.indexAt 27 (.slice ao n c) (.int .i64 (i : Int))).run Tryz.prog W = .ok (.pointer (some a)) W) /\
    w.cell? a = some (.string (stg x.name)) /\ w.cell? ⟨a.block, a.off + 1, none⟩ = some (.slice vo vn vc) /\ w.cell? ⟨a.block, a.off + 2, none⟩ = some (.int .i64 x.method) /\ w.cell? ⟨a.block, a.off + 3, none⟩ = some (.int .i64 x.seats) /\ w.cell? ⟨a.block, a.off + 4, none⟩ = some (.int .i64 x.ranks) /\ w.cell? ⟨a.block, a.off + 5, none⟩ = some (.int .i64 x.digits) /\ w.cell? ⟨a.block, a.off + 6, none⟩ = some (.int .i64 x.ties) /\ w.cell? ⟨a.block, a.off + 7, none⟩ = some (.int .i64 x.over) /\ w.cell? ⟨a.block, a.off + 8, none⟩ = some (.int .i64 x.skip) /\ StrL S w vo vn vc x.cands := by
 obtain ⟨x, hx⟩ : ∃ f, xs[i]? = some f := ⟨_, List.getElem?_eq_getElem (by rw [h.len]; exact hi)⟩
 obtain ⟨us, hr, hc⟩ := h
 obtain ⟨h0, ⟨vo, vn, vc, h1, hv⟩, h2, h3, h4, h5, h6, h7, h8⟩ := hc.at i x hx
 exact ⟨x, pt ao (i * 9), vo, vn, vc, hx, run_ix Tryz.underlying27 (show (Tryz.prog.info? 76).map (·.size) = some 9 by kernel_rfl) hr i hi, (hr.cell _ _ h0).1, by rw [pt_nx ao (i * 9) 0]; exact (hr.cell _ _ h1).1, by rw [pt_nx ao (i * 9) 1]; exact (hr.cell _ _ h2).1, by rw [pt_nx ao (i * 9) 2]; exact (hr.cell _ _ h3).1, by rw [pt_nx ao (i * 9) 3]; exact (hr.cell _ _ h4).1, by rw [pt_nx ao (i * 9) 4]; exact (hr.cell _ _ h5).1, by rw [pt_nx ao (i * 9) 5]; exact (hr.cell _ _ h6).1, by rw [pt_nx ao (i * 9) 6]; exact (hr.cell _ _ h7).1, by rw [pt_nx ao (i * 9) 7]; exact (hr.cell _ _ h8).1, hv⟩
theorem StyS.get {xs : List Sty} (h : StyS S w ao n c xs) (i : Nat) (hi : i < n) : ∃ (x : Sty) (a : Addr) (po ko : Option Addr) (pn pc kn kc : Nat), xs[i]? = some x /\
    (∀ W, (Instr.indexAt 28 (.slice ao n c) (.int .i64 (i : Int))).run Tryz.prog W = .ok (.pointer (some a)) W) /\
    w.cell? a = some (.string (stg x.name)) /\ w.cell? ⟨a.block, a.off + 1, none⟩ = some (.slice po pn pc) /\ w.cell? ⟨a.block, a.off + 2, none⟩ = some (.slice ko kn kc) /\ IntL .i64 S w po pn pc x.precs /\ IntL .i64 S w ko kn kc x.conts := by
 obtain ⟨x, hx⟩ : ∃ f, xs[i]? = some f := ⟨_, List.getElem?_eq_getElem (by rw [h.len]; exact hi)⟩
 obtain ⟨us, hr, hc⟩ := h
 obtain ⟨h0, ⟨po, pn, pc, h1, hv⟩, ko, kn, kc, h2, hk⟩ := hc.at i x hx
 exact ⟨x, pt ao (i * 3), po, ko, pn, pc, kn, kc, hx, run_ix Tryz.underlying28 (show (Tryz.prog.info? 60).map (·.size) = some 3 by kernel_rfl) hr i hi, (hr.cell _ _ h0).1, by rw [pt_nx ao (i * 3) 0]; exact (hr.cell _ _ h1).1, by rw [pt_nx ao (i * 3) 1]; exact (hr.cell _ _ h2).1, hv, hk⟩
end
structure ESl where
 po : Option Addr
 pn : Nat
 pc : Nat
 co : Option Addr
 cn : Nat
 cc : Nat
 so : Option Addr
 sn : Nat
 sc : Nat
 uo : Option Addr
 un : Nat
 uc : Nat
 dO : Option Addr
 dn : Nat
 dc : Nat
def eC (e : Elc) (s : ESl) : List Value := [.string (stg e.title), .int .i64 e.dots, .int .i64 e.blank, .int .i64 e.marked, .slice s.po s.pn s.pc, .slice s.co s.cn s.cc, .slice s.so s.sn s.sc, .int .i64 e.scanners, .int .i64 e.batch, .bool e.rneg, .slice s.uo s.un s.uc, .slice s.dO s.dn s.dc, .int .i64 e.cell, .string (stg e.seed)]
def eV (e : Elc) (s : ESl) : Value := .agg (eC e s).toArray
structure ElcS (S : World -> Nat -> Prop) (w : World) (e : Elc) (s : ESl) : Prop where
 precs : StrL S w s.po s.pn s.pc e.precs
 conts : CstS S w s.co s.cn s.cc e.conts
 stys : StyS S w s.so s.sn s.sc e.stys
 num : IntL .u32 S w s.uo s.un s.uc e.rnum
 den : IntL .u32 S w s.dO s.dn s.dc e.rden
theorem ElcS.keep {S : World -> Nat -> Prop} {w w' : World} {e : Elc} {s : ESl} (h : ElcS S w e s) (hS : Stable S) (hk : Keeps S w w') : ElcS S w' e s :=
 ⟨Row.keep h.precs hS hk, h.conts.keep hS hk, h.stys.keep hS hk, Row.keep h.num hS hk, Row.keep h.den hS hk⟩
theorem ElcS.below {w w' : World} {e : Elc} {s : ESl} (h : ElcS anyF w e s) (hb : Below w.heap.size w w') : ElcS anyF w' e s := h.keep stable_any (keeps_below _ hb)
end Go.Proofs.YtemdkkphmldgjaaGreatDoor
namespace Go.Proofs.YtemdkkphmldgjaaGreatDoor.Lx
theorem idxS_some {v : List UInt8} : ∀ {l : List (List UInt8)} {j : Nat}, l[j]? = some v -> (∀ t : Nat, t < j -> l[t]? ≠ some v) -> idxS v l = some j
  | [], j, h, _ => by simp at h
  | u :: r, 0, h, _ => by
   have : u = v := by simpa using h
   rw [idxS, if_pos this]
  | u :: r, j + 1, h, k => by
   have hu : u ≠ v := fun e => k 0 (by omega) (by simpa using e)
   rw [idxS, if_neg hu, idxS_some (by simpa using h) (fun t ht => by have := k (t + 1) (by omega); simpa using this)]
   rfl
theorem idxS_none {v : List UInt8} : ∀ {l : List (List UInt8)}, (∀ t : Nat, l[t]? ≠ some v) -> idxS v l = none
  | [], _ => rfl
  | u :: r, k => by
   have hu : u ≠ v := fun e => k 0 (by simpa using e)
   rw [idxS, if_neg hu, idxS_none (fun t => by have := k (t + 1); simpa using this)]
   rfl
theorem idxI_some {l : List (List UInt8)} {v : List UInt8} {j : Nat} (h : l[j]? = some v) (k : ∀ t : Nat, t < j -> l[t]? ≠ some v) : idxI l v = (j : Int) := by
 unfold idxI
 rw [idxS_some h k]
theorem idxI_none {l : List (List UInt8)} {v : List UInt8} (k : ∀ t : Nat, l[t]? ≠ some v) : idxI l v = -1 := by
 unfold idxI
 rw [idxS_none k]
theorem idxS_lt {v : List UInt8} : ∀ {l : List (List UInt8)} {j : Nat}, idxS v l = some j -> l[j]? = some v
  | [], _, h => by simp [idxS] at h
  | u :: r, j, h => by
   rw [idxS] at h
   by_cases hu : u = v
   . rw [if_pos hu] at h
     injection h with h
     subst h
     simp [hu]
   . rw [if_neg hu] at h
     obtain ⟨k, hk, rfl⟩ := Option.map_eq_some_iff.1 h
     simpa using idxS_lt hk
theorem idxS_contains (l : List (List UInt8)) (v : List UInt8) : (idxS v l).isSome = l.contains v := by
 induction l with
 | nil => rfl
 | cons u r ih =>
  rw [idxS, List.contains_cons]
  by_cases hu : u = v
  . rw [if_pos hu, hu]; simp
  . rw [if_neg hu, Option.isSome_map, ih]
    have : (v == u) = false := by simpa using fun e => hu e.symm
    rw [this, Bool.false_or]
theorem idxI_ge (l : List (List UInt8)) (v : List UInt8) : decide (idxI l v >= 0) = l.contains v := by
 rw [<- idxS_contains]
 unfold idxI
 cases idxS v l with
 | none => rfl
 | some i =>
  show decide ((i : Int) >= 0) = true
  exact decide_eq_true (by omega)
theorem idxI_lo (l : List (List UInt8)) (v : List UInt8) : -1 <= idxI l v := by
 unfold idxI
 cases idxS v l with
 | none => exact Int.le_refl _
 | some i => show (-1 : Int) <= (i : Int); omega
theorem idxI_max (l : List (List UInt8)) (v : List UInt8) : max 0 (idxI l v) = (((idxS v l).getD 0 : Nat) : Int) := by
 unfold idxI
 cases idxS v l with
 | none => rfl
 | some i => show max 0 (i : Int) = (i : Int); omega
theorem codeOf_le (key v : List UInt8) : codeOf key v <= 3 := by
 unfold codeOf
 cases h : idxS v (wordsOf key) with
 | none => exact Nat.zero_le _
 | some i =>
  have h1 := (List.getElem?_eq_some_iff.1 (idxS_lt h)).1
  have h2 : (wordsOf key).length <= 4 := by
   unfold wordsOf
   repeat' split
   all_goals simp
  show i <= 3
  omega
theorem slash_no {l : List UInt8} (h : slashB l = false) : bareB l = (wordB l || numB l) := by
 unfold bareB
 rw [if_neg]
 intro e
 unfold slashB at h
 rw [h] at e
 cases e
theorem tail_47 {c : UInt8} (h : tailB c = true) : decide (c.toNat = 47) = false := by
 apply decide_eq_false
 intro e
 unfold tailB letB digB at h
 rw [e] at h
 revert h
 decide
theorem word_slash {l : List UInt8} (h : wordB l = true) : slashB l = false := by
 have := word_all h
 unfold slashB
 rw [List.any_eq_false]
 intro c hc
 have := List.all_eq_true.1 this c hc
 rw [tail_47 this]
 decide
theorem num_slash {l : List UInt8} (h : numB l = true) : slashB l = false := by
 have := num_all h
 unfold slashB
 rw [List.any_eq_false]
 intro c hc
 have := List.all_eq_true.1 this c hc
 rw [tail_47 this]
 decide
theorem bare_pos {l : List UInt8} (h : bareB l = true) : ∃ c r, l = c :: r := by
 cases l with
 | nil => simp [bareB, wordB, numB] at h
 | cons c r => exact ⟨c, r, rfl⟩
theorem bare_first {c : UInt8} {r : List UInt8} (h : bareB (c :: r) = true) : decide (97 <= c.toNat) = wordB (c :: r) := by
 have hd : ∀ {l : List UInt8}, digB c = true -> numB (c :: l) = true -> decide (97 <= c.toNat) = false := by
  intro l h1 _
  unfold digB at h1
  rw [Bool.and_eq_true, decide_eq_true_eq, decide_eq_true_eq] at h1
  exact decide_eq_false (by omega)
 by_cases hs : slashB (c :: r) = true
 . have hw : wordB (c :: r) = false := by
    cases hw : wordB (c :: r) with
    | false => rfl
    | true => rw [word_slash hw] at hs; cases hs
   rw [hw]
   unfold bareB at h
   unfold slashB at hs
   rw [if_pos hs, Bool.and_eq_true] at h
   by_cases h47 : c.toNat = 47
   . rw [List.takeWhile_cons, if_neg (by simp [h47])] at h
     simp [numB] at h
   . rw [List.takeWhile_cons, if_pos (by simp [h47])] at h
     have hn := h.1
     unfold numB at hn
     rw [Bool.and_eq_true, Bool.and_eq_true, List.all_cons, Bool.and_eq_true] at hn
     exact hd (l := []) hn.1.1.1 (by simp [numB, hn.1.1.1])
 . rw [slash_no (by simpa using hs)] at h
   cases hw : wordB (c :: r) with
   | true =>
    unfold wordB letB at hw
    rw [Bool.and_eq_true, Bool.and_eq_true] at hw
    exact hw.1.1
   | false =>
    rw [hw, Bool.false_or] at h
    have hn := h
    unfold numB at hn
    rw [Bool.and_eq_true, Bool.and_eq_true, List.all_cons, Bool.and_eq_true] at hn
    exact hd (l := r) hn.1.1.1 h
def geA : List UInt8 -> Bool
  | [] => false
  | c :: _ => decide (97 <= c.toNat)
def ltA : List UInt8 -> Bool
  | [] => false
  | c :: _ => decide (c.toNat < 97)
theorem num_of (l : List UInt8) : numB l = (bareB l && ltA l && !slashB l) := by
 cases hn : numB l with
 | true =>
  have hs := num_slash hn
  rw [slash_no hs, hn, hs, Bool.or_true]
  cases l with
  | nil => simp [numB] at hn
  | cons c r =>
   unfold numB at hn
   rw [Bool.and_eq_true, Bool.and_eq_true, List.all_cons, Bool.and_eq_true] at hn
   have h1 := hn.1.1.1
   unfold digB at h1
   rw [Bool.and_eq_true, decide_eq_true_eq, decide_eq_true_eq] at h1
   simp [ltA]
   omega
 | false =>
  cases hs : slashB l with
  | true => simp
  | false =>
   rw [slash_no hs, hn, Bool.or_false]
   cases hw : wordB l with
   | false => rfl
   | true =>
    cases l with
    | nil => rfl
    | cons c r =>
     unfold wordB letB at hw
     simp only [Bool.and_eq_true, decide_eq_true_eq] at hw
     have : ¬ c.toNat < 97 := by omega
     simp [ltA, this]
theorem word_of (l : List UInt8) : wordB l = (bareB l && geA l) := by
 cases hb : bareB l with
 | true =>
  obtain ⟨c, r, rfl⟩ := bare_pos hb
  rw [Bool.true_and]
  exact (bare_first hb).symm
 | false =>
  rw [Bool.false_and]
  cases hw : wordB l with
  | false => rfl
  | true =>
   rw [slash_no (word_slash hw), hw] at hb
   cases hb
theorem frac_parts {l : List UInt8} (h : fracB l = true) : numB (fracA l) = true /\ numB (fracD l) = true := by
 unfold fracB at h
 rw [Bool.and_eq_true] at h
 obtain ⟨h1, h2⟩ := h
 unfold bareB at h1
 unfold slashB at h2
 rw [if_pos h2, Bool.and_eq_true] at h1
 exact h1
theorem num_len {l : List UInt8} (h : numB l = true) : l.length <= 6 := by
 cases l with
 | nil => simp
 | cons c r =>
  unfold numB at h
  rw [Bool.and_eq_true, Bool.and_eq_true, decide_eq_true_eq] at h
  have := h.1.2
  simp only [List.length_cons]
  omega
theorem num_dig {l : List UInt8} (h : numB l = true) : ∀ c ∈ l, 48 <= c.toNat /\ c.toNat <= 57 := by
 intro c hc
 cases l with
 | nil => cases hc
 | cons d r =>
  unfold numB at h
  rw [Bool.and_eq_true, Bool.and_eq_true] at h
  have := List.all_eq_true.1 h.1.1 c hc
  unfold digB at this
  rw [Bool.and_eq_true, decide_eq_true_eq, decide_eq_true_eq] at this
  exact this
theorem dig_fold : ∀ (l : List UInt8) (n k : Nat), (∀ c ∈ l, 48 <= c.toNat /\ c.toNat <= 57) -> n + 1 <= k -> l.foldl (fun n c => 10 * n + (c.toNat - 48)) n + 1 <= (10 : Nat) ^ l.length * k := by
 intro l
 induction l with
 | nil => intro n k _ h; simp; omega
 | cons c r ih =>
  intro n k hc h
  have h1 := hc c (List.mem_cons_self ..)
  have := ih (10 * n + (c.toNat - 48)) (10 * k) (fun d hd => hc d (List.mem_cons_of_mem _ hd)) (by omega)
  rw [List.foldl_cons, List.length_cons, Nat.pow_succ]
  have e : (10 : Nat) ^ r.length * (10 * k) = (10 : Nat) ^ r.length * 10 * k := by rw [Nat.mul_assoc]
  omega
theorem num_lt {l : List UInt8} (h : numB l = true) : numV l <= 999999 := by
 have h1 := dig_fold l 0 1 (num_dig h) (by omega)
 have h2 : (10 : Nat) ^ l.length <= 10 ^ 6 := Nat.pow_le_pow_right (by omega) (num_len h)
 unfold numV
 omega
end Go.Proofs.YtemdkkphmldgjaaGreatDoor.Lx
namespace Go.Proofs.YtemdkkphmldgjaaGreatDoor
open Go.RowKit Lx
theorem stg_same (u : List UInt8) : ((stg u).toList == (stg u).toList) = true := beq_self_eq_true _
theorem stg_part {u v : List UInt8} (h : u ≠ v) : ((stg u).toList == (stg v).toList) = false := by rw [str_eq, decide_eq_false h]
theorem lit_yes (u : List UInt8) : ((stg u).toList == u) = true := by rw [ByteArray.toList_eq]; exact beq_self_eq_true _
theorem lit_no {u v : List UInt8} (h : u ≠ v) : ((stg u).toList == v) = false := by rw [ByteArray.toList_eq]; exact beq_eq_false_iff_ne.2 h
theorem sIndex_c {S : World -> Nat -> Prop} (vs : List (List UInt8)) (x : List UInt8) (ao : Option Addr) (n c : Nat) (w : World) (h : StrL S w ao n c vs) :
    Calls Tryz.prog 175 #[.slice ao n c, .string (stg x)] w fun e w' => e = .returned (.int .i64 (idxI vs x)) /\ w = w' := by
 have hcap := Row.cap h
 have hroom := Row.room h
 have hlen := Lib.hid (StrL.len h)
 obtain ⟨X, hX⟩ : ∃ X, Hid (stg x = X) := ⟨_, rfl⟩
 rw [hX.out]
 have H := Lib.hid h
 clear h
 go_enter Tryz.func175, Tryz.ntmps175
 go_wp2_with fail
 go_loopw [8] (fun i wr => ∃ j : Nat, j <= n /\ i = .int .i64 (j : Int) /\ w = wr /\ Hid (∀ t : Nat, t < j -> vs[t]? ≠ some x)) (fun i _ => n - (intOf i).toNat)
 case atStart => exact ⟨0, Nat.zero_le _, rfl, rfl, fun t ht => absurd ht (by omega)⟩
 case round =>
  obtain ⟨j, hj, rfl, rfl, HZ⟩ := hrel
  by_cases hlt : j < n
  . have hlt' : (j : Int) < (n : Int) := by omega
    obtain ⟨v, a, hv, i1, c1⟩ := StrL.get H.out j hlt
    have hv := Lib.hid hv
    by_cases hxv : x = v
    . have hb : (X.toList == (stg v).toList) = true := by rw [<- hX.out, hxv]; exact stg_same v
      obtain ⟨V, hV⟩ : ∃ V, Hid (stg v = V) := ⟨_, rfl⟩
      rw [hV.out] at c1 hb
      have hR : Hid (idxI vs x = (j : Int)) := idxI_some (by rw [hv.out, hxv]) HZ.out
      clear hxv
      go_wp2_with fail
      go_ret
      exact ⟨by rw [hR.out]; rfl, rfl⟩
    . have hb : (X.toList == (stg v).toList) = false := by rw [<- hX.out]; exact stg_part hxv
      obtain ⟨V, hV⟩ : ∃ V, Hid (stg v = V) := ⟨_, rfl⟩
      rw [hV.out] at c1 hb
      have HZ2 : Hid (∀ t : Nat, t < j + 1 -> vs[t]? ≠ some x) := by
       intro t ht e
       by_cases h1 : t = j
       . rw [h1, hv.out] at e
         injection e with e
         exact hxv e.symm
       . exact HZ.out t (by omega) e
      clear hxv
      go_wp2_with fail
      go_roundw
      case rel => exact ⟨j + 1, by omega, by go_num, by trivial, HZ2⟩
      case measure => simp [intOf]; omega
  . have hlt' : ¬ (j : Int) < (n : Int) := by omega
    have hR : Hid (idxI vs x = -1) := idxI_none fun t e => by
     have := (List.getElem?_eq_some_iff.1 e).1
     have := hlen.out
     exact HZ.out t (by omega) e
    go_wp2_with fail
    go_ret
    exact ⟨by rw [hR.out]; rfl, rfl⟩
theorem sContains_c {S : World -> Nat -> Prop} (vs : List (List UInt8)) (x : List UInt8) (ao : Option Addr) (n c : Nat) (w : World) (h : StrL S w ao n c vs) :
    Calls Tryz.prog 116 #[.slice ao n c, .string (stg x)] w fun e w' => e = .returned (.bool (vs.contains x)) /\ w = w' := by
 have HI := Lib.hid (sIndex_c vs x ao n c w h)
 have HG := Lib.hid (idxI_ge vs x)
 obtain ⟨R, hR⟩ : ∃ R, Hid (idxI vs x = R) := ⟨_, rfl⟩
 rw [hR.out] at HI HG
 clear h
 go_enter Tryz.func116, Tryz.ntmps116
 go_wp2_with fail
 refine HI.out.mono ?_
 rintro e w1 ⟨rfl, rfl⟩
 go_wp2_with fail
 go_ret
 exact ⟨by rw [<- HG.out]; rfl, rfl⟩
theorem at_c {S : World -> Nat -> Prop} (vs : List (List UInt8)) (i : Int) (ao : Option Addr) (n c : Nat) (w : World) (h : StrL S w ao n c vs) :
    Calls Tryz.prog 123 #[.slice ao n c, .int .i64 i] w fun e w' => e = .returned (.string (stg (if 0 <= i then (vs[i.toNat]?).getD [] else []))) /\ w = w' := by
 have hlen := Lib.hid (StrL.len h)
 have hcap := Row.cap h
 have hroom := Row.room h
 by_cases h0 : i < 0
 . have b0 : decide (i < 0) = true := decide_eq_true h0
   rw [if_neg (by omega)]
   clear h
   go_enter Tryz.func123, Tryz.ntmps123
   go_wp2_with fail
   go_ret
   exact ⟨rfl, rfl⟩
 . have b0 : decide (i < 0) = false := decide_eq_false h0
   rw [if_pos (by omega)]
   obtain ⟨k, rfl⟩ : ∃ k : Nat, i = k := ⟨i.toNat, by omega⟩
   rw [Int.toNat_natCast]
   by_cases h1 : k < n
   . have b1 : decide (n <= k) = false := decide_eq_false (by omega)
     have b2 : decide ((n : Int) <= (k : Int)) = false := decide_eq_false (by omega)
     obtain ⟨v, a, hv, i1, c1⟩ := StrL.get h k h1
     rw [hv]
     show Calls _ _ _ _ fun e w' => e = .returned (.string (stg v)) /\ w = w'
     obtain ⟨V, hV⟩ : ∃ V, Hid (stg v = V) := ⟨_, rfl⟩
     rw [hV.out] at c1 |-
     clear h hv
     go_enter Tryz.func123, Tryz.ntmps123
     go_wp2_with fail
     go_ret
     exact ⟨rfl, rfl⟩
   . have b1 : decide (n <= k) = true := decide_eq_true (by omega)
     have b2 : decide ((n : Int) <= (k : Int)) = true := decide_eq_true (by omega)
     have h2 : n <= k := by omega
     rw [List.getElem?_eq_none (by rw [hlen.out]; omega)]
     clear h
     go_enter Tryz.func123, Tryz.ntmps123
     go_wp2_with fail
     go_ret
     exact ⟨rfl, rfl⟩
end Go.Proofs.YtemdkkphmldgjaaGreatDoor
