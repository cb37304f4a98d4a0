/-
  Texts of the proof, put together: LexTok LexTokAt SynMath SynMem SynParse.
-/
import Derived.Test.YtemdkkphmldgjaaGreatDoorPkA1
import Derived.Test.YtemdkkphmldgjaaGreatDoorPkA2
namespace Go.Proofs.YtemdkkphmldgjaaGreatDoor
open Go.RowKit Lx
def cellsT : List Tok -> List Value
  | [] => []
  | t :: r => .int .i64 (t.kind : Int) :: .string (stg t.text) :: .int .i64 (t.line : Int) :: cellsT r
theorem cellsT_len (ts : List Tok) : (cellsT ts).length = ts.length * 3 := by
 induction ts with
 | nil => rfl
 | cons t ts ih => simp [cellsT, ih]; omega
theorem cellsT_append (ts us : List Tok) : cellsT (ts ++ us) = cellsT ts ++ cellsT us := by
 induction ts with
 | nil => rfl
 | cons t ts ih => simp [cellsT, ih]
theorem cellsT_one (ts : List Tok) : ∀ u ∈ cellsT ts, u.oneCell' = true := by
 induction ts with
 | nil => intro u h; cases h
 | cons t ts ih =>
  intro u h
  simp only [cellsT, List.mem_cons] at h
  rcases h with rfl | rfl | rfl | h
  . rfl
  . rfl
  . rfl
  . exact ih u h
theorem cellsT_at : ∀ (ts : List Tok) (i : Nat) (t : Tok), ts[i]? = some t -> (cellsT ts)[3 * i]? = some (.int .i64 (t.kind : Int)) /\ (cellsT ts)[3 * i + 1]? = some (.string (stg t.text)) /\ (cellsT ts)[3 * i + 2]? = some (.int .i64 (t.line : Int))
  | [], i, t, h => by simp at h
  | u :: ts, 0, t, h => by simp at h; subst h; exact ⟨rfl, rfl, rfl⟩
  | u :: ts, i + 1, t, h => by
   have := cellsT_at ts i t (by simpa using h)
   rw [show 3 * (i + 1) = 3 * i + 3 by omega]
   exact this
def TokOwn (B : Nat) (w : World) (ao : Option Addr) (n c : Nat) (ts : List Tok) : Prop := w.ownsRow B 87 3 (.slice ao n c) n (cellsT ts)
theorem TokOwn.len {B : Nat} {w : World} {ao : Option Addr} {n c : Nat} {ts : List Tok} (h : TokOwn B w ao n c ts) : ts.length = n := by
 have := h.1
 rw [cellsT_len] at this
 omega
theorem TokOwn.keep {B : Nat} {w w' : World} {ao : Option Addr} {n c : Nat} {ts : List Tok} (h : TokOwn B w ao n c ts) (hb : Below w.heap.size w w') : TokOwn B w' ao n c ts :=
 World.ownsRow.kept (row := none) h ⟨hb.os, hb.tape, hb.output, hb.size, fun j hj _ => hb.block j hj⟩ (by cases (Value.slice ao n c).ownBlock <;> simp)
theorem TokOwn.nil (B : Nat) (w : World) : TokOwn B w none 0 0 [] := World.ownsRow_nil _ _ _ _
theorem TokOwn.lower {B B' : Nat} {w : World} {ao : Option Addr} {n c : Nat} {ts : List Tok} (h : TokOwn B w ao n c ts) (hB : B' <= B) : TokOwn B' w ao n c ts := by
 refine ⟨h.1, ?_⟩
 rcases h.2 with h | ⟨g, cap, cur, hv, hg, r⟩
 . exact Or.inl h
 . exact Or.inr ⟨g, cap, cur, hv, Nat.le_trans hB hg, r⟩
theorem TokOwn.far {B : Nat} {w : World} {ao : Option Addr} {n c : Nat} {ts : List Tok} (h : TokOwn B w ao n c ts) {g : Nat} (hg : g < B) (i : Nat) (u : Value) : TokOwn B (w.setCell ⟨g, i, none⟩ u) ao n c ts := by
 refine World.ownsRow.kept (row := some g) h ⟨rfl, rfl, rfl, by simp [World.setCell], fun k _ hk => Below.heap_setCell w _ u k (fun e => hk (by rw [e]))⟩ ?_
 cases ao with
 | none => exact Or.inl rfl
 | some a =>
  refine Or.inr fun e => ?_
  have h2 := (World.ownsRow.lt h a.block rfl).1
  injection e with e
  omega
theorem infoT : (Tryz.prog.info? 87).map (fun i => (i.zero, i.size, i.bytes)) = some (some (.agg #[.int .i64 0, .string ⟨#[]⟩, .int .i64 0]), 3, 32) := by kernel_rfl
theorem sizeT : (Tryz.prog.info? 87).map (·.size) = some 3 := by kernel_rfl
section
variable {w : World} {ops : Array Oper} {rest : List Oper} {a : Act} {Q : Exit -> Act -> World -> Prop} {d : Option Tmp} {p q : Operand} {ty : TypeId} {pos : String} {after : Array Edge}
theorem wpList_appT {B : Nat} {ao : Option Addr} {n c : Nat} {ts : List Tok} {t : Tok} {S : ByteArray} {k l : Int} (hO : TokOwn B w ao n c ts) (hB : B <= w.heap.size) (hn : n <= 1048576) (hk : k = (t.kind : Int)) (hS : S = stg t.text) (hl : l = (t.line : Int))
    (hp : a.eval p = .slice ao n c) (hq : a.eval q = .slice (some ⟨w.heap.size, 0, none⟩) 1 1)
    (h : ∀ ao' c' w', TokOwn B w' ao' (n + 1) c' (ts ++ [t]) -> Below B w w' -> wpList Tryz.prog ops Q rest (a.put d (.slice ao' (n + 1) c')) w') :
    wpList Tryz.prog ops Q (⟨d, .call { callee := .builtin .append, args := #[p, q], argTypes := #[80, 80] }, ty, pos, after, none⟩ :: rest) a (w.alloc (.cells #[.int .i64 k, .string S, .int .i64 l] 87)) := by
 subst hk hS hl
 obtain ⟨i0, hi, hz0, hz1, hz2⟩ := info_parts infoT
 have b1 : Below w.heap.size w (w.alloc (.cells #[.int .i64 (t.kind : Int), .string (stg t.text), .int .i64 (t.line : Int)] 87)) := (Below.refl _ _).alloc (Nat.le_refl _) _
 have hnew : Arr (w.alloc (.cells #[.int .i64 (t.kind : Int), .string (stg t.text), .int .i64 (t.line : Int)] 87)) w.heap.size 87 (cellsT [t]) := Arr.new w _ (cellsT [t])
 refine wpList_append_own _ rfl p q 80 rfl B 87 i0 _ 3 32 Tryz.underlying80 hi hz0 hz1 hz2 rfl (by decide) _ n _ hp (hO.keep b1) ⟨w.heap.size, 0, none⟩ 1 1 (cellsT [t]) hq rfl ?_ (cellsT_one [t]) (by unfold maxLen; omega) (by omega) (by simp; omega) ?_
 . intro j u hj
   have e := pt_own w.heap.size j
   simp only [pt, Option.getD_some] at e
   rw [e, hnew.cell]
   exact hj
 . intro v' w' ho' hg _
   obtain ⟨av, cv, hv⟩ : ∃ ao c, v' = .slice ao (n + 1) c := by
    rcases ho'.2 with ⟨hv, h0⟩ | ⟨g, cap, _, hv, _⟩
    . omega
    . exact ⟨_, cap, hv⟩
   subst hv
   refine h av cv w' (by unfold TokOwn; rw [cellsT_append]; exact ho') ((b1.mono hB).trans ((Below.refl _ _).grown hg (by simp; omega) (fun k hk => (World.ownsRow.lt hO k hk).1)))
end
def put2 (w : World) (g : Nat) (u0 u1 : Value) : World := (w.setCell ⟨g, 0, none⟩ u0).setCell ⟨g, 1, none⟩ u1
section
variable {w : World} {g : Nat} {t : TypeId} {v0 v1 : Value}
theorem Arr.store2 (h : Arr w g t [v0, v1]) (u0 : Value) :
    w.cell? ⟨g, 0, none⟩ = some v0 /\ w.frozen? ⟨g, 0, none⟩ = false /\ (w.setCell ⟨g, 0, none⟩ u0).cell? ⟨g, 1, none⟩ = some v1 /\ (w.setCell ⟨g, 0, none⟩ u0).frozen? ⟨g, 1, none⟩ = false :=
 ⟨h.cell 0, h.frozen 0, (h.set 0 u0).cell 1, (h.set 0 u0).frozen 1⟩
theorem Arr.put2 (h : Arr w g t [v0, v1]) (u0 u1 : Value) : Arr (put2 w g u0 u1) g t [u0, u1] := (h.set 0 u0).set 1 u1
theorem below_put2 {B : Nat} {a : World} (h : Below B a w) (hg : B <= g) (u0 u1 : Value) : Below B a (Go.Proofs.YtemdkkphmldgjaaGreatDoor.put2 w g u0 u1) := (h.setCell hg u0).setCell hg u1
end
theorem TokOwn.put2 {B : Nat} {w : World} {ao : Option Addr} {n c : Nat} {ts : List Tok} (h : TokOwn B w ao n c ts) {g : Nat} (hg : g < B) (u0 u1 : Value) : TokOwn B (put2 w g u0 u1) ao n c ts := (h.far hg 0 u0).far hg 1 u1
def AllOut (B : Nat) (r : Option Res) (w' : World) (e : Ending) : Prop := ∃ (ao : Option Addr) (n c : Nat) (er ln : Nat), e = .returned (.tuple #[.slice ao n c, .agg #[.int .i64 (er : Int), .int .i64 (ln : Int)]]) /\
  match r with
  | none => er = 7 /\ ln = 0 /\ n = 0 /\ c = 0 /\ ao = none
  | some (.err l) => er = 1 /\ ln = l /\ n = 0 /\ c = 0 /\ ao = none
  | some (.ok ts l) => er = 0 /\ ln = 0 /\ TokOwn B w' ao n c (ts ++ [⟨5, [], l⟩])
end Go.Proofs.YtemdkkphmldgjaaGreatDoor
namespace Go.Proofs.YtemdkkphmldgjaaGreatDoor
open Go.RowKit Lx
theorem TokOwn.cases {B : Nat} {w : World} {ao : Option Addr} {n c : Nat} {ts : List Tok} (h : TokOwn B w ao n c ts) : (ao = none /\ n = 0 /\ c = 0 /\ ts = []) \/ ∃ g, ao = some ⟨g, 0, none⟩ /\ B <= g /\ g < w.heap.size /\ n <= c /\ c <= maxLen := by
 have hl := h.len
 rcases h.2 with ⟨hv, hn⟩ | ⟨g, cap, cur, hv, hg, hh, hn, hc, _⟩
 . injection hv with h1 h2 h3
   exact Or.inl ⟨h1, hn, h3, List.eq_nil_of_length_eq_zero (by omega)⟩
 . injection hv with h1 h2 h3
   subst h3
   exact Or.inr ⟨g, h1, hg, (Array.getElem?_eq_some_iff.1 hh).1, hn, hc⟩
theorem TokOwn.at3 {B : Nat} {w : World} {ao : Option Addr} {n c : Nat} {ts : List Tok} (h : TokOwn B w ao n c ts) (i : Nat) (hi : i < n) (t : Tok) (ht : ts[i]? = some t) (k0 k1 k2 : Nat) (h0 : k0 = 3 * i) (h1 : k1 = 3 * i + 1) (h2 : k2 = 3 * i + 2) :
    ∃ g, ao = some ⟨g, 0, none⟩ /\ B <= g /\ w.cell? ⟨g, k0, none⟩ = some (.int .i64 (t.kind : Int)) /\ w.cell? ⟨g, k1, none⟩ = some (.string (stg t.text)) /\ w.cell? ⟨g, k2, none⟩ = some (.int .i64 (t.line : Int)) := by
 subst h0 h1 h2
 rcases h.cases with ⟨_, h0, _⟩ | ⟨g, rfl, hg, _⟩
 . omega
 . have hc := cellsT_at ts i t ht
   refine ⟨g, rfl, hg, ?_, ?_, ?_⟩
   . rw [World.ownsRow.cellAt h (3 * i) (by omega)]; exact hc.1
   . rw [World.ownsRow.cellAt h (3 * i + 1) (by omega)]; exact hc.2.1
   . rw [World.ownsRow.cellAt h (3 * i + 2) (by omega)]; exact hc.2.2
theorem AllOut.ok {B : Nat} {w : World} {e : Ending} {ts : List Tok} {l : Nat} (h : AllOut B (some (.ok ts l)) w e) : ∃ ao c, e = .returned (.tuple #[.slice ao (ts.length + 1) c, .agg #[.int .i64 0, .int .i64 0]]) /\ TokOwn B w ao (ts.length + 1) c (ts ++ [⟨5, [], l⟩]) := by
 obtain ⟨ao, n, c, er, ln, rfl, rfl, rfl, O⟩ := h
 have hl := O.len
 rw [List.length_append] at hl
 have hn : n = ts.length + 1 := hl.symm
 subst hn
 exact ⟨ao, c, rfl, O⟩
theorem AllOut.err {B : Nat} {w : World} {e : Ending} {l : Nat} (h : AllOut B (some (.err l)) w e) : e = .returned (.tuple #[.slice none 0 0, .agg #[.int .i64 1, .int .i64 (l : Int)]]) := by
 obtain ⟨ao, n, c, er, ln, rfl, rfl, rfl, rfl, rfl, rfl⟩ := h
 rfl
theorem AllOut.big {B : Nat} {w : World} {e : Ending} (h : AllOut B none w e) : e = .returned (.tuple #[.slice none 0 0, .agg #[.int .i64 7, .int .i64 0]]) := by
 obtain ⟨ao, n, c, er, ln, rfl, rfl, rfl, rfl, rfl, rfl⟩ := h
 rfl
def outR : Option Res -> Int × Int × List Tok
  | none => (7, 0, [])
  | some (.err l) => (1, l, [])
  | some (.ok ts l) => (0, 0, ts ++ [⟨5, [], l⟩])
theorem AllOut.view {B : Nat} {r : Option Res} {w : World} {e : Ending} (h : AllOut B r w e) : ∃ ao n c, e = .returned (.tuple #[.slice ao n c, .agg #[.int .i64 (outR r).1, .int .i64 (outR r).2.1]]) /\ TokOwn B w ao n c (outR r).2.2 := by
 cases r with
 | none => exact ⟨none, 0, 0, h.big, TokOwn.nil _ _⟩
 | some r =>
  cases r with
  | err l => exact ⟨none, 0, 0, h.err, TokOwn.nil _ _⟩
  | ok ts l =>
   obtain ⟨ao, c, he, O⟩ := h.ok
   exact ⟨ao, _, c, he, O⟩
end Go.Proofs.YtemdkkphmldgjaaGreatDoor
namespace Go.Proofs.YtemdkkphmldgjaaGreatDoor.Lx
structure Fld where
 key : List UInt8
 vals : List (List UInt8)
 line : Nat
structure Blc where
 kind : List UInt8
 name : List UInt8
 flds : List Fld
 line : Nat
structure Src where
 title : List UInt8
 blks : List Blc
def quoP (l : List UInt8) : List UInt8 := 34 :: (l.flatMap fun c => if escB c then [92, c] else [c]) ++ [34]
def elec : List UInt8 := [101, 108, 101, 99, 116, 105, 111, 110]
theorem take_word {u : List UInt8} (h : u.all tailB = true) (c : UInt8) (q : List UInt8) (hc : tailB c = false) : (u ++ c :: q).takeWhile tailB = u := by
 rw [take_while_sep tailB c q hc]
 have : ∀ u : List UInt8, u.all tailB = true -> u.takeWhile tailB = u := by
  intro u
  induction u with
  | nil => intro _; rfl
  | cons d u ih =>
   intro h
   rw [List.all_cons, Bool.and_eq_true] at h
   rw [List.takeWhile_cons, if_pos h.1, ih h.2]
 exact this u h
theorem word_all {u : List UInt8} (h : wordB u = true) : u.all tailB = true := by
 cases u with
 | nil => rfl
 | cons c r =>
  have h' : (letB c && r.all tailB) = true := h
  rw [Bool.and_eq_true] at h'
  rw [List.all_cons, h'.2]
  unfold tailB
  rw [h'.1]
  rfl
theorem digB_tail {c : UInt8} (h : digB c = true) : tailB c = true := by unfold tailB; rw [h]; simp
theorem num_all {u : List UInt8} (h : numB u = true) : u.all tailB = true := by
 cases u with
 | nil => rfl
 | cons c r =>
  have h' : ((c :: r).all digB && decide (r.length <= 5) && (r.isEmpty || !decide (c.toNat = 48))) = true := h
  rw [Bool.and_eq_true, Bool.and_eq_true] at h'
  rw [List.all_eq_true] at h' |-
  exact fun x hx => digB_tail (h'.1.1 x hx)
theorem tail_not {c : UInt8} (h : tailB c = true) : c.toNat ≠ 35 /\ blankB c = false := by
 unfold tailB letB digB at h
 simp only [Bool.or_eq_true, Bool.and_eq_true, decide_eq_true_eq] at h
 refine ⟨by omega, ?_⟩
 unfold blankB
 simp only [Bool.or_eq_false_iff, decide_eq_false_iff_not]
 omega
theorem lexS_run {u : List UInt8} {k : Nat} {c : UInt8} (q : List UInt8) (ln : Nat) (hu : u ≠ []) (ha : u.all tailB = true) (ho : oneS (u ++ c :: q) = some (k, u, u.length)) : lexS (u ++ c :: q) ln = (lexS (c :: q) ln).cons ⟨k, u, ln⟩ := by
 cases u with
 | nil => exact absurd rfl hu
 | cons d r =>
  rw [List.all_cons, Bool.and_eq_true] at ha
  have hd := tail_not ha.1
  rw [List.cons_append] at ho |-
  rw [lexS_cons, if_neg hd.1, hd.2, if_neg (by decide), ho]
  simp only
  rw [show (d :: r).length - 1 = r.length by simp, List.drop_left]
theorem lexS_word {u : List UInt8} {c : UInt8} (q : List UInt8) (ln : Nat) (h : wordB u = true) (hc : tailB c = false) : lexS (u ++ c :: q) ln = (lexS (c :: q) ln).cons ⟨1, u, ln⟩ := by
 refine lexS_run q ln (fun e => by rw [e] at h; cases h) (word_all h) ?_
 unfold oneS
 rw [take_word (word_all h) c q hc, if_pos h]
theorem num_not_word {u : List UInt8} (h : numB u = true) : wordB u = false := by
 cases u with
 | nil => rfl
 | cons c r =>
  have h' : ((c :: r).all digB && decide (r.length <= 5) && (r.isEmpty || !decide (c.toNat = 48))) = true := h
  rw [Bool.and_eq_true, Bool.and_eq_true, List.all_cons, Bool.and_eq_true] at h'
  have hd := h'.1.1.1
  show (letB c && r.all tailB) = false
  have : letB c = false := by
   unfold digB at hd
   unfold letB
   simp only [Bool.and_eq_true, decide_eq_true_eq] at hd
   simp only [Bool.and_eq_false_iff, decide_eq_false_iff_not]
   omega
  rw [this]; rfl
theorem lexS_num {u : List UInt8} {c : UInt8} (q : List UInt8) (ln : Nat) (h : numB u = true) (hc : tailB c = false) : lexS (u ++ c :: q) ln = (lexS (c :: q) ln).cons ⟨2, u, ln⟩ := by
 refine lexS_run q ln (fun e => by rw [e] at h; cases h) (num_all h) ?_
 unfold oneS
 rw [take_word (num_all h) c q hc, num_not_word h, if_neg (by decide), if_pos h]
theorem mark_not_tail {c : UInt8} (h : markB c = true) : tailB c = false /\ c.toNat ≠ 35 /\ blankB c = false /\ c.toNat ≠ 34 := by
 unfold markB at h
 simp only [Bool.or_eq_true, decide_eq_true_eq] at h
 refine ⟨?_, by omega, ?_, by omega⟩
 . unfold tailB letB digB
   simp only [Bool.or_eq_false_iff, Bool.and_eq_false_iff, decide_eq_false_iff_not]
   omega
 . unfold blankB
   simp only [Bool.or_eq_false_iff, decide_eq_false_iff_not]
   omega
theorem lexS_mark {c : UInt8} (q : List UInt8) (ln : Nat) (h : markB c = true) : lexS (c :: q) ln = (lexS q ln).cons ⟨4, [c], ln⟩ := by
 obtain ⟨h1, h2, h3, h4⟩ := mark_not_tail h
 have ho : oneS (c :: q) = some (4, [c], 1) := by
  unfold oneS
  rw [List.takeWhile_cons, h1]
  simp [wordB, numB, h]
 rw [lexS_cons, if_neg h2, h3, if_neg (by decide), ho]
 rfl
theorem lexS_str {l : List UInt8} (q : List UInt8) (ln : Nat) (h : l.all plainB = true) : lexS (quoP l ++ q) ln = (lexS q ln).cons ⟨3, l, ln⟩ := by
 unfold quoP
 have e : (34 :: (l.flatMap fun c => if escB c then [92, c] else [c]) ++ [34]) ++ q = 34 :: ((l.flatMap fun c => if escB c then [92, c] else [c]) ++ 34 :: q) := by simp
 rw [e, lexS_cons, if_neg (by decide), if_neg (by decide)]
 have ho : oneS (34 :: ((l.flatMap fun c => if escB c then [92, c] else [c]) ++ 34 :: q)) = some (3, l, (l.flatMap fun c => if escB c then [92, c] else [c]).length + 2) := by
  unfold oneS
  have ht : List.takeWhile tailB (34 :: ((l.flatMap fun c => if escB c then [92, c] else [c]) ++ 34 :: q)) = [] := by
   rw [List.takeWhile_cons, if_neg (by decide)]
  rw [ht]
  simp only [wordB, numB, Bool.false_eq_true, if_false]
  rw [if_neg (by decide), if_pos (by decide), escS l q h]
  rfl
 rw [ho]
 simp only
 have hd : ((l.flatMap fun c => if escB c then [92, c] else [c]) ++ 34 :: q).drop ((l.flatMap fun c => if escB c then [92, c] else [c]).length + 2 - 1) = q := by
  rw [show (l.flatMap fun c => if escB c then [92, c] else [c]).length + 2 - 1 = (l.flatMap fun c => if escB c then [92, c] else [c]).length + 1 by omega, List.drop_append, List.drop_of_length_le (by omega)]
  simp
 rw [hd]
theorem lexS_sp (q : List UInt8) (ln : Nat) : lexS (32 :: q) ln = lexS q ln := by
 rw [lexS_cons, if_neg (by decide), if_pos (by decide)]; rfl
end Go.Proofs.YtemdkkphmldgjaaGreatDoor.Lx
namespace Go.Proofs.YtemdkkphmldgjaaGreatDoor
open Go.RowKit Lx
def Stable (S : World -> Nat -> Prop) : Prop := ∀ (w w' : World) (k : Nat), k < w.heap.size -> w'.heap[k]? = w.heap[k]? -> S w k -> S w' k
def Keeps (S : World -> Nat -> Prop) (w w' : World) : Prop := ∀ k, k < w.heap.size -> S w k -> w'.heap[k]? = w.heap[k]?
def anyF : World -> Nat -> Prop := fun _ _ => True
def ownF (lo : Nat) (Es : List TypeId) : World -> Nat -> Prop := fun w k => lo <= k /\ ∃ E ∈ Es, ∃ cs fz, w.heap[k]? = some (.cells cs E fz)
theorem stable_any : Stable anyF := fun _ _ _ _ _ _ => trivial
theorem stable_own (lo : Nat) (Es : List TypeId) : Stable (ownF lo Es) := fun w w' k _ he ⟨h1, E, hE, cs, fz, h⟩ => ⟨h1, E, hE, cs, fz, he.trans h⟩
theorem keeps_below (S : World -> Nat -> Prop) {w w' : World} (h : Below w.heap.size w w') : Keeps S w w' := fun k hk _ => h.block k hk
theorem keeps_grown {S : World -> Nat -> Prop} {w w' : World} {row : Option Nat} (h : w.grownBy w' row) (hS : ∀ k, S w k -> row ≠ some k) : Keeps S w w' := fun k hk hs => h.block k hk (fun e => hS k hs e.symm)
theorem keeps_older {lo g : Nat} {Es : List TypeId} {w w' : World} (h : w.grownBy w' (some g)) (hg : g < lo) : Keeps (ownF lo Es) w w' := keeps_grown h (fun k hs e => by injection e with e; have := hs.1; omega)
theorem keeps_row {lo B : Nat} {E : TypeId} {s n : Nat} {v : Value} {us : List Value} {Es : List TypeId} {w w' : World} (hO : w.ownsRow B E s v n us) (h : w.grownBy w' v.ownBlock) (hE : E ∉ Es) : Keeps (ownF lo Es) w w' := by
 refine keeps_grown h (fun k ⟨_, E', hE', cs, fz, hk⟩ e => ?_)
 rcases hO.2 with ⟨hv, _⟩ | ⟨g, cap, cur, hv, _, hh, _⟩
 . rw [hv] at e; cases e
 . rw [hv] at e
   have e' : some g = some k := e
   injection e' with e'
   subst e'
   rw [hh] at hk
   injection hk with hk
   injection hk with _ h2 _
   exact hE (h2 ▸ hE')
theorem keeps_set {S : World -> Nat -> Prop} {w : World} {p : Addr} (u : Value) (hS : ∀ k, S w k -> p.block ≠ k) : Keeps S w (w.setCell p u) := fun k _ hs => Below.heap_setCell w _ u k (fun e => hS k hs (by rw [e]))
theorem keeps_set_kind {lo : Nat} {Es : List TypeId} {w : World} {g i : Nat} {T : TypeId} {cs : List Value} (h : Arr w g T cs) (hT : T ∉ Es) (u : Value) : Keeps (ownF lo Es) w (w.setCell ⟨g, i, none⟩ u) := by
 refine keeps_set u (fun k ⟨_, E', hE', cs', fz, hk⟩ e => ?_)
 have e' : g = k := e
 subst e'
 rw [show w.heap[g]? = _ from h] at hk
 injection hk with hk
 injection hk with _ h2 _
 exact hT (h2 ▸ hE')
theorem Keeps.trans {S : World -> Nat -> Prop} (hS : Stable S) {a b d : World} (h : Keeps S a b) (hz : a.heap.size <= b.heap.size) (k : Keeps S b d) : Keeps S a d :=
 fun j hj hs => (k j (Nat.lt_of_lt_of_le hj hz) (hS a b j hj (h j hj hs) hs)).trans (h j hj hs)
structure Row (S : World -> Nat -> Prop) (s : Nat) (w : World) (ao : Option Addr) (n c : Nat) (us : List Value) : Prop where
 len : us.length = n * s
 cap : n <= c
 room : c <= 9223372036854775807
 isSome : 0 < n -> ∃ a, ao = some a
 cell : ∀ i u, us[i]? = some u -> w.cell? (pt ao i) = some u /\ S w (pt ao i).block
 nil0 : ao = none -> c = 0
section
variable {S T : World -> Nat -> Prop} {s n c : Nat} {w w' : World} {ao : Option Addr} {us : List Value}
theorem Row.keep (h : Row S s w ao n c us) (hS : Stable S) (hk : Keeps S w w') : Row S s w' ao n c us :=
 ⟨h.len, h.cap, h.room, h.isSome, fun i u hu => by
  obtain ⟨h1, h2⟩ := h.cell i u hu
  have hb := World.block_lt_of_cell? w _ h1
  have he := hk _ hb h2
  exact ⟨(World.cell?_of_block he).trans h1, hS w w' _ hb he h2⟩, h.nil0⟩
theorem Row.mono (h : Row S s w ao n c us) (hm : ∀ k, S w k -> T w k) : Row T s w ao n c us := ⟨h.len, h.cap, h.room, h.isSome, fun i u hu => ⟨(h.cell i u hu).1, hm _ (h.cell i u hu).2⟩, h.nil0⟩
theorem Row.nil (S : World -> Nat -> Prop) (s : Nat) (w : World) : Row S s w none 0 0 [] := ⟨by simp, Nat.le_refl _, by omega, fun h => absurd h (by omega), fun i u hu => by simp at hu, fun _ => rfl⟩
theorem Row.own {B : Nat} {E : TypeId} (h : w.ownsRow B E s (.slice ao n c) n us) (hs : 0 < s) : Row (ownF B [E]) s w ao n c us := by
 have hl := h.1
 rcases h.2 with ⟨hv, h0⟩ | ⟨g, cap, cur, hv, hg, hh, hn, hc, hz, ht⟩
 . injection hv with h1 h2 h3
   subst h1 h2 h3
   have : us = [] := List.eq_nil_of_length_eq_zero (by omega)
   subst this
   exact Row.nil _ _ _
 . injection hv with h1 h2 h3
   subst h1; subst h3
   refine ⟨hl, hn, by unfold maxLen at hc; omega, fun _ => ⟨_, rfl⟩, fun i u hu => ?_, fun e => by cases e⟩
   rw [pt_own]
   have hi : i < us.length := (List.getElem?_eq_some_iff.1 hu).1
   have := cell_of_row w g i _ _ _ hh
   refine ⟨?_, hg, E, List.mem_singleton.2 rfl, _, _, hh⟩
   rw [this, <- hu, <- ht, List.getElem?_take, if_pos (by omega), Array.getElem?_toList]
end
theorem run_ix {T E : TypeId} {s : Nat} (ht : Tryz.prog.underlying T = some (.slice E)) (he : (Tryz.prog.info? E).map (·.size) = some s) {S : World -> Nat -> Prop} {w : World} {ao : Option Addr} {n c : Nat} {us : List Value} (h : Row S s w ao n c us) (i : Nat) (hi : i < n) (W : World) :
    (Instr.indexAt T (.slice ao n c) (.int .i64 (i : Int))).run Tryz.prog W = .ok (.pointer (some (pt ao (i * s)))) W := by
 obtain ⟨a, rfl⟩ := h.isSome (by omega)
 obtain ⟨inf, hinf, hs⟩ := Option.map_eq_some_iff.1 he
 have h1 : (0 : Int) <= (i : Int) /\ (i : Int) < (n : Int) := by omega
 simp [Instr.indexAt, run_underlying ht, asIntOf, sizeOf, typeInfo, hinf, hs, pt, hi]
def StrL (S : World -> Nat -> Prop) (w : World) (ao : Option Addr) (n c : Nat) (vs : List (List UInt8)) : Prop := Row S 1 w ao n c (vs.map fun v => .string (stg v))
def FCells (q : Bool) (S : World -> Nat -> Prop) (w : World) : List Fld -> List Value -> Prop
  | [], us => us = []
  | f :: fs, us => ∃ vo vn vc z r, us = .string (stg f.key) :: .slice vo vn vc :: .int .i64 z :: r /\ StrL S w vo vn vc f.vals /\ (q = true -> z = (f.line : Int)) /\ FCells q S w fs r
def FldL (q : Bool) (S : World -> Nat -> Prop) (w : World) (ao : Option Addr) (n c : Nat) (fs : List Fld) : Prop := ∃ us, Row S 3 w ao n c us /\ FCells q S w fs us
def BCells (q : Bool) (S : World -> Nat -> Prop) (w : World) : List Blc -> List Value -> Prop
  | [], us => us = []
  | b :: bs, us => ∃ fo fn fc z r, us = .string (stg b.kind) :: .string (stg b.name) :: .slice fo fn fc :: .int .i64 z :: r /\ FldL q S w fo fn fc b.flds /\ (q = true -> z = (b.line : Int)) /\ BCells q S w bs r
def BlkL (q : Bool) (S : World -> Nat -> Prop) (w : World) (ao : Option Addr) (n c : Nat) (bs : List Blc) : Prop := ∃ us, Row S 4 w ao n c us /\ BCells q S w bs us
section
variable {q : Bool} {S T : World -> Nat -> Prop} {n c : Nat} {w w' : World} {ao : Option Addr} {us : List Value}
theorem FCells.keep (hS : Stable S) (hk : Keeps S w w') : ∀ {fs : List Fld} {us : List Value}, FCells q S w fs us -> FCells q S w' fs us
  | [], _, h => h
  | _ :: _, _, ⟨vo, vn, vc, z, r, h1, h2, h3, h4⟩ => ⟨vo, vn, vc, z, r, h1, Row.keep h2 hS hk, h3, FCells.keep hS hk h4⟩
theorem FCells.mono (hm : ∀ k, S w k -> T w k) : ∀ {fs : List Fld} {us : List Value}, FCells q S w fs us -> FCells q T w fs us
  | [], _, h => h
  | _ :: _, _, ⟨vo, vn, vc, z, r, h1, h2, h3, h4⟩ => ⟨vo, vn, vc, z, r, h1, Row.mono h2 hm, h3, FCells.mono hm h4⟩
theorem FCells.append : ∀ {fs : List Fld} {us : List Value} {gs : List Fld} {vs : List Value}, FCells q S w fs us -> FCells q S w gs vs -> FCells q S w (fs ++ gs) (us ++ vs)
  | [], _, _, _, h, k => by
   have : _ = [] := h
   subst this
   exact k
  | _ :: _, _, _, _, ⟨vo, vn, vc, z, r, h1, h2, h3, h4⟩, k => by
   subst h1
   exact ⟨vo, vn, vc, z, _, rfl, h2, h3, FCells.append h4 k⟩
theorem FldL.keep {fs : List Fld} (h : FldL q S w ao n c fs) (hS : Stable S) (hk : Keeps S w w') : FldL q S w' ao n c fs := by
 obtain ⟨us, h1, h2⟩ := h
 exact ⟨us, h1.keep hS hk, h2.keep hS hk⟩
theorem FldL.mono {fs : List Fld} (h : FldL q S w ao n c fs) (hm : ∀ k, S w k -> T w k) : FldL q T w ao n c fs := by
 obtain ⟨us, h1, h2⟩ := h
 exact ⟨us, h1.mono hm, h2.mono hm⟩
theorem BCells.keep (hS : Stable S) (hk : Keeps S w w') : ∀ {bs : List Blc} {us : List Value}, BCells q S w bs us -> BCells q S w' bs us
  | [], _, h => h
  | _ :: _, _, ⟨vo, vn, vc, z, r, h1, h2, h3, h4⟩ => ⟨vo, vn, vc, z, r, h1, FldL.keep h2 hS hk, h3, BCells.keep hS hk h4⟩
theorem BCells.mono (hm : ∀ k, S w k -> T w k) : ∀ {bs : List Blc} {us : List Value}, BCells q S w bs us -> BCells q T w bs us
  | [], _, h => h
  | _ :: _, _, ⟨vo, vn, vc, z, r, h1, h2, h3, h4⟩ => ⟨vo, vn, vc, z, r, h1, FldL.mono h2 hm, h3, BCells.mono hm h4⟩
theorem BCells.append : ∀ {bs : List Blc} {us : List Value} {gs : List Blc} {vs : List Value}, BCells q S w bs us -> BCells q S w gs vs -> BCells q S w (bs ++ gs) (us ++ vs)
  | [], _, _, _, h, k => by
   have : _ = [] := h
   subst this
   exact k
  | _ :: _, _, _, _, ⟨vo, vn, vc, z, r, h1, h2, h3, h4⟩, k => by
   subst h1
   exact ⟨vo, vn, vc, z, _, rfl, h2, h3, BCells.append h4 k⟩
theorem BlkL.keep {bs : List Blc} (h : BlkL q S w ao n c bs) (hS : Stable S) (hk : Keeps S w w') : BlkL q S w' ao n c bs := by
 obtain ⟨us, h1, h2⟩ := h
 exact ⟨us, h1.keep hS hk, h2.keep hS hk⟩
theorem BlkL.mono {bs : List Blc} (h : BlkL q S w ao n c bs) (hm : ∀ k, S w k -> T w k) : BlkL q T w ao n c bs := by
 obtain ⟨us, h1, h2⟩ := h
 exact ⟨us, h1.mono hm, h2.mono hm⟩
theorem StrL.len {vs : List (List UInt8)} (h : StrL S w ao n c vs) : vs.length = n := by have := Row.len h; simpa using this
theorem StrL.at {vs : List (List UInt8)} (h : StrL S w ao n c vs) (i : Nat) (v : List UInt8) (hv : vs[i]? = some v) : w.cell? (pt ao i) = some (.string (stg v)) :=
 (Row.cell h i _ (by rw [List.getElem?_map, hv]; rfl)).1
end
section
variable {w : World} {ops : Array Oper} {rest : List Oper} {a : Act} {Q : Exit -> Act -> World -> Prop} {d : Option Tmp} {p q : Operand} {ty : TypeId} {pos : String} {after : Array Edge}
theorem wpList_appR {T E : TypeId} {s bytes : Nat} {z : Value} (ht : Tryz.prog.underlying T = some (.slice E)) (hinfo : (Tryz.prog.info? E).map (fun i => (i.zero, i.size, i.bytes)) = some (some z, s, bytes)) (hzs : z.cells.size = s) (hs : 0 < s) (hby : bytes <= 64)
    {B : Nat} {ao : Option Addr} {n c : Nat} {us vs : List Value} (hO : w.ownsRow B E s (.slice ao n c) n us) (hB : B <= w.heap.size) (hn : n <= 1048576) (hv : vs.length = s) (h1 : ∀ u ∈ vs, u.oneCell' = true)
    (hp : a.eval p = .slice ao n c) (hq : a.eval q = .slice (some ⟨w.heap.size, 0, none⟩) 1 1)
    (h : ∀ ao' c' w', w'.ownsRow B E s (.slice ao' (n + 1) c') (n + 1) (us ++ vs) -> w.grownBy w' (Value.slice ao n c).ownBlock -> Below B w w' -> wpList Tryz.prog ops Q rest (a.put d (.slice ao' (n + 1) c')) w') :
    wpList Tryz.prog ops Q (⟨d, .call { callee := .builtin .append, args := #[p, q], argTypes := #[T, T] }, ty, pos, after, none⟩ :: rest) a (w.alloc (.cells vs.toArray E)) := by
 obtain ⟨i0, hi, hz0, hz1, hz2⟩ := info_parts hinfo
 have b1 : Below w.heap.size w (w.alloc (.cells vs.toArray E)) := (Below.refl _ _).alloc (Nat.le_refl _) _
 have g1 : w.grownBy (w.alloc (.cells vs.toArray E)) (Value.slice ao n c).ownBlock := ⟨b1.os, b1.tape, b1.output, b1.size, fun k hk _ => b1.block k hk⟩
 have hnew : Arr (w.alloc (.cells vs.toArray E)) w.heap.size E vs := Arr.new w _ vs
 have hO1 : (w.alloc (.cells vs.toArray E)).ownsRow B E s (.slice ao n c) n us := World.ownsRow.kept (row := none) hO ⟨b1.os, b1.tape, b1.output, b1.size, fun j hj _ => b1.block j hj⟩ (by cases (Value.slice ao n c).ownBlock <;> simp)
 have hbb : (n + 1) * bytes <= (1048576 + 1) * 64 := Nat.mul_le_mul (by omega) hby
 refine wpList_append_own _ rfl p q T rfl B E i0 z s bytes ht hi hz0 hz1 hz2 hzs hs _ n _ hp hO1 ⟨w.heap.size, 0, none⟩ 1 1 vs hq (by omega) ?_ h1 (by unfold maxLen; omega) (by omega) (by simp; omega) ?_
 . intro j u hj
   have e := pt_own w.heap.size j
   simp only [pt, Option.getD_some] at e
   rw [e, hnew.cell]
   exact hj
 . intro v' w' ho' hg _
   obtain ⟨av, cv, hv⟩ : ∃ ao c, v' = .slice ao (n + 1) c := by
    rcases ho'.2 with ⟨hv, h0⟩ | ⟨g, cap, _, hv, _⟩
    . omega
    . exact ⟨_, cap, hv⟩
   subst hv
   exact h av cv w' ho' (grown_trans g1 hg) ((b1.mono hB).trans ((Below.refl _ _).grown hg (by simp; omega) (fun k hk => (World.ownsRow.lt hO k hk).1)))
end
theorem ownsRow_keep {B s n : Nat} {E : TypeId} {w w' : World} {v : Value} {us : List Value} (h : w.ownsRow B E s v n us) (hb : Below w.heap.size w w') : w'.ownsRow B E s v n us :=
 World.ownsRow.kept (row := none) h ⟨hb.os, hb.tape, hb.output, hb.size, fun j hj _ => hb.block j hj⟩ (by cases v.ownBlock <;> simp)
theorem ownsRow_older {B g s n : Nat} {E : TypeId} {w w' : World} {v : Value} {us : List Value} (h : w.ownsRow B E s v n us) (hg : w.grownBy w' (some g)) (hl : g < B) : w'.ownsRow B E s v n us := by
 refine World.ownsRow.kept (row := some g) h hg ?_
 cases hv : v.ownBlock with
 | none => exact Or.inl rfl
 | some k => exact Or.inr (fun e => by injection e with e; have := (World.ownsRow.lt h k hv).1; omega)
theorem set_grown (w : World) (g i : Nat) (u : Value) : w.grownBy (w.setCell ⟨g, i, none⟩ u) (some g) :=
 ⟨rfl, rfl, rfl, by simp [World.setCell], fun k _ hk => Below.heap_setCell w _ u k (fun e => hk (by rw [e]))⟩
def put3 (w : World) (g : Nat) (u0 u1 u2 : Value) : World := ((w.setCell ⟨g, 0, none⟩ u0).setCell ⟨g, 1, none⟩ u1).setCell ⟨g, 2, none⟩ u2
def put4 (w : World) (g : Nat) (u0 u1 u2 u3 : Value) : World := (((w.setCell ⟨g, 0, none⟩ u0).setCell ⟨g, 1, none⟩ u1).setCell ⟨g, 2, none⟩ u2).setCell ⟨g, 3, none⟩ u3
section
variable {w : World} {g : Nat} {t : TypeId} {v0 v1 v2 v3 : Value}
theorem Arr.store3 (h : Arr w g t [v0, v1, v2]) (u0 u1 : Value) :
    w.cell? ⟨g, 0, none⟩ = some v0 /\ w.frozen? ⟨g, 0, none⟩ = false /\ (w.setCell ⟨g, 0, none⟩ u0).cell? ⟨g, 1, none⟩ = some v1 /\ (w.setCell ⟨g, 0, none⟩ u0).frozen? ⟨g, 1, none⟩ = false /\
    ((w.setCell ⟨g, 0, none⟩ u0).setCell ⟨g, 1, none⟩ u1).cell? ⟨g, 2, none⟩ = some v2 /\ ((w.setCell ⟨g, 0, none⟩ u0).setCell ⟨g, 1, none⟩ u1).frozen? ⟨g, 2, none⟩ = false :=
 ⟨h.cell 0, h.frozen 0, (h.set 0 u0).cell 1, (h.set 0 u0).frozen 1, ((h.set 0 u0).set 1 u1).cell 2, ((h.set 0 u0).set 1 u1).frozen 2⟩
theorem Arr.put3 (h : Arr w g t [v0, v1, v2]) (u0 u1 u2 : Value) : Arr (put3 w g u0 u1 u2) g t [u0, u1, u2] := ((h.set 0 u0).set 1 u1).set 2 u2
theorem Arr.store4 (h : Arr w g t [v0, v1, v2, v3]) (u0 u1 u2 : Value) :
    w.cell? ⟨g, 0, none⟩ = some v0 /\ w.frozen? ⟨g, 0, none⟩ = false /\ (w.setCell ⟨g, 0, none⟩ u0).cell? ⟨g, 1, none⟩ = some v1 /\ (w.setCell ⟨g, 0, none⟩ u0).frozen? ⟨g, 1, none⟩ = false /\
    ((w.setCell ⟨g, 0, none⟩ u0).setCell ⟨g, 1, none⟩ u1).cell? ⟨g, 2, none⟩ = some v2 /\ ((w.setCell ⟨g, 0, none⟩ u0).setCell ⟨g, 1, none⟩ u1).frozen? ⟨g, 2, none⟩ = false /\
    (((w.setCell ⟨g, 0, none⟩ u0).setCell ⟨g, 1, none⟩ u1).setCell ⟨g, 2, none⟩ u2).cell? ⟨g, 3, none⟩ = some v3 /\ (((w.setCell ⟨g, 0, none⟩ u0).setCell ⟨g, 1, none⟩ u1).setCell ⟨g, 2, none⟩ u2).frozen? ⟨g, 3, none⟩ = false :=
 ⟨h.cell 0, h.frozen 0, (h.set 0 u0).cell 1, (h.set 0 u0).frozen 1, ((h.set 0 u0).set 1 u1).cell 2, ((h.set 0 u0).set 1 u1).frozen 2, (((h.set 0 u0).set 1 u1).set 2 u2).cell 3, (((h.set 0 u0).set 1 u1).set 2 u2).frozen 3⟩
theorem Arr.put4 (h : Arr w g t [v0, v1, v2, v3]) (u0 u1 u2 u3 : Value) : Arr (put4 w g u0 u1 u2 u3) g t [u0, u1, u2, u3] := (((h.set 0 u0).set 1 u1).set 2 u2).set 3 u3
end
section
variable {a w : World} {row : Option Nat} {b : Nat}
theorem grown_set (h : a.grownBy w row) (hb : a.heap.size <= b) (j : Nat) (u : Value) : a.grownBy (w.setCell ⟨b, j, none⟩ u) row :=
 ⟨h.os, h.tape, h.output, by simpa [World.setCell] using h.size, fun k hk hne => (Below.heap_setCell w _ u k (fun e => by have e' : k = b := e; omega)).trans (h.block k hk hne)⟩
theorem grown_put2 (h : a.grownBy w row) (hb : a.heap.size <= b) (u0 u1 : Value) : a.grownBy (put2 w b u0 u1) row := grown_set (grown_set h hb 0 u0) hb 1 u1
theorem grown_put3 (h : a.grownBy w row) (hb : a.heap.size <= b) (u0 u1 u2 : Value) : a.grownBy (put3 w b u0 u1 u2) row := grown_set (grown_set (grown_set h hb 0 u0) hb 1 u1) hb 2 u2
theorem grown_put4 (h : a.grownBy w row) (hb : a.heap.size <= b) (u0 u1 u2 u3 : Value) : a.grownBy (put4 w b u0 u1 u2 u3) row := grown_set (grown_set (grown_set (grown_set h hb 0 u0) hb 1 u1) hb 2 u2) hb 3 u3
theorem grown_below (h : Below a.heap.size a w) (row : Option Nat) : a.grownBy w row := ⟨h.os, h.tape, h.output, h.size, fun k hk _ => h.block k hk⟩
theorem below_grown {g : Nat} (h : a.grownBy w (some g)) {B : Nat} (hg : B <= g) (hB : B <= a.heap.size) : Below B a w := ⟨h.os, h.tape, h.output, h.size, fun k hk => h.block k (by omega) (fun e => by injection e with e; omega)⟩
theorem size_put2 (w : World) (g : Nat) (u0 u1 : Value) : (put2 w g u0 u1).heap.size = w.heap.size := by simp [put2, World.setCell]
theorem size_put3 (w : World) (g : Nat) (u0 u1 u2 : Value) : (put3 w g u0 u1 u2).heap.size = w.heap.size := by simp [put3, World.setCell]
theorem size_put4 (w : World) (g : Nat) (u0 u1 u2 u3 : Value) : (put4 w g u0 u1 u2 u3).heap.size = w.heap.size := by simp [put4, World.setCell]
theorem grown_on {g : Nat} {b d : World} (h : a.grownBy b (some g)) (k : b.grownBy d (some g)) : a.grownBy d (some g) :=
 ⟨k.os.trans h.os, k.tape.trans h.tape, k.output.trans h.output, Nat.le_trans h.size k.size, fun i hi hne => (k.block i (Nat.lt_of_lt_of_le hi h.size) hne).trans (h.block i hi hne)⟩
theorem Arr.grown {t : TypeId} {cs : List Value} {g : Nat} (h : Arr a b t cs) (hg : a.grownBy w (some g)) (hne : b ≠ g) : Arr w b t cs := (hg.block b h.lt (fun e => by injection e with e; exact hne e)).trans h
end
theorem new_box (w : World) (T : TypeId) (cs : List Value) : ∃ V, w.alloc (.cells cs.toArray T) = V /\ Arr V w.heap.size T cs /\ Below w.heap.size w V /\ V.heap.size = w.heap.size + 1 :=
 ⟨_, rfl, Arr.new w T cs, (Below.refl _ _).alloc (Nat.le_refl _) _, by simp⟩
section
variable {w : World} {g : Nat} {t : TypeId} {v0 v1 v2 v3 : Value}
theorem put_box2 (h : Arr w g t [v0, v1]) (u0 u1 : Value) : ∃ V, (w.setCell ⟨g, 0, none⟩ u0).setCell ⟨g, 1, none⟩ u1 = V /\ Hid (V = put2 w g u0 u1) /\ Arr V g t [u0, u1] /\
    w.cell? ⟨g, 0, none⟩ = some v0 /\ w.frozen? ⟨g, 0, none⟩ = false /\ (w.setCell ⟨g, 0, none⟩ u0).cell? ⟨g, 1, none⟩ = some v1 /\ (w.setCell ⟨g, 0, none⟩ u0).frozen? ⟨g, 1, none⟩ = false :=
 ⟨_, rfl, rfl, h.put2 u0 u1, h.store2 u0⟩
theorem put_box3 (h : Arr w g t [v0, v1, v2]) (u0 u1 u2 : Value) : ∃ V, ((w.setCell ⟨g, 0, none⟩ u0).setCell ⟨g, 1, none⟩ u1).setCell ⟨g, 2, none⟩ u2 = V /\ Hid (V = put3 w g u0 u1 u2) /\ Arr V g t [u0, u1, u2] /\
    w.cell? ⟨g, 0, none⟩ = some v0 /\ w.frozen? ⟨g, 0, none⟩ = false /\ (w.setCell ⟨g, 0, none⟩ u0).cell? ⟨g, 1, none⟩ = some v1 /\ (w.setCell ⟨g, 0, none⟩ u0).frozen? ⟨g, 1, none⟩ = false /\
    ((w.setCell ⟨g, 0, none⟩ u0).setCell ⟨g, 1, none⟩ u1).cell? ⟨g, 2, none⟩ = some v2 /\ ((w.setCell ⟨g, 0, none⟩ u0).setCell ⟨g, 1, none⟩ u1).frozen? ⟨g, 2, none⟩ = false :=
 ⟨_, rfl, rfl, h.put3 u0 u1 u2, h.store3 u0 u1⟩
theorem put_box4 (h : Arr w g t [v0, v1, v2, v3]) (u0 u1 u2 u3 : Value) : ∃ V, (((w.setCell ⟨g, 0, none⟩ u0).setCell ⟨g, 1, none⟩ u1).setCell ⟨g, 2, none⟩ u2).setCell ⟨g, 3, none⟩ u3 = V /\ Hid (V = put4 w g u0 u1 u2 u3) /\ Arr V g t [u0, u1, u2, u3] /\
    w.cell? ⟨g, 0, none⟩ = some v0 /\ w.frozen? ⟨g, 0, none⟩ = false /\ (w.setCell ⟨g, 0, none⟩ u0).cell? ⟨g, 1, none⟩ = some v1 /\ (w.setCell ⟨g, 0, none⟩ u0).frozen? ⟨g, 1, none⟩ = false /\
    ((w.setCell ⟨g, 0, none⟩ u0).setCell ⟨g, 1, none⟩ u1).cell? ⟨g, 2, none⟩ = some v2 /\ ((w.setCell ⟨g, 0, none⟩ u0).setCell ⟨g, 1, none⟩ u1).frozen? ⟨g, 2, none⟩ = false /\
    (((w.setCell ⟨g, 0, none⟩ u0).setCell ⟨g, 1, none⟩ u1).setCell ⟨g, 2, none⟩ u2).cell? ⟨g, 3, none⟩ = some v3 /\ (((w.setCell ⟨g, 0, none⟩ u0).setCell ⟨g, 1, none⟩ u1).setCell ⟨g, 2, none⟩ u2).frozen? ⟨g, 3, none⟩ = false :=
 ⟨_, rfl, rfl, h.put4 u0 u1 u2 u3, h.store4 u0 u1 u2⟩
end
theorem new_put2 (w : World) (T : TypeId) (z0 z1 u0 u1 : Value) : ∃ V V2, w.alloc (.cells #[z0, z1] T) = V /\ (V.setCell ⟨w.heap.size, 0, none⟩ u0).setCell ⟨w.heap.size, 1, none⟩ u1 = V2 /\ Arr V2 w.heap.size T [u0, u1] /\ Below w.heap.size w V2 /\ V2.heap.size = w.heap.size + 1 /\
    V.cell? ⟨w.heap.size, 0, none⟩ = some z0 /\ V.frozen? ⟨w.heap.size, 0, none⟩ = false /\ (V.setCell ⟨w.heap.size, 0, none⟩ u0).cell? ⟨w.heap.size, 1, none⟩ = some z1 /\ (V.setCell ⟨w.heap.size, 0, none⟩ u0).frozen? ⟨w.heap.size, 1, none⟩ = false := by
 obtain ⟨V, e1, A, B, hz⟩ := new_box w T [z0, z1]
 obtain ⟨V2, e2, h2, A2, f⟩ := put_box2 A u0 u1
 exact ⟨V, V2, e1, e2, A2, by rw [h2.out]; exact below_put2 B (Nat.le_refl _) u0 u1, by rw [h2.out, size_put2, hz], f⟩
theorem new_put3 (w : World) (T : TypeId) (z0 z1 z2 u0 u1 u2 : Value) : ∃ V V2, w.alloc (.cells #[z0, z1, z2] T) = V /\ ((V.setCell ⟨w.heap.size, 0, none⟩ u0).setCell ⟨w.heap.size, 1, none⟩ u1).setCell ⟨w.heap.size, 2, none⟩ u2 = V2 /\ Arr V2 w.heap.size T [u0, u1, u2] /\ Below w.heap.size w V2 /\ V2.heap.size = w.heap.size + 1 /\
    V.cell? ⟨w.heap.size, 0, none⟩ = some z0 /\ V.frozen? ⟨w.heap.size, 0, none⟩ = false /\ (V.setCell ⟨w.heap.size, 0, none⟩ u0).cell? ⟨w.heap.size, 1, none⟩ = some z1 /\ (V.setCell ⟨w.heap.size, 0, none⟩ u0).frozen? ⟨w.heap.size, 1, none⟩ = false /\
    ((V.setCell ⟨w.heap.size, 0, none⟩ u0).setCell ⟨w.heap.size, 1, none⟩ u1).cell? ⟨w.heap.size, 2, none⟩ = some z2 /\ ((V.setCell ⟨w.heap.size, 0, none⟩ u0).setCell ⟨w.heap.size, 1, none⟩ u1).frozen? ⟨w.heap.size, 2, none⟩ = false := by
 obtain ⟨V, e1, A, B, hz⟩ := new_box w T [z0, z1, z2]
 obtain ⟨V2, e2, h2, A2, f⟩ := put_box3 A u0 u1 u2
 exact ⟨V, V2, e1, e2, A2, by rw [h2.out]; exact (B.setCell (p := ⟨_, 0, none⟩) (Nat.le_refl _) u0 |>.setCell (p := ⟨_, 1, none⟩) (Nat.le_refl _) u1 |>.setCell (p := ⟨_, 2, none⟩) (Nat.le_refl _) u2), by rw [h2.out, size_put3, hz], f⟩
theorem new_put4 (w : World) (T : TypeId) (z0 z1 z2 z3 u0 u1 u2 u3 : Value) : ∃ V V2, w.alloc (.cells #[z0, z1, z2, z3] T) = V /\ (((V.setCell ⟨w.heap.size, 0, none⟩ u0).setCell ⟨w.heap.size, 1, none⟩ u1).setCell ⟨w.heap.size, 2, none⟩ u2).setCell ⟨w.heap.size, 3, none⟩ u3 = V2 /\ Arr V2 w.heap.size T [u0, u1, u2, u3] /\ Below w.heap.size w V2 /\ V2.heap.size = w.heap.size + 1 /\
    V.cell? ⟨w.heap.size, 0, none⟩ = some z0 /\ V.frozen? ⟨w.heap.size, 0, none⟩ = false /\ (V.setCell ⟨w.heap.size, 0, none⟩ u0).cell? ⟨w.heap.size, 1, none⟩ = some z1 /\ (V.setCell ⟨w.heap.size, 0, none⟩ u0).frozen? ⟨w.heap.size, 1, none⟩ = false /\
    ((V.setCell ⟨w.heap.size, 0, none⟩ u0).setCell ⟨w.heap.size, 1, none⟩ u1).cell? ⟨w.heap.size, 2, none⟩ = some z2 /\ ((V.setCell ⟨w.heap.size, 0, none⟩ u0).setCell ⟨w.heap.size, 1, none⟩ u1).frozen? ⟨w.heap.size, 2, none⟩ = false /\
    (((V.setCell ⟨w.heap.size, 0, none⟩ u0).setCell ⟨w.heap.size, 1, none⟩ u1).setCell ⟨w.heap.size, 2, none⟩ u2).cell? ⟨w.heap.size, 3, none⟩ = some z3 /\ (((V.setCell ⟨w.heap.size, 0, none⟩ u0).setCell ⟨w.heap.size, 1, none⟩ u1).setCell ⟨w.heap.size, 2, none⟩ u2).frozen? ⟨w.heap.size, 3, none⟩ = false := by
 obtain ⟨V, e1, A, B, hz⟩ := new_box w T [z0, z1, z2, z3]
 obtain ⟨V2, e2, h2, A2, f⟩ := put_box4 A u0 u1 u2 u3
 exact ⟨V, V2, e1, e2, A2, by rw [h2.out]; exact (B.setCell (p := ⟨_, 0, none⟩) (Nat.le_refl _) u0 |>.setCell (p := ⟨_, 1, none⟩) (Nat.le_refl _) u1 |>.setCell (p := ⟨_, 2, none⟩) (Nat.le_refl _) u2 |>.setCell (p := ⟨_, 3, none⟩) (Nat.le_refl _) u3), by rw [h2.out, size_put4, hz], f⟩
end Go.Proofs.YtemdkkphmldgjaaGreatDoor
namespace Go.Proofs.YtemdkkphmldgjaaGreatDoor.Lx
inductive PR (α : Type) where
 | ok (a : α) (r : List Tok)
 | bad (ln : Nat)
def PR.bind {α β : Type} : PR α -> (α -> List Tok -> PR β) -> PR β
  | .ok a r, f => f a r
  | .bad ln, _ => .bad ln
theorem PR.bind_ok {α β : Type} (a : α) (r : List Tok) (f : α -> List Tok -> PR β) : (PR.ok a r).bind f = f a r := rfl
def lineP : List Tok -> Nat
  | [] => 0
  | t :: _ => t.line
def isMark (c : UInt8) (t : Tok) : Bool := decide (t.kind = 4) && decide (t.text = [c])
def atMark (c : UInt8) : List Tok -> Bool
  | [] => false
  | t :: _ => isMark c t
def atKind (k : Nat) : List Tok -> Bool
  | [] => false
  | t :: _ => decide (t.kind = k)
def takeK (k : Nat) : List Tok -> PR (List UInt8)
  | [] => .bad 0
  | t :: r => if t.kind = k then .ok t.text r else .bad t.line
def takeM (c : UInt8) : List Tok -> PR Unit
  | [] => .bad 0
  | t :: r => if isMark c t then .ok () r else .bad t.line
def valueP (l : List Tok) : PR (List UInt8) :=
 if atKind 1 l then takeK 1 l
 else if atKind 3 l then takeK 3 l
 else (takeK 2 l).bind fun a r => if atMark 47 r then (takeK 2 (r.drop 1)).bind fun b r2 => .ok (a ++ 47 :: b) r2 else .ok a r
def moreP : Nat -> List Tok -> PR (List (List UInt8))
  | 0, l => .ok [] l
  | k + 1, l => if atMark 44 l then (valueP (l.drop 1)).bind fun v r => (moreP k r).bind fun vs r2 => .ok (v :: vs) r2 else .ok [] l
def fieldP (l : List Tok) : PR Fld :=
 (takeK 1 l).bind fun key r => (valueP r).bind fun v r2 => (moreP r2.length r2).bind fun vs r3 => (takeM 59 r3).bind fun _ r4 => .ok ⟨key, v :: vs, lineP l⟩ r4
def fieldsP : Nat -> List Tok -> PR (List Fld)
  | 0, l => .ok [] l
  | k + 1, l => if atMark 125 l then .ok [] l else (fieldP l).bind fun f r => (fieldsP k r).bind fun fs r2 => .ok (f :: fs) r2
def nameR (l : List Tok) : PR (List UInt8) := if atKind 1 l then takeK 1 l else .ok [] l
def blockP (l : List Tok) : PR Blc :=
 (takeK 1 l).bind fun kind r => (nameR r).bind fun name r2 => (takeM 123 r2).bind fun _ r3 => (fieldsP (r3.length + 1) r3).bind fun fs r4 => (takeM 125 r4).bind fun _ r5 => .ok ⟨kind, name, fs, lineP l⟩ r5
def blocksP : Nat -> List Tok -> PR (List Blc)
  | 0, l => .ok [] l
  | k + 1, l => if atMark 125 l then .ok [] l else (blockP l).bind fun b r => (blocksP k r).bind fun bs r2 => .ok (b :: bs) r2
def takeE : List Tok -> PR Unit
  | [] => .bad 0
  | t :: r => if t.kind = 1 /\ t.text = elec then .ok () r else .bad t.line
def sourceP (l : List Tok) : PR Src :=
 (takeE l).bind fun _ r => (takeK 3 r).bind fun title r2 => (takeM 123 r2).bind fun _ r3 => (blocksP (r3.length + 1) r3).bind fun bs r4 => (takeM 125 r4).bind fun _ r5 => (takeK 5 r5).bind fun _ r6 => .ok ⟨title, bs⟩ r6
inductive Ans where
 | ok (s : Src)
 | err (ln : Nat)
def parseL (l : List UInt8) : Ans :=
 match lexS l 1 with
 | .err ln => .err ln
 | .ok ts ln => match sourceP (ts ++ [⟨5, [], ln⟩]) with
  | .ok s _ => .ok s
  | .bad m => .err m
end Go.Proofs.YtemdkkphmldgjaaGreatDoor.Lx
