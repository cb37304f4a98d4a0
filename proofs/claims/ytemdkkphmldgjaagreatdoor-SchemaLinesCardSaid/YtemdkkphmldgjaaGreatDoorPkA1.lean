/-
  Texts of the proof, put together: LexMath LexStr LexBase LexByte LexRun LexWord.
-/
import Derived.WalkKit
import Derived.Test.YtemdkkphmldgjaaGreatDoorProg
import Derived.WalkSpells
import Derived.WalkLawsBesides
import Derived.Lib.Hide
import Derived.Outline
import Derived.BigQuiet
import Derived.Deep.WholeRow
import Derived.Laws.Tables
import Derived.Laws.Rows
import Derived.Laws.AppendOwnNone
import Derived.Maps.AppendAt
import Derived.Laws.MakeOwn
import Derived.Lib.UnsafeStr
import Derived.Deep.Draws
import Derived.Deep.QuietTactic
import Derived.Lib.OwnKind
import Derived.Lib.BufferRead
import Derived.Lib.SmallJoins
import Derived.Lib.Bytealg
import Derived.Lib.IndexLaws
set_option maxRecDepth 100000
set_option maxHeartbeats 1600000
namespace Go.Proofs.YtemdkkphmldgjaaGreatDoor.Lx
def letB (c : UInt8) : Bool := decide (97 <= c.toNat) && decide (c.toNat <= 122)
def digB (c : UInt8) : Bool := decide (48 <= c.toNat) && decide (c.toNat <= 57)
def tailB (c : UInt8) : Bool := letB c || digB c || decide (c.toNat = 45)
def blankB (c : UInt8) : Bool := decide (c.toNat = 32) || decide (c.toNat = 9) || decide (c.toNat = 10) || decide (c.toNat = 13)
def markB (c : UInt8) : Bool := decide (c.toNat = 123) || decide (c.toNat = 125) || decide (c.toNat = 59) || decide (c.toNat = 44) || decide (c.toNat = 47)
def plainB (c : UInt8) : Bool := decide (32 <= c.toNat) && decide (c.toNat <= 126)
def escB (c : UInt8) : Bool := decide (c.toNat = 34) || decide (c.toNat = 92)
def wordB : List UInt8 -> Bool
  | [] => false
  | c :: r => letB c && r.all tailB
def numB : List UInt8 -> Bool
  | [] => false
  | c :: r => (c :: r).all digB && decide (r.length <= 5) && (r.isEmpty || !decide (c.toNat = 48))
def bareB (l : List UInt8) : Bool :=
 if l.any (fun c => decide (c.toNat = 47)) then numB (l.takeWhile fun c => !decide (c.toNat = 47)) && numB ((l.dropWhile fun c => !decide (c.toNat = 47)).drop 1)
 else wordB l || numB l
def strS : List UInt8 -> Option (List UInt8 × Nat)
  | [] => none
  | c :: r =>
   if c.toNat = 34 then some ([], 1)
   else if plainB c then
    if c.toNat = 92 then match r with
     | [] => none
     | d :: q => if escB d then (strS q).map fun x => (d :: x.1, x.2 + 2) else none
    else (strS r).map fun x => (c :: x.1, x.2 + 1)
   else none
theorem strS_cons (c : UInt8) (r : List UInt8) : strS (c :: r) =
    if c.toNat = 34 then some ([], 1)
    else if plainB c then
     if c.toNat = 92 then match r with
      | [] => none
      | d :: q => if escB d then (strS q).map fun x => (d :: x.1, x.2 + 2) else none
     else (strS r).map fun x => (c :: x.1, x.2 + 1)
    else none := by cases r <;> rw [strS.eq_def]
def oneS (l : List UInt8) : Option (Nat × List UInt8 × Nat) :=
 if wordB (l.takeWhile tailB) then some (1, l.takeWhile tailB, (l.takeWhile tailB).length)
 else if numB (l.takeWhile tailB) then some (2, l.takeWhile tailB, (l.takeWhile tailB).length)
 else match l with
  | [] => none
  | c :: r => if markB c then some (4, [c], 1) else if c.toNat = 34 then (strS r).map fun x => (3, x.1, x.2 + 1) else none
structure Tok where
 kind : Nat
 text : List UInt8
 line : Nat
deriving DecidableEq
inductive Res where
 | ok (ts : List Tok) (ln : Nat)
 | err (ln : Nat)
def Res.cons (t : Tok) : Res -> Res
  | .ok ts ln => .ok (t :: ts) ln
  | .err ln => .err ln
def Res.app (ts : List Tok) : Res -> Res
  | .ok us ln => .ok (ts ++ us) ln
  | .err ln => .err ln
theorem Res.app_nil (r : Res) : Res.app [] r = r := by cases r <;> rfl
def lineOf (c : UInt8) (ln : Nat) : Nat := if c.toNat = 10 then ln + 1 else ln
def notNl (c : UInt8) : Bool := !decide (c.toNat = 10)
theorem drop_while_len (p : UInt8 -> Bool) (l : List UInt8) : (l.dropWhile p).length <= l.length := (List.dropWhile_suffix p).length_le
def lexS : List UInt8 -> Nat -> Res
  | [], ln => .ok [] ln
  | c :: r, ln =>
   if c.toNat = 35 then lexS (r.dropWhile notNl) ln
   else if blankB c then lexS r (lineOf c ln)
   else match oneS (c :: r) with
    | none => .err ln
    | some x => (lexS (r.drop (x.2.2 - 1)) ln).cons ⟨x.1, x.2.1, ln⟩
termination_by l => l.length
decreasing_by
  . have := drop_while_len notNl r; simp; omega
  . simp
  . simp; omega
theorem wordB_pos {l : List UInt8} (h : wordB l = true) : 1 <= l.length := by
 cases l with
 | nil => cases h
 | cons c r => simp
theorem numB_pos {l : List UInt8} (h : numB l = true) : 1 <= l.length := by
 cases l with
 | nil => cases h
 | cons c r => simp
theorem oneS_pos (l : List UInt8) (x : Nat × List UInt8 × Nat) (h : oneS l = some x) : 1 <= x.2.2 := by
 unfold oneS at h
 split at h
 . rename_i hw; injection h with h; subst h; exact wordB_pos hw
 . split at h
   . rename_i hw; injection h with h; subst h; exact numB_pos hw
   . cases l with
     | nil => cases h
     | cons c r =>
      simp only at h
      split at h
      . injection h with h; subst h; exact Nat.le_refl _
      . split at h
        . obtain ⟨y, hy, rfl⟩ := Option.map_eq_some_iff.1 h
          show 1 <= y.2 + 1
          omega
        . cases h
theorem take_while_sep (p : UInt8 -> Bool) (c : UInt8) (q : List UInt8) (hc : p c = false) : ∀ u : List UInt8, (u ++ c :: q).takeWhile p = u.takeWhile p
  | [] => by simp [List.takeWhile, hc]
  | d :: u => by
   rw [List.cons_append, List.takeWhile_cons, List.takeWhile_cons, take_while_sep p c q hc u]
theorem strS_len (l : List UInt8) : ∀ x, strS l = some x -> x.2 <= l.length := by
 induction l using strS.induct with
 | case1 => intro x h; simp [strS] at h
 | case2 c r h => intro x h'; rw [strS_cons, if_pos h] at h'; injection h' with h'; subst h'; simp
 | case3 c h1 h2 h3 => intro x h; rw [strS_cons, if_neg h1, if_pos h2, if_pos h3] at h; cases h
 | case4 c h1 h2 h3 d q h4 ih =>
  intro x h
  rw [strS_cons, if_neg h1, if_pos h2, if_pos h3] at h
  simp only [if_pos h4] at h
  obtain ⟨y, hy, rfl⟩ := Option.map_eq_some_iff.1 h
  have := ih y hy
  simp
  omega
 | case5 c h1 h2 h3 d q h4 => intro x h; rw [strS_cons, if_neg h1, if_pos h2, if_pos h3] at h; simp only [if_neg h4] at h; cases h
 | case6 c r h1 h2 h3 ih =>
  intro x h
  rw [strS_cons, if_neg h1, if_pos h2, if_neg h3] at h
  obtain ⟨y, hy, rfl⟩ := Option.map_eq_some_iff.1 h
  have := ih y hy
  simp
  omega
 | case7 c r h1 h2 => intro x h; rw [strS_cons, if_neg h1, if_neg h2] at h; cases h
theorem oneS_len (c : UInt8) (r : List UInt8) (x : Nat × List UInt8 × Nat) (h : oneS (c :: r) = some x) : x.2.2 <= (c :: r).length := by
 have ht : ((c :: r).takeWhile tailB).length <= (c :: r).length := (List.takeWhile_prefix tailB).length_le
 unfold oneS at h
 split at h
 . injection h with h; subst h; exact ht
 . split at h
   . injection h with h; subst h; exact ht
   . simp only at h
     split at h
     . injection h with h; subst h; simp
     . split at h
       . obtain ⟨y, hy, rfl⟩ := Option.map_eq_some_iff.1 h
         have := strS_len r y hy
         simp
         omega
       . cases h
theorem lexS_cons (c : UInt8) (r : List UInt8) (ln : Nat) : lexS (c :: r) ln =
    if c.toNat = 35 then lexS (r.dropWhile notNl) ln
    else if blankB c then lexS r (lineOf c ln)
    else match oneS (c :: r) with
     | none => .err ln
     | some x => (lexS (r.drop (x.2.2 - 1)) ln).cons ⟨x.1, x.2.1, ln⟩ := by rw [lexS]
theorem lexS_nil (ln : Nat) : lexS [] ln = .ok [] ln := by rw [lexS]
def Tok.up (k : Nat) (t : Tok) : Tok := { t with line := t.line + k }
def Res.up (k : Nat) : Res -> Res
  | .ok ts ln => .ok (ts.map (Tok.up k)) (ln + k)
  | .err ln => .err (ln + k)
theorem Res.up_cons (k : Nat) (t : Tok) (r : Res) : (r.cons t).up k = (r.up k).cons (t.up k) := by cases r <;> rfl
theorem lexS_up (k : Nat) : ∀ (n : Nat) (u : List UInt8) (ln : Nat), u.length <= n -> lexS u (ln + k) = (lexS u ln).up k
  | n, [], ln, _ => by rw [lexS_nil, lexS_nil]; rfl
  | 0, d :: u, ln, h => absurd h (by simp)
  | n + 1, d :: u, ln, h => by
   have hu : u.length <= n := by simpa using h
   rw [lexS_cons d u (ln + k), lexS_cons d u ln]
   split
   . exact lexS_up k n _ ln (Nat.le_trans (drop_while_len _ _) hu)
   . split
     . have e : lineOf d (ln + k) = lineOf d ln + k := by unfold lineOf; split <;> omega
       rw [e]
       exact lexS_up k n u _ hu
     . cases hx : oneS (d :: u) with
       | none => rfl
       | some x =>
        simp only
        rw [lexS_up k n _ ln (by rw [List.length_drop]; omega), Res.up_cons]
        rfl
theorem escS (l q : List UInt8) (h : l.all plainB = true) : strS ((l.flatMap fun c => if escB c then [92, c] else [c]) ++ 34 :: q) = some (l, (l.flatMap fun c => if escB c then [92, c] else [c]).length + 1) := by
 induction l with
 | nil => rw [List.flatMap_nil, List.nil_append, strS_cons, if_pos (by decide)]; rfl
 | cons c l ih =>
  rw [List.all_cons, Bool.and_eq_true] at h
  have ih' := ih h.2
  rw [List.flatMap_cons]
  by_cases he : escB c = true
  . rw [if_pos he, List.append_assoc]
    show strS (92 :: c :: ((l.flatMap fun c => if escB c then [92, c] else [c]) ++ 34 :: q)) = _
    rw [strS_cons, if_neg (by decide), if_pos (by decide), if_pos (by decide)]
    simp only [if_pos he, ih', Option.map_some]
    simp
  . rw [if_neg he, List.append_assoc]
    show strS (c :: ((l.flatMap fun c => if escB c then [92, c] else [c]) ++ 34 :: q)) = _
    have h34 : ¬ c.toNat = 34 := fun e => he (by simp [escB, e])
    have h92 : ¬ c.toNat = 92 := fun e => he (by simp [escB, e])
    rw [strS_cons, if_neg h34, if_pos h.1, if_neg h92, ih']
    simp
def nlN (l : List UInt8) : Nat := l.countP fun c => decide (c.toNat = 10)
theorem lexS_blanks (q : List UInt8) : ∀ (g : List UInt8) (ln : Nat), g.all blankB = true -> lexS (g ++ q) ln = lexS q (ln + nlN g)
  | [], ln, _ => rfl
  | c :: g, ln, h => by
   rw [List.all_cons, Bool.and_eq_true] at h
   have h35 : ¬ c.toNat = 35 := fun e => by have := h.1; simp [blankB, e] at this
   rw [List.cons_append, lexS_cons, if_neg h35, if_pos h.1, lexS_blanks q g _ h.2]
   congr 1
   unfold lineOf nlN
   rw [List.countP_cons]
   by_cases hc : c.toNat = 10
   . simp [hc]; omega
   . simp [hc]
def bys (s : ByteArray) : List UInt8 := s.data.toList
def stg (l : List UInt8) : ByteArray := ⟨l.toArray⟩
theorem bys_stg (l : List UInt8) : bys (stg l) = l := rfl
theorem stg_bys (s : ByteArray) : stg (bys s) = s := by
 cases s with
 | mk d => rfl
theorem bys_len (s : ByteArray) : (bys s).length = s.size := by simp [bys]
theorem bys_inj {s t : ByteArray} (h : bys s = bys t) : s = t := by rw [<- stg_bys s, <- stg_bys t, h]
theorem bys_at (s : ByteArray) (i : Nat) (h : i < s.size) : (bys s)[i]? = some s[i] := by
 unfold bys
 rw [Array.getElem?_toList]
 exact Array.getElem?_eq_getElem h
theorem bys_drop (s : ByteArray) (i : Nat) (h : i < s.size) : (bys s).drop i = s[i] :: (bys s).drop (i + 1) := by
 have h' : i < (bys s).length := by rw [bys_len]; exact h
 rw [List.drop_eq_getElem_cons h']
 have := bys_at s i h
 rw [List.getElem?_eq_getElem h'] at this
 injection this with this
 rw [this]
theorem bys_extract (s : ByteArray) (i j : Nat) : bys (s.extract i j) = ((bys s).drop i).take (j - i) := by
 unfold bys
 rw [ByteArray.data_extract, Array.toList_extract]
theorem bys_append (s t : ByteArray) : bys (s ++ t) = bys s ++ bys t := by
 unfold bys
 rw [ByteArray.data_append, Array.toList_append]
end Go.Proofs.YtemdkkphmldgjaaGreatDoor.Lx
namespace Go.Proofs.YtemdkkphmldgjaaGreatDoor
open Go.RowKit
def pt (ao : Option Addr) (i : Nat) : Addr := (ao.getD ⟨0, 0, none⟩).add i
structure Lst (k : IntKind) (w : World) (ao : Option Addr) (n c : Nat) (xs : List Int) : Prop where
 len : xs.length = n
 cap : n <= c
 room : c <= 9223372036854775807
 isSome : 0 < n -> ∃ a, ao = some a
 cell : ∀ i, i < n -> w.cell? (pt ao i) = some (.int k (xs.getD i 0))
 wf : ∀ x ∈ xs, (Lit.int k x).wf = true
theorem Lst.nil (k : IntKind) (w : World) : Lst k w none 0 0 [] :=
 ⟨rfl, Nat.le_refl _, by omega, fun h => absurd h (by omega), fun i hi => absurd hi (by omega), fun x hx => by cases hx⟩
def Head (ao : Option Addr) (c : Nat) (ao' : Option Addr) (n' c' : Nat) : Prop := (ao' = none /\ n' = 0 /\ c' = 0) \/ (ao' = ao /\ c' = c)
def Own (e : TypeId) (k : IntKind) (B : Nat) (w : World) (ao : Option Addr) (n c : Nat) (xs : List Int) : Prop :=
 w.ownsRow B e 1 (.slice ao n c) n (xs.map (Value.int k)) /\ ∀ x ∈ xs, (Lit.int k x).wf = true
section
variable {e : TypeId} {k : IntKind} {B : Nat} {w w' : World} {ao : Option Addr} {n c : Nat} {xs : List Int}
theorem Own.len (h : Own e k B w ao n c xs) : xs.length = n := by simpa using h.1.1
theorem Own.cases (h : Own e k B w ao n c xs) : (ao = none /\ n = 0 /\ c = 0 /\ xs = []) \/ ∃ g, ao = some ⟨g, 0, none⟩ /\ B <= g /\ g < w.heap.size /\ n <= c /\ c <= maxLen := by
 have hl := h.len
 rcases h.1.2 with ⟨hv, hn⟩ | ⟨g, cap, cur, hv, hg, hh, hn, hc, _⟩
 . injection hv with h1 h2 h3
   exact Or.inl ⟨h1, hn, h3, List.eq_nil_of_length_eq_zero (by omega)⟩
 . injection hv with h1 h2 h3
   subst h3
   exact Or.inr ⟨g, h1, hg, (Array.getElem?_eq_some_iff.1 hh).1, hn, hc⟩
theorem Own.lst (h : Own e k B w ao n c xs) : Lst k w ao n c xs := by
 have hl := h.len
 rcases h.cases with ⟨rfl, rfl, rfl, rfl⟩ | ⟨g, rfl, hg, hgs, hn, hc⟩
 . exact Lst.nil _ _
 . refine ⟨hl, hn, by simpa [maxLen] using hc, fun _ => ⟨_, rfl⟩, fun i hi => ?_, h.2⟩
   have e : pt (some ⟨g, 0, none⟩) i = ⟨g, i, none⟩ := by
    simp only [pt, Option.getD_some]
    unfold Addr.add
    split <;> simp_all
   rw [e, h.1.cellAt i (by omega)]
   simp [List.getD, show i < xs.length by omega]
theorem Own.kept (h : Own e k B w ao n c xs) (hb : Below w.heap.size w w') : Own e k B w' ao n c xs :=
 ⟨h.1.kept (row := none) ⟨hb.os, hb.tape, hb.output, hb.size, fun j hj _ => hb.block j hj⟩ (by cases (Value.slice ao n c).ownBlock <;> simp), h.2⟩
end
theorem pt_own (g i : Nat) : pt (some ⟨g, 0, none⟩) i = ⟨g, i, none⟩ := by
 simp only [pt, Option.getD_some]
 unfold Addr.add
 split <;> simp_all
section
variable {e : TypeId} {k : IntKind} {B : Nat} {w w' : World} {ao : Option Addr} {n c : Nat} {xs : List Int}
def blk (ao : Option Addr) : Nat := (pt ao 0).block
end
theorem grown_trans {a b d : World} {row : Option Nat} (h : a.grownBy b row) (k : b.grownBy d row) : a.grownBy d row :=
 ⟨k.os.trans h.os, k.tape.trans h.tape, k.output.trans h.output, Nat.le_trans h.size k.size, fun i hi hne => (k.block i (Nat.lt_of_lt_of_le hi h.size) hne).trans (h.block i hi hne)⟩
end Go.Proofs.YtemdkkphmldgjaaGreatDoor
/-
  One stretch of a run after another.
-/
namespace Go.Proofs.YtemdkkphmldgjaaGreatDoor
open Go.RowKit
end Go.Proofs.YtemdkkphmldgjaaGreatDoor
/-
  An array variable: a block that is known whole.
-/
namespace Go.Proofs.YtemdkkphmldgjaaGreatDoor
open Go.RowKit
def Arr (w : World) (g : Nat) (t : TypeId) (cs : List Value) : Prop := w.heap[g]? = some (.cells cs.toArray t (0, 0))
section
variable {w w' : World} {g : Nat} {t : TypeId} {cs : List Value}
theorem Arr.lt (h : Arr w g t cs) : g < w.heap.size := (Array.getElem?_eq_some_iff.1 h).1
theorem Arr.cell (h : Arr w g t cs) (i : Nat) : w.cell? ⟨g, i, none⟩ = cs[i]? := by
 rw [cell_of_row w g i _ t (0, 0) h]
 simp
theorem Arr.frozen (h : Arr w g t cs) (i : Nat) : w.frozen? ⟨g, i, none⟩ = false := frozen_of_row w g i _ t h
theorem Arr.new (w : World) (t : TypeId) (cs : List Value) : Arr (w.alloc (.cells cs.toArray t)) w.heap.size t cs := heap_alloc_new w _
theorem Arr.drew (h : Arr w g t cs) : Arr w.drew g t cs := h
theorem Arr.below {B : Nat} (h : Arr w g t cs) (hb : Below B w w') (hg : g < B) : Arr w' g t cs := (hb.block g hg).trans h
theorem Arr.kept (h : Arr w g t cs) (hb : Below w.heap.size w w') : Arr w' g t cs := h.below hb h.lt
theorem Arr.set (h : Arr w g t cs) (i : Nat) (v : Value) : Arr (w.setCell ⟨g, i, none⟩ v) g t (cs.set i v) := by
 unfold Arr
 have := heap_setCell_same w g i _ t v h
 rw [this]
 simp
theorem Arr.far (h : Arr w g t cs) {p : Addr} (hp : g ≠ p.block) (v : Value) : Arr (w.setCell p v) g t cs := (heap_setCell_other w p g v hp).trans h
end
end Go.Proofs.YtemdkkphmldgjaaGreatDoor
namespace Go.Proofs.YtemdkkphmldgjaaGreatDoor
open Go.RowKit
theorem info5 : (Tryz.prog.info? 5).map (fun i => (i.zero, i.size, i.bytes)) = some (some (.int .u8 0), 1, 1) := by kernel_rfl
end Go.Proofs.YtemdkkphmldgjaaGreatDoor
/-
  Appends of bytes; strings out of bytes.
-/
namespace Go.Proofs.YtemdkkphmldgjaaGreatDoor
open Go.RowKit
theorem wf_u8 {x : Int} (h0 : 0 <= x) (h1 : x <= 255) : (Lit.int .u8 x).wf = true := by
 simp [Lit.wf, IntKind.min, IntKind.max, IntKind.signed, IntKind.bits, h0, h1]
theorem own_shape {e : TypeId} {w : World} {B n : Nat} {v : Value} {us : List Value} (h : w.ownsRow B e 1 v n us) : ∃ ao c, v = .slice ao n c := by
 rcases h.2 with ⟨hv, h0⟩ | ⟨g, cap, _, hv, _⟩
 . exact ⟨none, 0, by rw [hv, h0]⟩
 . exact ⟨_, cap, hv⟩
theorem own_nil (e : TypeId) (k : IntKind) (B : Nat) (w : World) : Own e k B w none 0 0 [] := ⟨World.ownsRow_nil _ _ _ _, fun _ hx => by cases hx⟩
theorem ints_one (k : IntKind) (zs : List Int) : ∀ u ∈ zs.map (Value.int k), u.oneCell' = true := by
 intro u hu
 obtain ⟨_, _, rfl⟩ := List.mem_map.1 hu
 rfl
theorem Lst.cells {k : IntKind} {w : World} {a : Addr} {n c : Nat} {xs : List Int} (h : Lst k w (some a) n c xs) : ∀ j u, (xs.map (Value.int k))[j]? = some u -> w.cell? (a.add j) = some u := by
 intro j u hu
 have hj : j < n := by
  have := (List.getElem?_eq_some_iff.1 hu).1
  simpa [h.len] using this
 have := h.cell j hj
 simp only [pt, Option.getD_some] at this
 rw [this]
 have hl := h.len
 rw [<- hu]
 simp [List.getD, show j < xs.length by omega]
section
variable {w : World} {ops : Array Oper} {rest : List Oper} {a : Act} {Q : Exit -> Act -> World -> Prop} {d : Option Tmp} {p q : Operand} {ty : TypeId} {pos : String} {after : Array Edge}
theorem wpList_appL {B : Nat} {ao : Option Addr} {n c : Nat} {xs : List Int} {bo : Option Addr} {m e : Nat} {ys : List Int} (hO : Own 5 .u8 B w ao n c xs) (hL : Lst .u8 w bo m e ys) (h0 : bo = none -> e = 0) (hB : B <= w.heap.size) (hn : n <= 1099511627776) (hm : m <= 1099511627776)
    (hp : a.eval p = .slice ao n c) (hq : a.eval q = .slice bo m e)
    (h : ∀ ao' c' w', Own 5 .u8 B w' ao' (n + m) c' (xs ++ ys) -> Below B w w' -> wpList Tryz.prog ops Q rest (a.put d (.slice ao' (n + m) c')) w') :
    wpList Tryz.prog ops Q (⟨d, .call { callee := .builtin .append, args := #[p, q], argTypes := #[97, 97] }, ty, pos, after, none⟩ :: rest) a w := by
 obtain ⟨i0, hi, hz0, hz1, hz2⟩ := info_parts info5
 cases bo with
 | none =>
  have hm0 : m = 0 := by
   rcases Nat.eq_zero_or_pos m with h1 | h1
   . exact h1
   . obtain ⟨a, ha⟩ := hL.isSome h1; cases ha
  have hc0 := h0 rfl
  subst hm0; subst hc0
  have hx0 : ys = [] := List.eq_nil_of_length_eq_zero hL.len
  subst hx0
  refine wpList_append_own_none rfl p q 97 rfl B 5 i0 1 Tryz.underlying97 hi _ n _ hp hO.1 hq ?_
  exact h ao c w (by simpa using hO) (Below.refl _ _)
 | some ad =>
  refine wpList_append_own w rfl p q 97 rfl B 5 i0 (.int .u8 0) 1 1 Tryz.underlying97 hi hz0 hz1 hz2 rfl (by decide) _ n _ hp hO.1 ad m e (ys.map (Value.int .u8)) hq (by simp [hL.len]) hL.cells (ints_one _ _) (by unfold maxLen; omega) (by omega) hB ?_
  intro v' w' ho' hg _
  obtain ⟨av, cv, hv⟩ := own_shape ho'
  subst hv
  refine h av cv w' ⟨by rw [List.map_append]; exact ho', fun x hx => ?_⟩ ((Below.refl _ _).grown hg hB (fun k hk => (World.ownsRow.lt hO.1 k hk).1))
  rcases List.mem_append.1 hx with hx | hx
  . exact hO.2 x hx
  . exact hL.wf x hx
theorem one_lst (w : World) (x : Int) (h0 : 0 <= x) (h1 : x <= 255) : Lst .u8 (w.alloc (.cells #[.int .u8 x] 5)) (some ⟨w.heap.size, 0, none⟩) 1 1 [x] := by
 have o : Own 5 .u8 w.heap.size (w.alloc (.cells #[.int .u8 x] 5)) (some ⟨w.heap.size, 0, none⟩) 1 1 [x] := by
  refine ⟨World.ownsRow_lit w #[.int .u8 x] 1 (Nat.le_refl _) (by unfold maxLen; omega) rfl, ?_⟩
  intro y hy
  simp at hy
  subst hy
  exact wf_u8 h0 h1
 exact o.lst
theorem wpList_app1 {B : Nat} {ao : Option Addr} {n c : Nat} {xs : List Int} {x : Int} (hO : Own 5 .u8 B w ao n c xs) (hB : B <= w.heap.size) (hn : n <= 1099511627776) (h0 : 0 <= x) (h1 : x <= 255)
    (hp : a.eval p = .slice ao n c) (hq : a.eval q = .slice (some ⟨w.heap.size, 0, none⟩) 1 1)
    (h : ∀ ao' c' w', Own 5 .u8 B w' ao' (n + 1) c' (xs ++ [x]) -> Below B w w' -> wpList Tryz.prog ops Q rest (a.put d (.slice ao' (n + 1) c')) w') :
    wpList Tryz.prog ops Q (⟨d, .call { callee := .builtin .append, args := #[p, q], argTypes := #[97, 97] }, ty, pos, after, none⟩ :: rest) a (w.alloc (.cells #[.int .u8 x] 5)) := by
 have b1 : Below w.heap.size w (w.alloc (.cells #[.int .u8 x] 5)) := (Below.refl _ _).alloc (Nat.le_refl _) _
 refine wpList_appL (hO.kept b1) (one_lst w x h0 h1) (fun e => by cases e) (by simp; omega) hn (by omega) hp hq (fun ao' c' w' o b => h ao' c' w' o ((b1.mono hB).trans b))
end
def strOf (xs : List Int) : ByteArray := ⟨(xs.map fun x => UInt8.ofNat x.toNat).toArray⟩
theorem own_string {B : Nat} {w : World} {ao : Option Addr} {n c : Nat} {xs : List Int} (h : Own 5 .u8 B w ao n c xs) : (convert 97 9 (.slice ao n c)).run Tryz.prog w = .ok (.string (strOf xs)) w := by
 have hl := h.len
 have hcells : xs.map (Value.int .u8) = Lib.byteCells (xs.map fun x => UInt8.ofNat x.toNat) := by
  unfold Lib.byteCells
  rw [List.map_map]
  refine List.map_congr_left fun x hx => ?_
  have hw := h.2 x hx
  have hb : 0 <= x /\ x <= 255 := by simpa [Lit.wf, IntKind.min, IntKind.max, IntKind.signed, IntKind.bits] using hw
  simp only [Function.comp]
  congr 1
  rw [UInt8.toNat_ofNat_of_lt' (by show x.toNat < 256; omega)]
  omega
 have h1 := h.1
 rw [hcells] at h1
 rcases h1.2 with ⟨hv, h0⟩ | ⟨g, cap, cur, hv, hg, hh, hn, hc, hs, ht⟩
 . rw [hv]
   obtain rfl : xs = [] := List.eq_nil_of_length_eq_zero (by omega)
   exact Lib.run_convert_nil_bytes w _ _ 5 0 Tryz.underlying97 Tryz.underlying5 Tryz.underlying9
 . rw [hv]
   have hlen : (xs.map fun x => UInt8.ofNat x.toNat).length = n := by simpa using hl
   subst hlen
   exact run_convert_bytes_back w _ _ 5 ⟨g, 0, none⟩ cap (xs.map fun x => UInt8.ofNat x.toNat) Tryz.underlying97 Tryz.underlying5 Tryz.underlying9 (Lib.bytes_of_row hh (by simpa using ht))
end Go.Proofs.YtemdkkphmldgjaaGreatDoor
namespace Go.Proofs.YtemdkkphmldgjaaGreatDoor
open Go.RowKit Lx
theorem toList_bys (s : ByteArray) : s.toList = bys s := Lib.toList_data s
theorem size_zero {s : ByteArray} (h : s.size = 0) : s = ⟨#[]⟩ := by
 apply bys_inj
 have : (bys s).length = 0 := by rw [bys_len]; exact h
 rw [List.eq_nil_of_length_eq_zero this]; rfl
theorem at_s (s : ByteArray) (i : Nat) (h : i < s.size) : ∃ c : UInt8, Hid ((bys s).drop i = c :: (bys s).drop (i + 1)) /\ ∀ W, (Instr.index 9 (.string s) (.int .i64 (i : Int))).run Tryz.prog W = .ok (.int .u8 ((c.toNat : Nat) : Int)) W := by
 refine ⟨s[i], bys_drop s i h, fun W => ?_⟩
 have e : s[i]? = some s[i] := getElem?_pos s i h
 simp [Instr.index, run_underlying Tryz.underlying9, asIntOf, e]
theorem at_0 (s : ByteArray) (h : 0 < s.size) : ∃ c : UInt8, Hid (bys s = c :: (bys s).drop 1) /\ (∀ W, (Instr.index 9 (.string s) (.int .i64 0)).run Tryz.prog W = .ok (.int .u8 ((c.toNat : Nat) : Int)) W) /\ ¬ s.toList = [] := by
 obtain ⟨c, hc, x⟩ := at_s s 0 h
 have e : bys s = c :: (bys s).drop 1 := by rw [<- hc.out, List.drop_zero]
 refine ⟨c, e, x, fun h' => ?_⟩
 rw [toList_bys, e] at h'
 cases h'
theorem beq_dec (n : Nat) (z : Int) (k : Nat) (h : z = (k : Int)) : ((n : Int) == z) = decide (n = k) := by
 subst h
 by_cases e : n = k
 . rw [decide_eq_true e, beq_iff_eq.2 (by omega)]
 . rw [decide_eq_false e, beq_eq_false_iff_ne.2 (by omega)]
theorem bool_ret {a b : Bool} (h : a = b) : Ending.returned (.bool a) = .returned (.bool b) := by rw [h]
theorem isLetter_c (c : UInt8) (w : World) :
    Calls Tryz.prog 188 #[.int .u8 ((c.toNat : Nat) : Int)] w fun e w' => e = .returned (.bool (letB c)) /\ w = w' := by
 obtain ⟨n, hn⟩ : ∃ n : Nat, Hid (c.toNat = n) := ⟨_, rfl⟩
 have hp : Hid (letB c = (decide (97 <= n) && decide (n <= 122))) := by show _ = _; unfold letB; rw [hn.out]
 rw [hn.out]
 by_cases h1 : 97 <= n
 . have k1 : (n : Int) >= 97 := by omega
   by_cases h2 : n <= 122
   . have k2 : (n : Int) <= 122 := by omega
     go_enter Tryz.func188, Tryz.ntmps188
     go_wp2_with fail
     go_ret
     exact ⟨bool_ret (by rw [hp.out]; simp; omega), rfl⟩
   . have k2 : ¬ (n : Int) <= 122 := by omega
     go_enter Tryz.func188, Tryz.ntmps188
     go_wp2_with fail
     go_ret
     exact ⟨bool_ret (by rw [hp.out]; simp; omega), rfl⟩
 . have k1 : ¬ (n : Int) >= 97 := by omega
   go_enter Tryz.func188, Tryz.ntmps188
   go_wp2_with fail
   go_ret
   exact ⟨bool_ret (by rw [hp.out]; simp; omega), rfl⟩
theorem isDigit_c (c : UInt8) (w : World) :
    Calls Tryz.prog 189 #[.int .u8 ((c.toNat : Nat) : Int)] w fun e w' => e = .returned (.bool (digB c)) /\ w = w' := by
 obtain ⟨n, hn⟩ : ∃ n : Nat, Hid (c.toNat = n) := ⟨_, rfl⟩
 have hp : Hid (digB c = (decide (48 <= n) && decide (n <= 57))) := by show _ = _; unfold digB; rw [hn.out]
 rw [hn.out]
 by_cases h1 : 48 <= n
 . have k1 : (n : Int) >= 48 := by omega
   by_cases h2 : n <= 57
   . have k2 : (n : Int) <= 57 := by omega
     go_enter Tryz.func189, Tryz.ntmps189
     go_wp2_with fail
     go_ret
     exact ⟨bool_ret (by rw [hp.out]; simp; omega), rfl⟩
   . have k2 : ¬ (n : Int) <= 57 := by omega
     go_enter Tryz.func189, Tryz.ntmps189
     go_wp2_with fail
     go_ret
     exact ⟨bool_ret (by rw [hp.out]; simp; omega), rfl⟩
 . have k1 : ¬ (n : Int) >= 48 := by omega
   go_enter Tryz.func189, Tryz.ntmps189
   go_wp2_with fail
   go_ret
   exact ⟨bool_ret (by rw [hp.out]; simp; omega), rfl⟩
theorem isPrintable_c (c : UInt8) (w : World) :
    Calls Tryz.prog 164 #[.int .u8 ((c.toNat : Nat) : Int)] w fun e w' => e = .returned (.bool (plainB c)) /\ w = w' := by
 obtain ⟨n, hn⟩ : ∃ n : Nat, Hid (c.toNat = n) := ⟨_, rfl⟩
 have hp : Hid (plainB c = (decide (32 <= n) && decide (n <= 126))) := by show _ = _; unfold plainB; rw [hn.out]
 rw [hn.out]
 by_cases h1 : 32 <= n
 . have k1 : (n : Int) >= 32 := by omega
   by_cases h2 : n <= 126
   . have k2 : (n : Int) <= 126 := by omega
     go_enter Tryz.func164, Tryz.ntmps164
     go_wp2_with fail
     go_ret
     exact ⟨bool_ret (by rw [hp.out]; simp; omega), rfl⟩
   . have k2 : ¬ (n : Int) <= 126 := by omega
     go_enter Tryz.func164, Tryz.ntmps164
     go_wp2_with fail
     go_ret
     exact ⟨bool_ret (by rw [hp.out]; simp; omega), rfl⟩
 . have k1 : ¬ (n : Int) >= 32 := by omega
   go_enter Tryz.func164, Tryz.ntmps164
   go_wp2_with fail
   go_ret
   exact ⟨bool_ret (by rw [hp.out]; simp; omega), rfl⟩
theorem isSpecial_c (c : UInt8) (w : World) :
    Calls Tryz.prog 165 #[.int .u8 ((c.toNat : Nat) : Int)] w fun e w' => e = .returned (.bool (escB c)) /\ w = w' := by
 obtain ⟨n, hn⟩ : ∃ n : Nat, Hid (c.toNat = n) := ⟨_, rfl⟩
 have hp : Hid (escB c = (decide (n = 34) || decide (n = 92))) := by show _ = _; unfold escB; rw [hn.out]
 rw [hn.out]
 by_cases h34 : n = 34
 . have k34 : ((n : Int) == 34) = true := by simp; omega
   go_enter Tryz.func165, Tryz.ntmps165
   go_wp2_with fail
   go_ret
   exact ⟨bool_ret (by rw [hp.out]; simp; omega), rfl⟩
 . have k34 : ((n : Int) == 34) = false := by rw [beq_eq_false_iff_ne]; omega
   by_cases h92 : n = 92
   . have k92 : ((n : Int) == 92) = true := by simp; omega
     go_enter Tryz.func165, Tryz.ntmps165
     go_wp2_with fail
     go_ret
     exact ⟨bool_ret (by rw [hp.out]; simp; omega), rfl⟩
   . have k92 : ((n : Int) == 92) = false := by rw [beq_eq_false_iff_ne]; omega
     go_enter Tryz.func165, Tryz.ntmps165
     go_wp2_with fail
     go_ret
     exact ⟨bool_ret (by rw [hp.out]; simp; omega), rfl⟩
theorem isBlank_c (c : UInt8) (w : World) :
    Calls Tryz.prog 130 #[.int .u8 ((c.toNat : Nat) : Int)] w fun e w' => e = .returned (.bool (blankB c)) /\ w = w' := by
 obtain ⟨n, hn⟩ : ∃ n : Nat, Hid (c.toNat = n) := ⟨_, rfl⟩
 have hp : Hid (blankB c = (decide (n = 32) || decide (n = 9) || decide (n = 10) || decide (n = 13))) := by show _ = _; unfold blankB; rw [hn.out]
 rw [hn.out]
 by_cases h32 : n = 32
 . have k32 : ((n : Int) == 32) = true := by simp; omega
   go_enter Tryz.func130, Tryz.ntmps130
   go_wp2_with fail
   go_ret
   exact ⟨bool_ret (by rw [hp.out]; simp; omega), rfl⟩
 . have k32 : ((n : Int) == 32) = false := by rw [beq_eq_false_iff_ne]; omega
   by_cases h9 : n = 9
   . have k9 : ((n : Int) == 9) = true := by simp; omega
     go_enter Tryz.func130, Tryz.ntmps130
     go_wp2_with fail
     go_ret
     exact ⟨bool_ret (by rw [hp.out]; simp; omega), rfl⟩
   . have k9 : ((n : Int) == 9) = false := by rw [beq_eq_false_iff_ne]; omega
     by_cases h10 : n = 10
     . have k10 : ((n : Int) == 10) = true := by simp; omega
       go_enter Tryz.func130, Tryz.ntmps130
       go_wp2_with fail
       go_ret
       exact ⟨bool_ret (by rw [hp.out]; simp; omega), rfl⟩
     . have k10 : ((n : Int) == 10) = false := by rw [beq_eq_false_iff_ne]; omega
       by_cases h13 : n = 13
       . have k13 : ((n : Int) == 13) = true := by simp; omega
         go_enter Tryz.func130, Tryz.ntmps130
         go_wp2_with fail
         go_ret
         exact ⟨bool_ret (by rw [hp.out]; simp; omega), rfl⟩
       . have k13 : ((n : Int) == 13) = false := by rw [beq_eq_false_iff_ne]; omega
         go_enter Tryz.func130, Tryz.ntmps130
         go_wp2_with fail
         go_ret
         exact ⟨bool_ret (by rw [hp.out]; simp; omega), rfl⟩
theorem isWordByte_c (c : UInt8) (w : World) :
    Calls Tryz.prog 187 #[.int .u8 ((c.toNat : Nat) : Int)] w fun e w' => e = .returned (.bool (tailB c)) /\ w = w' := by
 have HL := Lib.hid (isLetter_c c w)
 have HD := Lib.hid (isDigit_c c w)
 obtain ⟨n, hn⟩ : ∃ n : Nat, Hid (c.toNat = n) := ⟨_, rfl⟩
 obtain ⟨l, hl⟩ : ∃ l : Bool, Hid (letB c = l) := ⟨_, rfl⟩
 obtain ⟨d, hd⟩ : ∃ d : Bool, Hid (digB c = d) := ⟨_, rfl⟩
 have hp : Hid (tailB c = (l || d || decide (n = 45))) := by show _ = _; unfold tailB; rw [hn.out, hl.out, hd.out]
 rw [hn.out, hl.out] at HL
 rw [hn.out, hd.out] at HD
 rw [hn.out]
 cases l with
 | true =>
  go_enter Tryz.func187, Tryz.ntmps187
  go_wp2_with fail
  refine HL.out.mono ?_
  rintro e w' ⟨rfl, rfl⟩
  go_wp2_with fail
  go_ret
  exact ⟨bool_ret (by rw [hp.out]; rfl), rfl⟩
 | false =>
  cases d with
  | true =>
   go_enter Tryz.func187, Tryz.ntmps187
   go_wp2_with fail
   refine HL.out.mono ?_
   rintro e w' ⟨rfl, rfl⟩
   go_wp2_with fail
   refine HD.out.mono ?_
   rintro e w' ⟨rfl, rfl⟩
   go_wp2_with fail
   go_ret
   exact ⟨bool_ret (by rw [hp.out]; rfl), rfl⟩
  | false =>
   go_enter Tryz.func187, Tryz.ntmps187
   go_wp2_with fail
   refine HL.out.mono ?_
   rintro e w' ⟨rfl, rfl⟩
   go_wp2_with fail
   refine HD.out.mono ?_
   rintro e w' ⟨rfl, rfl⟩
   go_wp2_with fail
   go_ret
   exact ⟨bool_ret (by rw [hp.out]; exact beq_dec n 45 45 rfl), rfl⟩
end Go.Proofs.YtemdkkphmldgjaaGreatDoor
namespace Go.Proofs.YtemdkkphmldgjaaGreatDoor
open Go.RowKit Lx
namespace Lx
def wrdN (l : List UInt8) : Nat := (l.takeWhile tailB).length
theorem wrdN_nil : wrdN [] = 0 := rfl
theorem wrdN_yes {c : UInt8} (h : tailB c = true) (r : List UInt8) : wrdN (c :: r) = wrdN r + 1 := by
 unfold wrdN; rw [List.takeWhile_cons, if_pos h]; rfl
theorem wrdN_no {c : UInt8} (h : tailB c = false) (r : List UInt8) : wrdN (c :: r) = 0 := by
 unfold wrdN; rw [List.takeWhile_cons, h]; rfl
theorem wrdN_le (l : List UInt8) : wrdN l <= l.length := (List.takeWhile_prefix tailB).length_le
theorem run_take (l : List UInt8) : l.take (wrdN l) = l.takeWhile tailB := by
 induction l with
 | nil => rfl
 | cons c r ih =>
  cases h : tailB c with
  | true => rw [wrdN_yes h, List.take_succ_cons, ih, List.takeWhile_cons, if_pos h]
  | false => rw [wrdN_no h, List.takeWhile_cons, h]; rfl
theorem wrdN_all (l : List UInt8) : decide (wrdN l = l.length) = l.all tailB := by
 induction l with
 | nil => rfl
 | cons c r ih =>
  cases h : tailB c with
  | true => rw [wrdN_yes h, List.all_cons, h, <- ih, List.length_cons]; simp
  | false => rw [wrdN_no h, List.all_cons, h, List.length_cons]; simp
theorem bys_end (s : ByteArray) : (bys s).drop s.size = [] := List.drop_of_length_le (by rw [bys_len]; exact Nat.le_refl _)
end Lx
theorem i64_ret {a b : Int} (h : a = b) : Ending.returned (.int .i64 a) = .returned (.int .i64 b) := by rw [h]
theorem runLength_c (s : ByteArray) (w : World) (hs : s.size <= 1000000) :
    Calls Tryz.prog 134 #[.string s] w fun e w' => e = .returned (.int .i64 ((wrdN (bys s) : Nat) : Int)) /\ w = w' := by
 obtain ⟨R, hR⟩ : ∃ R, Hid (wrdN (bys s) = R) := ⟨_, rfl⟩
 rw [hR.out]
 go_enter Tryz.func134, Tryz.ntmps134
 go_wp2_with fail
 go_loop [6] (fun i => ∃ j : Nat, j <= s.size /\ i = .int .i64 j /\ Hid (R = j + wrdN ((bys s).drop j))) (fun i => s.size - (intOf i).toNat)
 case atStart => exact ⟨0, Nat.zero_le _, rfl, by show _ = _; rw [List.drop_zero, hR.out, Nat.zero_add]⟩
 case round =>
  obtain ⟨j, hj, rfl, hI⟩ := hrel
  by_cases hlt : j < s.size
  . have hlt' : (j : Int) < (s.size : Int) := by omega
    obtain ⟨c, hc, x1⟩ := at_s s j hlt
    have HB := Lib.hid (isWordByte_c c w)
    obtain ⟨b, hb⟩ : ∃ b, Hid (tailB c = b) := ⟨_, rfl⟩
    rw [hb.out] at HB
    have HI := hI.out
    rw [hc.out] at HI
    have HI := Lib.hid HI
    cases b with
    | true =>
     have hN : Hid (R = (j + 1) + wrdN ((bys s).drop (j + 1))) := by show _ = _; rw [HI.out, wrdN_yes hb.out]; omega
     clear hI HI
     go_wp2_with fail
     refine HB.out.mono ?_
     rintro e w' ⟨rfl, rfl⟩
     go_wp2_with fail
     go_round
     case rel => exact ⟨j + 1, by omega, by go_num, hN⟩
     case measure => simp [intOf]; omega
    | false =>
     have hN : Hid (R = j) := by show _ = _; rw [HI.out, wrdN_no hb.out, Nat.add_zero]
     clear hI HI
     go_wp2_with fail
     refine HB.out.mono ?_
     rintro e w' ⟨rfl, rfl⟩
     go_wp2_with fail
     go_ret
     exact ⟨i64_ret (by rw [hN.out]), rfl⟩
  . obtain rfl : j = s.size := by omega
    have hN : Hid (R = s.size) := by show _ = _; rw [hI.out, bys_end, wrdN_nil, Nat.add_zero]
    clear hI
    go_wp2_with fail
    go_ret
    exact ⟨i64_ret (by rw [hN.out]), rfl⟩
end Go.Proofs.YtemdkkphmldgjaaGreatDoor
namespace Go.Proofs.YtemdkkphmldgjaaGreatDoor
open Go.RowKit Lx
namespace Lx
theorem letB_tail {c : UInt8} (h : letB c = true) : tailB c = true := by unfold tailB; rw [h]; rfl
theorem wordB_eq (c : UInt8) (r : List UInt8) : wordB (c :: r) = (letB c && decide (wrdN (c :: r) = (c :: r).length)) := by
 show (letB c && r.all tailB) = _
 rw [wrdN_all, List.all_cons]
 cases h : letB c with
 | true => rw [letB_tail h]; simp
 | false => rfl
theorem bys_zero {s : ByteArray} (h : s.size = 0) : bys s = [] := List.eq_nil_of_length_eq_zero (by rw [bys_len]; exact h)
theorem numB_eq {s : ByteArray} {c : UInt8} (hz : bys s = c :: (bys s).drop 1) : numB (bys s) = ((bys s).all digB && (decide (s.size <= 6) && (decide (s.size = 1) || !decide (c.toNat = 48)))) := by
 have hl := bys_len s
 rw [hz] at hl
 simp only [List.length_cons] at hl
 conv => lhs; rw [hz]
 show ((c :: (bys s).drop 1).all digB && decide (((bys s).drop 1).length <= 5) && (((bys s).drop 1).isEmpty || !decide (c.toNat = 48))) = _
 rw [<- hz, Bool.and_assoc]
 have e1 : decide (((bys s).drop 1).length <= 5) = decide (s.size <= 6) := by
  by_cases h : s.size <= 6
  . rw [decide_eq_true h, decide_eq_true (by omega)]
  . rw [decide_eq_false h, decide_eq_false (by omega)]
 have e2 : ((bys s).drop 1).isEmpty = decide (s.size = 1) := by
  by_cases h : s.size = 1
  . rw [decide_eq_true h, List.isEmpty_iff]; exact List.eq_nil_of_length_eq_zero (by omega)
  . rw [decide_eq_false h, List.isEmpty_eq_false_iff]; intro h'; rw [h'] at hl; simp at hl; omega
 rw [e1, e2]
end Lx
theorem isWord_c (s : ByteArray) (w : World) (hs : s.size <= 1000000) :
    Calls Tryz.prog 135 #[.string s] w fun e w' => e = .returned (.bool (wordB (bys s))) /\ w = w' := by
 by_cases h0 : s.size = 0
 . obtain rfl := size_zero h0
   clear h0
   go_enter Tryz.func135, Tryz.ntmps135
   go_wp2_with fail
   go_ret
   exact ⟨rfl, rfl⟩
 . have hpos : 0 < s.size := by omega
   obtain ⟨c, hc, x1, hne⟩ := at_0 s hpos
   have HL := Lib.hid (isLetter_c c w)
   have HR := Lib.hid (runLength_c s w hs)
   obtain ⟨b, hb⟩ : ∃ b, Hid (letB c = b) := ⟨_, rfl⟩
   obtain ⟨k, hk⟩ : ∃ k, Hid (wrdN (bys s) = k) := ⟨_, rfl⟩
   have hw : Hid (wordB (bys s) = (b && decide (k = s.size))) := by
    show _ = _
    rw [<- hb.out, <- hk.out, <- bys_len s, hc.out]
    exact wordB_eq _ _
   rw [hb.out] at HL
   rw [hk.out] at HR
   cases b with
   | true =>
    go_enter Tryz.func135, Tryz.ntmps135
    go_wp2_with fail
    refine HL.out.mono ?_
    rintro e w' ⟨rfl, rfl⟩
    go_wp2_with fail
    refine HR.out.mono ?_
    rintro e w' ⟨rfl, rfl⟩
    go_wp2_with fail
    go_ret
    exact ⟨bool_ret (by rw [hw.out, <- beq_dec k _ s.size rfl]; simp [hne]), rfl⟩
   | false =>
    go_enter Tryz.func135, Tryz.ntmps135
    go_wp2_with fail
    refine HL.out.mono ?_
    rintro e w' ⟨rfl, rfl⟩
    go_wp2_with fail
    go_ret
    exact ⟨bool_ret (by rw [hw.out]; rfl), rfl⟩
theorem isNumber_c (s : ByteArray) (w : World) (hs : s.size <= 1000000) :
    Calls Tryz.prog 136 #[.string s] w fun e w' => e = .returned (.bool (numB (bys s))) /\ w = w' := by
 by_cases h0 : s.size = 0
 . obtain rfl := size_zero h0
   clear h0
   go_enter Tryz.func136, Tryz.ntmps136
   go_wp2_with fail
   go_ret
   exact ⟨rfl, rfl⟩
 have hpos : 0 < s.size := by omega
 obtain ⟨c, hc, x1, hne⟩ := at_0 s hpos
 obtain ⟨A, hA⟩ : ∃ A, Hid ((bys s).all digB = A) := ⟨_, rfl⟩
 obtain ⟨n, hn⟩ : ∃ n : Nat, Hid (c.toNat = n) := ⟨_, rfl⟩
 obtain ⟨F, hF0⟩ : ∃ F, Hid (numB (bys s) = F) := ⟨_, rfl⟩
 have hF : Hid (F = (A && (decide (s.size <= 6) && (decide (s.size = 1) || !decide (n = 48))))) := by
  show _ = _
  rw [<- hF0.out, numB_eq hc.out, hA.out, hn.out]
 rw [hn.out] at x1
 rw [hF0.out]
 clear h0
 have hie : s.toList.isEmpty = false := by rw [List.isEmpty_eq_false_iff]; exact hne
 rcases Nat.lt_or_ge 6 s.size with h6n | h6
 . have h6 : ¬ s.size <= 6 := by omega
   have h6' : (s.size : Int) > 6 := by omega
   go_enter Tryz.func136, Tryz.ntmps136
   go_wp2_with fail
   go_ret
   exact ⟨bool_ret (by rw [hF.out, decide_eq_false h6]; simp), rfl⟩
 have h6' : ¬ (s.size : Int) > 6 := by omega
 go_enter Tryz.func136, Tryz.ntmps136
 go_wp2_with fail
 go_loop [13] (fun i => ∃ j : Nat, j <= s.size /\ i = .int .i64 j /\ Hid (A = ((bys s).drop j).all digB)) (fun i => s.size - (intOf i).toNat)
 case atStart => exact ⟨0, Nat.zero_le _, rfl, by show _ = _; rw [List.drop_zero, hA.out]⟩
 case round =>
  obtain ⟨j, hj, rfl, hI⟩ := hrel
  by_cases hlt : j < s.size
  . have hlt' : (j : Int) < (s.size : Int) := by omega
    obtain ⟨d, hd, x2⟩ := at_s s j hlt
    have HB := Lib.hid (isDigit_c d w)
    obtain ⟨b, hb⟩ : ∃ b, Hid (digB d = b) := ⟨_, rfl⟩
    rw [hb.out] at HB
    have HI : Hid (A = (b && ((bys s).drop (j + 1)).all digB)) := by
     show _ = _
     rw [hI.out, hd.out, List.all_cons, hb.out]
    clear hI
    cases b with
    | true =>
     have hN : Hid (A = ((bys s).drop (j + 1)).all digB) := by show _ = _; rw [HI.out, Bool.true_and]
     clear HI
     go_wp2_with fail
     refine HB.out.mono ?_
     rintro e w' ⟨rfl, rfl⟩
     go_wp2_with fail
     go_round
     case rel => exact ⟨j + 1, by omega, by go_num, hN⟩
     case measure => simp [intOf]; omega
    | false =>
     have hN : Hid (A = false) := by show _ = _; rw [HI.out, Bool.false_and]
     clear HI
     go_wp2_with fail
     refine HB.out.mono ?_
     rintro e w' ⟨rfl, rfl⟩
     go_wp2_with fail
     go_ret
     exact ⟨bool_ret (by rw [hF.out, hN.out]; rfl), rfl⟩
  . obtain rfl : j = s.size := by omega
    have hN : Hid (A = true) := by show _ = _; rw [hI.out, bys_end]; rfl
    clear hI
    by_cases h48 : n = 48
    . have e48 : ((n : Int) != 48) = false := by simp; omega
      have hE : Hid (F = decide (s.size = 1)) := by show _ = _; rw [hF.out, hN.out, decide_eq_true h6, decide_eq_true h48]; simp
      clear h48
      go_wp2_with fail
      go_ret
      exact ⟨bool_ret (by rw [hE.out]; exact beq_dec s.size _ 1 rfl), rfl⟩
    . have e48 : ((n : Int) != 48) = true := by simp; omega
      have hE : Hid (F = true) := by show _ = _; rw [hF.out, hN.out, decide_eq_true h6, decide_eq_false h48]; simp
      clear h48
      go_wp2_with fail
      go_ret
      exact ⟨bool_ret (by rw [hE.out]), rfl⟩
end Go.Proofs.YtemdkkphmldgjaaGreatDoor
