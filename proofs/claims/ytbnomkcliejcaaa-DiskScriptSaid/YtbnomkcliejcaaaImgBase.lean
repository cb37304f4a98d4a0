/-
  A slice that reads as a list of integers of one kind; a block that is known whole: the words that all contracts of image share.
-/
import Derived.Test.YtbnomkcliejcaaaProg
import Derived.WalkKit
import Derived.WalkSpells
import Derived.WalkLawsBesides
import Derived.Lib.Hide
import Derived.Outline
import Derived.BigQuiet
import Derived.Deep.WholeRow
import Derived.Laws.Tables
import Derived.Laws.Rows
import Derived.Laws.AppendOwnNone
import Derived.Maps.AppendAt
import Derived.Laws.MakeOwn
import Derived.Lib.UnsafeStr
import Derived.Deep.Draws
import Derived.Deep.QuietTactic
import Derived.Lib.OwnKind
import Derived.Lib.BufferRead
import Derived.Lib.SmallJoins
import Derived.Lib.Bytealg
import Derived.Lib.IndexLaws
import Derived.Test.YtbnomkcliejcaaaImgMath
namespace Go.Proofs.Ytbnomkcliejcaaa
open Go.RowKit

/-- Where element i of a slice lies. -/
def pt (ao : Option Addr) (i : Nat) : Addr := (ao.getD ⟨0, 0, none⟩).add i

/-- A slice value (address, length, capacity) reads as the integers xs of kind k. -/
structure Lst (k : IntKind) (w : World) (ao : Option Addr) (n c : Nat) (xs : List Int) : Prop where
  len : xs.length = n
  cap : n ≤ c
  room : c ≤ 9223372036854775807
  isSome : 0 < n → ∃ a, ao = some a
  cell : ∀ i, i < n → w.cell? (pt ao i) = some (.int k (xs.getD i 0))
  wf : ∀ x ∈ xs, (Lit.int k x).wf = true

theorem Lst.block {k : IntKind} {w : World} {ao : Option Addr} {n c : Nat} {xs : List Int} (h : Lst k w ao n c xs) (i : Nat) (hi : i < n) : (pt ao i).block < w.heap.size :=
  World.block_lt_of_cell? w _ (h.cell i hi)

theorem Lst.below {k : IntKind} {w w' : World} {ao : Option Addr} {n c : Nat} {xs : List Int} (h : Lst k w ao n c xs) (hb : Below w.heap.size w w') : Lst k w' ao n c xs :=
  ⟨h.len, h.cap, h.room, h.isSome, fun i hi => (hb.cell (h.block i hi)).trans (h.cell i hi), h.wf⟩

theorem wf_u32 {x : Int} (h0 : 0 ≤ x) (h1 : x ≤ 4294967295) : (Lit.int .u32 x).wf = true := by
  simp [Lit.wf, IntKind.min, IntKind.max, IntKind.signed, IntKind.bits, h0, h1]

theorem Lst.take {k : IntKind} {w : World} {ao : Option Addr} {n c : Nat} {xs : List Int} (h : Lst k w ao n c xs) {m : Nat} (hm : m ≤ n) : Lst k w ao m c (xs.take m) := by
  have hl := h.len
  have hc := h.cap
  refine ⟨by simp; omega, by omega, h.room, fun h0 => h.isSome (by omega), fun i hi => ?_, fun x hx => h.wf x (List.mem_of_mem_take hx)⟩
  rw [h.cell i (by omega)]
  simp [List.getD, hi]

theorem Lst.nil (k : IntKind) (w : World) : Lst k w none 0 0 [] :=
  ⟨rfl, Nat.le_refl _, by omega, fun h => absurd h (by omega), fun i hi => absurd hi (by omega), fun x hx => by cases hx⟩

theorem Lst.drewN {k : IntKind} {w : World} {ao : Option Addr} {n c : Nat} {xs : List Int} (h : Lst k w ao n c xs) (q : Nat) : Lst k (w.drewN q) ao n c xs := ⟨h.len, h.cap, h.room, h.isSome, h.cell, h.wf⟩

/-- A cut from the head of a slice: nil, or at the same place with the same capacity. -/
def Head (ao : Option Addr) (c : Nat) (ao' : Option Addr) (n' c' : Nat) : Prop := (ao' = none ∧ n' = 0 ∧ c' = 0) ∨ (ao' = ao ∧ c' = c)

/-- A slice that the call itself made, from block B on: it begins at its block's head and may be written. -/
def Own (e : TypeId) (k : IntKind) (B : Nat) (w : World) (ao : Option Addr) (n c : Nat) (xs : List Int) : Prop :=
  w.ownsRow B e 1 (.slice ao n c) n (xs.map (Value.int k)) ∧ ∀ x ∈ xs, (Lit.int k x).wf = true

section
variable {e : TypeId} {k : IntKind} {B : Nat} {w w' : World} {ao : Option Addr} {n c : Nat} {xs : List Int}
theorem Own.len (h : Own e k B w ao n c xs) : xs.length = n := by simpa using h.1.1
theorem Own.cases (h : Own e k B w ao n c xs) : (ao = none ∧ n = 0 ∧ c = 0 ∧ xs = []) ∨ ∃ g, ao = some ⟨g, 0, none⟩ ∧ B ≤ g ∧ g < w.heap.size ∧ n ≤ c ∧ c ≤ maxLen := by
  have hl := h.len
  rcases h.1.2 with ⟨hv, hn⟩ | ⟨g, cap, cur, hv, hg, hh, hn, hc, _⟩
  · injection hv with h1 h2 h3
    exact Or.inl ⟨h1, hn, h3, List.eq_nil_of_length_eq_zero (by omega)⟩
  · injection hv with h1 h2 h3
    subst h3
    exact Or.inr ⟨g, h1, hg, (Array.getElem?_eq_some_iff.1 hh).1, hn, hc⟩
theorem Own.lst (h : Own e k B w ao n c xs) : Lst k w ao n c xs := by
  have hl := h.len
  rcases h.cases with ⟨rfl, rfl, rfl, rfl⟩ | ⟨g, rfl, hg, hgs, hn, hc⟩
  · exact Lst.nil _ _
  · refine ⟨hl, hn, by simpa [maxLen] using hc, fun _ => ⟨_, rfl⟩, fun i hi => ?_, h.2⟩
    have e : pt (some ⟨g, 0, none⟩) i = ⟨g, i, none⟩ := by
      simp only [pt, Option.getD_some]
      unfold Addr.add
      split <;> simp_all
    rw [e, h.1.cellAt i (by omega)]
    simp [List.getD, show i < xs.length by omega]
theorem Own.kept (h : Own e k B w ao n c xs) (hb : Below w.heap.size w w') : Own e k B w' ao n c xs :=
  ⟨h.1.kept (row := none) ⟨hb.os, hb.tape, hb.output, hb.size, fun j hj _ => hb.block j hj⟩ (by cases (Value.slice ao n c).ownBlock <;> simp), h.2⟩
theorem Own.drewN (h : Own e k B w ao n c xs) (q : Nat) : Own e k B (w.drewN q) ao n c xs := h
theorem Own.head {ao' : Option Addr} {n' c' : Nat} (h : Own e k B w ao n c xs) (hh : Head ao c ao' n' c') (hn : n' ≤ n) : Own e k B w ao' n' c' (xs.take n') := by
  refine ⟨?_, fun x hx => h.2 x (List.mem_of_mem_take hx)⟩
  rcases hh with ⟨rfl, rfl, rfl⟩ | ⟨rfl, rfl⟩
  · simpa using World.ownsRow_nil w B e 1
  · have hl := h.len
    refine ⟨by simp; omega, ?_⟩
    rcases h.1.2 with ⟨hv, h0⟩ | ⟨g, cap, cur, hv, hg, hhp, hn1, hc, hsz, ht⟩
    · injection hv with h1 h2 h3
      subst h1; subst h3
      exact Or.inl ⟨by rw [show n' = 0 by omega], by omega⟩
    · injection hv with h1 h2 h3
      subst h1; subst h3
      refine Or.inr ⟨g, c', cur, rfl, hg, hhp, by omega, hc, hsz, ?_⟩
      rw [List.map_take, ← ht, List.take_take]
      congr 1
      omega
end

theorem pt_own (g i : Nat) : pt (some ⟨g, 0, none⟩) i = ⟨g, i, none⟩ := by
  simp only [pt, Option.getD_some]
  unfold Addr.add
  split <;> simp_all

section
variable {e : TypeId} {k : IntKind} {B : Nat} {w w' : World} {ao : Option Addr} {n c : Nat} {xs : List Int}
/-- The block that an owned slice lies in. -/
def blk (ao : Option Addr) : Nat := (pt ao 0).block
theorem Own.spot (h : Own e k B w ao n c xs) {i : Nat} (hi : i < n) : ∃ g, ao = some ⟨g, 0, none⟩ ∧ pt ao i = ⟨g, i, none⟩ ∧ B ≤ g ∧ g < w.heap.size := by
  rcases h.cases with ⟨rfl, rfl, rfl, rfl⟩ | ⟨g, rfl, hg, hgs, hn, hc⟩
  · omega
  · exact ⟨g, rfl, pt_own g i, hg, hgs⟩
theorem Own.frozen (h : Own e k B w ao n c xs) {i : Nat} (hi : i < n) : w.frozen? (pt ao i) = false := by
  obtain ⟨g, rfl, hp, _⟩ := h.spot hi
  rw [hp]
  exact h.1.frozenAt i
theorem Own.base (h : Own e k B w ao n c xs) {i : Nat} (hi : i < n) : B ≤ (pt ao i).block := by
  obtain ⟨g, rfl, hp, hg, _⟩ := h.spot hi
  rw [hp]
  exact hg
theorem Own.set (h : Own e k B w ao n c xs) {i : Nat} (hi : i < n) {d : Int} (hd : (Lit.int k d).wf = true) : Own e k B (w.setCell (pt ao i) (.int k d)) ao n c (xs.set i d) := by
  obtain ⟨g, rfl, hp, hg, _⟩ := h.spot hi
  rw [hp]
  refine ⟨?_, fun x hx => ?_⟩
  · have := (h.1.stored i (.int k d)).1
    rw [List.map_set]
    exact this
  · rcases List.mem_or_eq_of_mem_set hx with hx | rfl
    · exact h.2 x hx
    · exact hd
theorem Own.setOnly (h : Own e k B w ao n c xs) {i : Nat} (hi : i < n) (u : Value) : w.grownBy (w.setCell (pt ao i) u) (Value.slice ao n c).ownBlock := by
  obtain ⟨g, rfl, hp, hg, _⟩ := h.spot hi
  rw [hp]
  exact (h.1.stored i u).2
/-- A list below block B is not touched by a store into an owned slice. -/
theorem Lst.stored {k' : IntKind} {bo : Option Addr} {m d : Nat} {ys : List Int} (h : Lst k' w bo m d ys) (hlow : ∀ i, i < m → (pt bo i).block < B) {p : Addr} (hp : B ≤ p.block) (u : Value) : Lst k' (w.setCell p u) bo m d ys :=
  ⟨h.len, h.cap, h.room, h.isSome, fun i hi => by
    rw [World.cell?_setCell_other w p (pt bo i) u (fun e => by have := hlow i hi; rw [← e] at this; omega)]
    exact h.cell i hi, h.wf⟩
end

theorem Lst.head {k : IntKind} {w : World} {ao ao' : Option Addr} {n c n' c' : Nat} {xs : List Int} (h : Lst k w ao n c xs) (hh : Head ao c ao' n' c') (hn : n' ≤ n) : Lst k w ao' n' c' (xs.take n') := by
  rcases hh with ⟨rfl, rfl, rfl⟩ | ⟨rfl, rfl⟩
  · simpa using Lst.nil k w
  · exact h.take hn

/-- The index instruction at a slice whose address is not known to be one: what the walk asks. -/
theorem run_index {P : Program} {t e : TypeId} (ht : P.underlying t = some (.slice e)) (he : (P.info? e).map (·.size) = some 1) {k : IntKind} {w : World} {ao : Option Addr} {n c : Nat} {xs : List Int} (h : Lst k w ao n c xs) (i : Nat) (hi : i < n) (W : World) :
    (Instr.indexAt t (.slice ao n c) (.int .i64 (i : Int))).run P W = .ok (.pointer (some (pt ao i))) W := by
  obtain ⟨a, rfl⟩ := h.isSome (by omega)
  obtain ⟨inf, hinf, hs⟩ := Option.map_eq_some_iff.1 he
  have h1 : (0 : Int) ≤ (i : Int) ∧ (i : Int) < (n : Int) := by omega
  simp [Instr.indexAt, run_underlying ht, asIntOf, sizeOf, typeInfo, hinf, hs, pt, hi]
theorem dd (w : World) (a b : Nat) : ∃ q, w.drewN q = (w.drewN a).drewN b := ⟨a + b, (World.drewN_drewN w a b).symm⟩
theorem ddd (w : World) (a b c : Nat) : ∃ q, w.drewN q = ((w.drewN a).drewN b).drewN c := ⟨a + b + c, by rw [World.drewN_drewN, World.drewN_drewN, Nat.add_assoc]⟩
/-- A contract that leaves the world alone, or only draws, inside a region that is walked quietly. -/
theorem quiet_same {P : Program} {f : FuncId} {args : Array Value} {W : World} {n : Nat} {v : Value}
    (h : Calls P f args (W.drewN n) fun e w' => e = .returned v ∧ W.drewN n = w') : Calls P f args (W.drewN n) fun e w'' => e = .returned v ∧ ∃ m, w'' = W.drewN m :=
  h.mono fun _ _ ⟨he, hm⟩ => ⟨he, n, hm.symm⟩
theorem quiet_draw {P : Program} {f : FuncId} {args : Array Value} {W : World} {n : Nat} {v : Value}
    (h : Calls P f args (W.drewN n) fun e w' => e = .returned v ∧ ∃ q, (W.drewN n).drewN q = w') : Calls P f args (W.drewN n) fun e w'' => e = .returned v ∧ ∃ m, w'' = W.drewN m :=
  h.mono fun _ _ ⟨he, q, hm⟩ => ⟨he, n + q, by rw [← hm, World.drewN_drewN]⟩
theorem quiet_same2 {P : Program} {f : FuncId} {args : Array Value} {w : World} {a n : Nat} {v : Value}
    (h : Calls P f args (w.drewN (a + n)) fun e w' => e = .returned v ∧ w.drewN (a + n) = w') :
    Calls P f args (w.drewN (a + n)) fun e w'' => e = .returned v ∧ ∃ m, w'' = w.drewN (a + m) :=
  h.mono fun _ _ ⟨he, hm⟩ => ⟨he, n, hm.symm⟩
theorem quiet_draw2 {P : Program} {f : FuncId} {args : Array Value} {w : World} {a n : Nat} {v : Value}
    (h : Calls P f args (w.drewN (a + n)) fun e w' => e = .returned v ∧ ∃ q, (w.drewN (a + n)).drewN q = w') :
    Calls P f args (w.drewN (a + n)) fun e w'' => e = .returned v ∧ ∃ m, w'' = w.drewN (a + m) :=
  h.mono fun _ _ ⟨he, q, hm⟩ => ⟨he, n + q, by rw [← hm, World.drewN_drewN, Nat.add_assoc]⟩
theorem grown_trans {a b d : World} {row : Option Nat} (h : a.grownBy b row) (k : b.grownBy d row) : a.grownBy d row :=
  ⟨k.os.trans h.os, k.tape.trans h.tape, k.output.trans h.output, Nat.le_trans h.size k.size, fun i hi hne => (k.block i (Nat.lt_of_lt_of_le hi h.size) hne).trans (h.block i hi hne)⟩
theorem grown_drew {a w : World} {row : Option Nat} (h : a.grownBy w row) : a.grownBy w.drew row := ⟨h.os, h.tape, h.output, h.size, h.block⟩
theorem grown_drewN {a w : World} {row : Option Nat} (h : a.grownBy w row) (n : Nat) : a.grownBy (w.drewN n) row := ⟨h.os, h.tape, h.output, h.size, h.block⟩
theorem grown_drewN_set {a w : World} {row : Option Nat} {p : Addr} {u : Value} (h : a.grownBy (w.setCell p u) row) (q : Nat) : a.grownBy ((w.drewN q).setCell p u) row := ⟨h.os, h.tape, h.output, h.size, h.block⟩
end Go.Proofs.Ytbnomkcliejcaaa

/-
  One stretch of a run after another.
-/
namespace Go.Proofs.Ytbnomkcliejcaaa
open Go.RowKit

theorem Below.on {B : Nat} {a b d : World} (h : Below B a b) (k : Below b.heap.size b d) (hB : B ≤ b.heap.size) : Below B a d := h.trans (k.mono hB)
end Go.Proofs.Ytbnomkcliejcaaa

/-
  An array variable: a block that is known whole.
-/
namespace Go.Proofs.Ytbnomkcliejcaaa
open Go.RowKit

/-- Block g is an array variable of type t that holds the cells cs. -/
def Arr (w : World) (g : Nat) (t : TypeId) (cs : List Value) : Prop := w.heap[g]? = some (.cells cs.toArray t (0, 0))

section
variable {w w' : World} {g : Nat} {t : TypeId} {cs : List Value}
theorem Arr.lt (h : Arr w g t cs) : g < w.heap.size := (Array.getElem?_eq_some_iff.1 h).1
theorem Arr.cell (h : Arr w g t cs) (i : Nat) : w.cell? ⟨g, i, none⟩ = cs[i]? := by
  rw [cell_of_row w g i _ t (0, 0) h]
  simp
theorem Arr.frozen (h : Arr w g t cs) (i : Nat) : w.frozen? ⟨g, i, none⟩ = false := frozen_of_row w g i _ t h
theorem Arr.new (w : World) (t : TypeId) (cs : List Value) : Arr (w.alloc (.cells cs.toArray t)) w.heap.size t cs := heap_alloc_new w _
theorem Arr.drewN (h : Arr w g t cs) (n : Nat) : Arr (w.drewN n) g t cs := h
theorem Arr.drew (h : Arr w g t cs) : Arr w.drew g t cs := h
theorem Arr.alloc (h : Arr w g t cs) (o : Obj) : Arr (w.alloc o) g t cs := (Below.heap_alloc w o g h.lt).trans h
theorem Arr.below {B : Nat} (h : Arr w g t cs) (hb : Below B w w') (hg : g < B) : Arr w' g t cs := (hb.block g hg).trans h
theorem Arr.kept (h : Arr w g t cs) (hb : Below w.heap.size w w') : Arr w' g t cs := h.below hb h.lt
theorem Arr.set (h : Arr w g t cs) (i : Nat) (v : Value) : Arr (w.setCell ⟨g, i, none⟩ v) g t (cs.set i v) := by
  unfold Arr
  have := heap_setCell_same w g i _ t v h
  rw [this]
  simp
theorem Arr.far (h : Arr w g t cs) {p : Addr} (hp : g ≠ p.block) (v : Value) : Arr (w.setCell p v) g t cs := (heap_setCell_other w p g v hp).trans h
end
end Go.Proofs.Ytbnomkcliejcaaa

namespace Go.Proofs.Ytbnomkcliejcaaa
open Go.RowKit
theorem size5 : (Try.prog.info? 5).map (·.size) = some 1 := by kernel_rfl
theorem info5 : (Try.prog.info? 5).map (fun i => (i.zero, i.size, i.bytes)) = some (some (.int .u8 0), 1, 1) := by kernel_rfl
/-- The index of a slice of bytes, the index as the walk spells it. -/
theorem ix8 {w : World} {ao : Option Addr} {n c : Nat} {xs : List Int} (h : Lst .u8 w ao n c xs) (i : Nat) (z : Int) (hz : z = i) (hi : i < n) :
    ∀ W, (Instr.indexAt 27 (.slice ao n c) (.int .i64 z)).run Try.prog W = .ok (.pointer (some (pt ao i))) W := by
  subst hz
  exact run_index Try.underlying27 size5 h i hi
theorem i64w (z : Int) (h0 : 0 ≤ z) (h1 : z ≤ 9223372036854775807) : IntKind.i64.wrap z = z := by
  rw [IntKind.wrap_i64]; omega
/-- Element i of a slice of bytes, under a name of its own. -/
theorem Lst.at8 {w : World} {ao : Option Addr} {n c : Nat} {xs : List Int} (h : Lst .u8 w ao n c xs) (i : Nat) (hi : i < n) :
    ∃ x : Nat, Hid ((xs.getD i 0).toNat = x) ∧ x ≤ 255 ∧ w.cell? (pt ao i) = some (.int .u8 (x : Int)) := by
  have hl := h.len
  have hx : xs.getD i 0 ∈ xs := by
    rw [List.getD_eq_getElem?_getD, List.getElem?_eq_getElem (by omega)]
    exact List.getElem_mem _
  have hw := h.wf _ hx
  have hb : 0 ≤ xs.getD i 0 ∧ xs.getD i 0 ≤ 255 := by simpa [Lit.wf, IntKind.min, IntKind.max, IntKind.signed, IntKind.bits] using hw
  refine ⟨(xs.getD i 0).toNat, rfl, by omega, ?_⟩
  rw [h.cell i hi]
  congr 2
  omega
end Go.Proofs.Ytbnomkcliejcaaa

/-
  Appends of bytes; strings out of bytes.
-/
namespace Go.Proofs.Ytbnomkcliejcaaa
open Go.RowKit

theorem wf_u8 {x : Int} (h0 : 0 ≤ x) (h1 : x ≤ 255) : (Lit.int .u8 x).wf = true := by
  simp [Lit.wf, IntKind.min, IntKind.max, IntKind.signed, IntKind.bits, h0, h1]
theorem own_shape {e : TypeId} {w : World} {B n : Nat} {v : Value} {us : List Value} (h : w.ownsRow B e 1 v n us) : ∃ ao c, v = .slice ao n c := by
  rcases h.2 with ⟨hv, h0⟩ | ⟨g, cap, _, hv, _⟩
  · exact ⟨none, 0, by rw [hv, h0]⟩
  · exact ⟨_, cap, hv⟩
theorem own_nil (e : TypeId) (k : IntKind) (B : Nat) (w : World) : Own e k B w none 0 0 [] := ⟨World.ownsRow_nil _ _ _ _, fun _ hx => by cases hx⟩
theorem ints_one (k : IntKind) (zs : List Int) : ∀ u ∈ zs.map (Value.int k), u.oneCell' = true := by
  intro u hu
  obtain ⟨_, _, rfl⟩ := List.mem_map.1 hu
  rfl
theorem Lst.cells {k : IntKind} {w : World} {a : Addr} {n c : Nat} {xs : List Int} (h : Lst k w (some a) n c xs) : ∀ j u, (xs.map (Value.int k))[j]? = some u → w.cell? (a.add j) = some u := by
  intro j u hu
  have hj : j < n := by
    have := (List.getElem?_eq_some_iff.1 hu).1
    simpa [h.len] using this
  have := h.cell j hj
  simp only [pt, Option.getD_some] at this
  rw [this]
  have hl := h.len
  rw [← hu]
  simp [List.getD, show j < xs.length by omega]

section
variable {w : World} {ops : Array Oper} {rest : List Oper} {a : Act} {Q : Exit → Act → World → Prop} {d : Option Tmp} {p q : Operand} {ty : TypeId} {pos : String} {after : Array Edge}
/-- A slice that reads, nil included, is appended. -/
theorem wpList_appL {B : Nat} {ao : Option Addr} {n c : Nat} {xs : List Int} {bo : Option Addr} {m e : Nat} {ys : List Int} (hO : Own 5 .u8 B w ao n c xs) (hL : Lst .u8 w bo m e ys) (h0 : bo = none → e = 0) (hB : B ≤ w.heap.size) (hn : n ≤ 1099511627776) (hm : m ≤ 1099511627776)
    (hp : a.eval p = .slice ao n c) (hq : a.eval q = .slice bo m e)
    (h : ∀ ao' c' w', Own 5 .u8 B w' ao' (n + m) c' (xs ++ ys) → Below B w w' → wpList Try.prog ops Q rest (a.put d (.slice ao' (n + m) c')) w') :
    wpList Try.prog ops Q (⟨d, .call { callee := .builtin .append, args := #[p, q], argTypes := #[27, 27] }, ty, pos, after, none⟩ :: rest) a w := by
  obtain ⟨i0, hi, hz0, hz1, hz2⟩ := info_parts info5
  cases bo with
  | none =>
    have hm0 : m = 0 := by
      rcases Nat.eq_zero_or_pos m with h1 | h1
      · exact h1
      · obtain ⟨a, ha⟩ := hL.isSome h1; cases ha
    have hc0 := h0 rfl
    subst hm0; subst hc0
    have hx0 : ys = [] := List.eq_nil_of_length_eq_zero hL.len
    subst hx0
    refine wpList_append_own_none rfl p q 27 rfl B 5 i0 1 Try.underlying27 hi _ n _ hp hO.1 hq ?_
    exact h ao c w (by simpa using hO) (Below.refl _ _)
  | some ad =>
    refine wpList_append_own w rfl p q 27 rfl B 5 i0 (.int .u8 0) 1 1 Try.underlying27 hi hz0 hz1 hz2 rfl (by decide) _ n _ hp hO.1 ad m e (ys.map (Value.int .u8)) hq (by simp [hL.len]) hL.cells (ints_one _ _) (by unfold maxLen; omega) (by omega) hB ?_
    intro v' w' ho' hg _
    obtain ⟨av, cv, hv⟩ := own_shape ho'
    subst hv
    refine h av cv w' ⟨by rw [List.map_append]; exact ho', fun x hx => ?_⟩ ((Below.refl _ _).grown hg hB (fun k hk => (World.ownsRow.lt hO.1 k hk).1))
    rcases List.mem_append.1 hx with hx | hx
    · exact hO.2 x hx
    · exact hL.wf x hx
theorem one_lst (w : World) (x : Int) (h0 : 0 ≤ x) (h1 : x ≤ 255) : Lst .u8 (w.alloc (.cells #[.int .u8 x] 5)) (some ⟨w.heap.size, 0, none⟩) 1 1 [x] := by
  have o : Own 5 .u8 w.heap.size (w.alloc (.cells #[.int .u8 x] 5)) (some ⟨w.heap.size, 0, none⟩) 1 1 [x] := by
    refine ⟨World.ownsRow_lit w #[.int .u8 x] 1 (Nat.le_refl _) (by unfold maxLen; omega) rfl, ?_⟩
    intro y hy
    simp at hy
    subst hy
    exact wf_u8 h0 h1
  exact o.lst
/-- One byte, in a slice that has just been made, is appended. -/
theorem wpList_app1 {B : Nat} {ao : Option Addr} {n c : Nat} {xs : List Int} {x : Int} (hO : Own 5 .u8 B w ao n c xs) (hB : B ≤ w.heap.size) (hn : n ≤ 1099511627776) (h0 : 0 ≤ x) (h1 : x ≤ 255)
    (hp : a.eval p = .slice ao n c) (hq : a.eval q = .slice (some ⟨w.heap.size, 0, none⟩) 1 1)
    (h : ∀ ao' c' w', Own 5 .u8 B w' ao' (n + 1) c' (xs ++ [x]) → Below B w w' → wpList Try.prog ops Q rest (a.put d (.slice ao' (n + 1) c')) w') :
    wpList Try.prog ops Q (⟨d, .call { callee := .builtin .append, args := #[p, q], argTypes := #[27, 27] }, ty, pos, after, none⟩ :: rest) a (w.alloc (.cells #[.int .u8 x] 5)) := by
  have b1 : Below w.heap.size w (w.alloc (.cells #[.int .u8 x] 5)) := (Below.refl _ _).alloc (Nat.le_refl _) _
  refine wpList_appL (hO.kept b1) (one_lst w x h0 h1) (fun e => by cases e) (by simp; omega) hn (by omega) hp hq (fun ao' c' w' o b => h ao' c' w' o ((b1.mono hB).trans b))
end
end Go.Proofs.Ytbnomkcliejcaaa
