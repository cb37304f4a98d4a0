/-
  electionref07.Eq of equal definitions, with lines or without.
-/
import Derived.Test.YtfknckbclddnmaaSynPrB
import Derived.Test.YtfknckbclddnmaaSynStrs
namespace Go.Proofs.Ytfknckbclddnmaa
open Go.RowKit Lx

namespace Lx
/-- Equal apart from lines; q: with lines. -/
def eqF (q : Bool) (f g : Fld) : Prop := f.key = g.key ∧ f.vals = g.vals ∧ (q = true → f.line = g.line)
def eqFs (q : Bool) : List Fld → List Fld → Prop
  | [], [] => True
  | f :: fs, g :: gs => eqF q f g ∧ eqFs q fs gs
  | _, _ => False
def eqB (q : Bool) (a b : Blc) : Prop := a.kind = b.kind ∧ a.name = b.name ∧ (q = true → a.line = b.line) ∧ eqFs q a.flds b.flds
def eqBs (q : Bool) : List Blc → List Blc → Prop
  | [], [] => True
  | a :: xs, b :: ys => eqB q a b ∧ eqBs q xs ys
  | _, _ => False
theorem eqFs_len {q : Bool} : ∀ {fs gs : List Fld}, eqFs q fs gs → fs.length = gs.length
  | [], [], _ => rfl
  | _ :: _, _ :: _, h => by rw [List.length_cons, List.length_cons, eqFs_len h.2]
theorem eqBs_len {q : Bool} : ∀ {fs gs : List Blc}, eqBs q fs gs → fs.length = gs.length
  | [], [], _ => rfl
  | _ :: _, _ :: _, h => by rw [List.length_cons, List.length_cons, eqBs_len h.2]
theorem eqFs_at {q : Bool} : ∀ {fs gs : List Fld}, eqFs q fs gs → ∀ (i : Nat) (f g : Fld), fs[i]? = some f → gs[i]? = some g → eqF q f g
  | f :: fs, g :: gs, h, 0, f', g', h1, h2 => by
    have e1 : f = f' := by simpa using h1
    have e2 : g = g' := by simpa using h2
    subst e1 e2
    exact h.1
  | _ :: _, _ :: _, h, i + 1, f', g', h1, h2 => eqFs_at h.2 i f' g' (by simpa using h1) (by simpa using h2)
theorem eqBs_at {q : Bool} : ∀ {fs gs : List Blc}, eqBs q fs gs → ∀ (i : Nat) (f g : Blc), fs[i]? = some f → gs[i]? = some g → eqB q f g
  | f :: fs, g :: gs, h, 0, f', g', h1, h2 => by
    have e1 : f = f' := by simpa using h1
    have e2 : g = g' := by simpa using h2
    subst e1 e2
    exact h.1
  | _ :: _, _ :: _, h, i + 1, f', g', h1, h2 => eqBs_at h.2 i f' g' (by simpa using h1) (by simpa using h2)
theorem eqFs_refl (q : Bool) : ∀ fs : List Fld, eqFs q fs fs
  | [] => trivial
  | _ :: fs => ⟨⟨rfl, rfl, fun _ => rfl⟩, eqFs_refl q fs⟩
theorem eqBs_refl (q : Bool) : ∀ bs : List Blc, eqBs q bs bs
  | [] => trivial
  | _ :: bs => ⟨⟨rfl, rfl, fun _ => rfl, eqFs_refl q _⟩, eqBs_refl q bs⟩
theorem eqFs_L : ∀ (fs : List Fld) (ln : Nat), eqFs false (fldsL fs ln) fs
  | [], _ => trivial
  | _ :: fs, ln => ⟨⟨rfl, rfl, fun e => by cases e⟩, eqFs_L fs (ln + 1)⟩
theorem eqBs_L : ∀ (bs : List Blc) (ln : Nat), eqBs false (blksL bs ln) bs
  | [], _ => trivial
  | b :: bs, ln => ⟨⟨rfl, rfl, fun e => (by cases e), eqFs_L b.flds (ln + 1)⟩, eqBs_L bs _⟩
end Lx

theorem hold1 (w : World) (p : Addr) (v : Value) (hv : w.cell? p = some v) : ∀ o : Obj, (w.alloc o).cell? p = some v := fun o => (World.cell?_of_block (Below.heap_alloc w o p.block (World.block_lt_of_cell? w _ hv))).trans hv
theorem hold2 (w : World) (p : Addr) (v : Value) (hv : w.cell? p = some v) : ∀ o o' : Obj, ((w.alloc o).alloc o').cell? p = some v := fun o o' => hold1 _ p v (hold1 w p v hv o) o'
/-- Two boxes, one made behind the other. -/
theorem two_box (w : World) (T : TypeId) (cs ds : List Value) : ∃ W, ((w.alloc (.cells cs.toArray T)).alloc (.cells ds.toArray T)).drew = W ∧ Arr W w.heap.size T cs ∧ Arr W (w.heap.size + 1) T ds ∧ Below w.heap.size w W ∧ W.heap.size = w.heap.size + 2 := by
  obtain ⟨V, e1, A1, B1, z1⟩ := new_box w T cs
  obtain ⟨U, e2, A2, B2, z2⟩ := new_box V T ds
  rw [e1, e2]
  rw [z1] at A2
  exact ⟨U.drew, rfl, (A1.kept B2).drew, A2.drew, (B1.trans (B2.mono B1.size)).drew, by show U.heap.size = _; omega⟩
end Go.Proofs.Ytfknckbclddnmaa
