/-
  Structs of three cells that lie in a block of the call's own.
-/
import Derived.Test.YtmojcnlddfijjaaDoorNatHelp2
import Derived.Laws.Rows
namespace Go.Proofs.YtmojcnlddfijjaaDoor
open Go.RowKit NatMath

/-- Block g holds just these cells of element type t. -/
def Blk (w : World) (g : Nat) (t : TypeId) (cs : Array Value) : Prop := w.heap[g]? = some (.cells cs t (0, 0))

section
variable {w w' : World} {g : Nat} {t : TypeId} {cs : Array Value}
theorem Blk.lt (h : Blk w g t cs) : g < w.heap.size := by
  rcases Nat.lt_or_ge g w.heap.size with hlt | hge
  · exact hlt
  · unfold Blk at h; rw [Array.getElem?_eq_none hge] at h; cases h
theorem Blk.cell (h : Blk w g t cs) (i : Nat) : w.cell? ⟨g, i, none⟩ = cs[i]? := cell_of_row w g i cs t (0, 0) h
theorem Blk.frozen (h : Blk w g t cs) (i : Nat) : w.frozen? ⟨g, i, none⟩ = false := by
  unfold Blk at h
  simp [World.frozen?, h]
theorem Blk.new (w : World) (t : TypeId) (cs : Array Value) : Blk (w.alloc (.cells cs t)) w.heap.size t cs := heap_alloc_new w _
theorem Blk.drewN (h : Blk w g t cs) (n : Nat) : Blk (w.drewN n) g t cs := h
theorem Blk.alloc (h : Blk w g t cs) (o : Obj) : Blk (w.alloc o) g t cs := (Below.heap_alloc w o g h.lt).trans h
theorem Blk.set (h : Blk w g t cs) (i : Nat) (u : Value) : Blk (w.setCell ⟨g, i, none⟩ u) g t (cs.setIfInBounds i u) := by
  unfold Blk at h ⊢
  simp [World.setCell, Array.getElem?_modify, h]
theorem Blk.far (h : Blk w g t cs) {p : Addr} (hp : g ≠ p.block) (u : Value) : Blk (w.setCell p u) g t cs := (Below.heap_setCell w p u g hp).trans h
theorem Blk.below {B : Nat} (h : Blk w g t cs) (hb : Below B w w') (hg : g < B) : Blk w' g t cs := (hb.block g hg).trans h
theorem Blk.on (h : Blk w g t cs) (hb : Below w.heap.size w w') : Blk w' g t cs := h.below hb h.lt
end

/-- The world behind a store of three cells. -/
def put3 (w : World) (g : Nat) (u0 u1 u2 : Value) : World := ((w.setCell ⟨g, 0, none⟩ u0).setCell ⟨g, 1, none⟩ u1).setCell ⟨g, 2, none⟩ u2

section
variable {w : World} {g : Nat} {t : TypeId} {v0 v1 v2 : Value}
theorem Blk.cells3 (h : Blk w g t #[v0, v1, v2]) : w.cell? ⟨g, 0, none⟩ = some v0 ∧ w.cell? ⟨g, 1, none⟩ = some v1 ∧ w.cell? ⟨g, 2, none⟩ = some v2 := ⟨h.cell 0, h.cell 1, h.cell 2⟩
/-- What a store of three cells asks, one after another. -/
theorem Blk.store3 (h : Blk w g t #[v0, v1, v2]) (u0 u1 : Value) :
    w.cell? ⟨g, 0, none⟩ = some v0 ∧ w.frozen? ⟨g, 0, none⟩ = false ∧ (w.setCell ⟨g, 0, none⟩ u0).cell? ⟨g, 1, none⟩ = some v1 ∧ (w.setCell ⟨g, 0, none⟩ u0).frozen? ⟨g, 1, none⟩ = false ∧
    ((w.setCell ⟨g, 0, none⟩ u0).setCell ⟨g, 1, none⟩ u1).cell? ⟨g, 2, none⟩ = some v2 ∧ ((w.setCell ⟨g, 0, none⟩ u0).setCell ⟨g, 1, none⟩ u1).frozen? ⟨g, 2, none⟩ = false := by
  have h1 := h.set 0 u0
  have h2 := h1.set 1 u1
  exact ⟨h.cell 0, h.frozen 0, h1.cell 1, h1.frozen 1, h2.cell 2, h2.frozen 2⟩
theorem Blk.put3 (h : Blk w g t #[v0, v1, v2]) (u0 u1 u2 : Value) : Blk (put3 w g u0 u1 u2) g t #[u0, u1, u2] := ((h.set 0 u0).set 1 u1).set 2 u2
theorem below_put3 {B : Nat} {a : World} (h : Below B a w) (hg : B ≤ g) (u0 u1 u2 : Value) : Below B a (Go.Proofs.YtmojcnlddfijjaaDoor.put3 w g u0 u1 u2) := ((h.setCell hg u0).setCell hg u1).setCell hg u2
theorem put3_other {g' : Nat} {t' : TypeId} {cs : Array Value} (h : Blk w g' t' cs) (hne : g' ≠ g) (u0 u1 u2 : Value) : Blk (Go.Proofs.YtmojcnlddfijjaaDoor.put3 w g u0 u1 u2) g' t' cs := ((h.far (p := ⟨g, 0, none⟩) hne u0).far (p := ⟨g, 1, none⟩) hne u1).far (p := ⟨g, 2, none⟩) hne u2
theorem put3_grown (w : World) (g : Nat) (u0 u1 u2 : Value) : w.grownBy (Go.Proofs.YtmojcnlddfijjaaDoor.put3 w g u0 u1 u2) (some g) := by
  have e : ∀ (w : World) (i : Nat) (u : Value), w.grownBy (w.setCell ⟨g, i, none⟩ u) (some g) := fun w i u =>
    ⟨rfl, rfl, rfl, by simp [World.setCell], fun k _ hk => Below.heap_setCell w _ u k (fun e => hk (by rw [e]))⟩
  exact grown_trans (grown_trans (e w 0 u0) (e _ 1 u1)) (e _ 2 u2)
end
theorem Own.put3 {e : TypeId} {k : IntKind} {B : Nat} {w : World} {ao : Option Addr} {n c : Nat} {xs : List Int} (h : Own e k B w ao n c xs) {g : Nat} (hne : ∀ a, ao = some a → g ≠ a.block) (u0 u1 u2 : Value) : Own e k B (put3 w g u0 u1 u2) ao n c xs :=
  h.grown (put3_grown w g u0 u1 u2) (fun a ha => by simpa using hne a ha)
theorem Own.hi {e : TypeId} {k : IntKind} {B : Nat} {w : World} {ao : Option Addr} {n c : Nat} {xs : List Int} (h : Own e k B w ao n c xs) {g : Nat} (hg : g < B) : ∀ a, ao = some a → g ≠ a.block := by
  intro a ha
  rcases h.cases with ⟨h0, _⟩ | ⟨q, hq, h1, _⟩
  · rw [h0] at ha; cases ha
  · rw [hq] at ha
    cases ha
    show g ≠ q
    omega
theorem Lst.put3 {k : IntKind} {w : World} {ao : Option Addr} {n c : Nat} {xs : List Int} (h : Lst k w ao n c xs) {g : Nat} (hne : ∀ i, i < n → (pt ao i).block ≠ g) (u0 u1 u2 : Value) : Lst k (put3 w g u0 u1 u2) ao n c xs :=
  h.grown (put3_grown w g u0 u1 u2) (fun i hi => by simpa using hne i hi)

/-- The world in which a body begins whose call has boxed two structs, or three. -/
theorem boxed2 (w : World) (t : TypeId) (A B : Array Value) : ∃ W, W = (w.alloc (.cells A t)).alloc (.cells B t) ∧ Blk W w.heap.size t A ∧ Blk W (w.heap.size + 1) t B ∧ Below w.heap.size w W := by
  refine ⟨_, rfl, (Blk.new w t A).alloc _, ?_, ((Below.refl w.heap.size w).alloc (Nat.le_refl _) _).alloc (by simp) _⟩
  have := Blk.new (w.alloc (.cells A t)) t B
  rwa [show (w.alloc (.cells A t)).heap.size = w.heap.size + 1 by simp] at this
theorem boxed3 (w : World) (t : TypeId) (A B C : Array Value) : ∃ W, W = ((w.alloc (.cells A t)).alloc (.cells B t)).alloc (.cells C t) ∧ Blk W w.heap.size t A ∧ Blk W (w.heap.size + 1) t B ∧ Blk W (w.heap.size + 1 + 1) t C ∧ Below w.heap.size w W := by
  refine ⟨_, rfl, ((Blk.new w t A).alloc _).alloc _, ?_, ?_, (((Below.refl w.heap.size w).alloc (Nat.le_refl _) _).alloc (by simp) _).alloc (by simp; omega) _⟩
  · have := (Blk.new (w.alloc (.cells A t)) t B).alloc (.cells C t)
    rwa [show (w.alloc (.cells A t)).heap.size = w.heap.size + 1 by simp] at this
  · have := Blk.new ((w.alloc (.cells A t)).alloc (.cells B t)) t C
    rwa [show ((w.alloc (.cells A t)).alloc (.cells B t)).heap.size = w.heap.size + 1 + 1 by simp] at this
end Go.Proofs.YtmojcnlddfijjaaDoor
