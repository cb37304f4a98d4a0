/-
  A part of an owned slice of words, read and stored through a slice of its own.
-/
import Derived.Test.YtmojcnlddfijjaaDoorNatAdd
import Derived.Deep.AppendLies
import Derived.Maps.AppendAt
namespace Go.Proofs.YtmojcnlddfijjaaDoor
open Go.RowKit NatMath

theorem pt_at (g i j : Nat) : pt (some ⟨g, i, none⟩) j = ⟨g, i + j, none⟩ := by
  simp only [pt, Option.getD_some]
  unfold Addr.add
  split <;> simp_all

theorem getD_cut {P S T : List Int} {i j : Nat} (hP : P.length = i) (hj : j < S.length) : (P ++ S ++ T).getD (i + j) 0 = S.getD j 0 := by
  subst hP
  rw [List.append_assoc, List.getD_eq_getElem?_getD, List.getElem?_append_right (by omega), Nat.add_sub_cancel_left, List.getElem?_append_left hj, ← List.getD_eq_getElem?_getD]
theorem set_cut {P S T : List Int} {i j : Nat} (hP : P.length = i) (hj : j < S.length) (d : Int) : (P ++ S ++ T).set (i + j) d = P ++ S.set j d ++ T := by
  subst hP
  rw [List.append_assoc, List.set_append_right _ _ (by omega), Nat.add_sub_cancel_left, List.set_append_left _ _ hj, List.append_assoc]

section
variable {e : TypeId} {k : IntKind} {B : Nat} {w w' : World} {g n c : Nat} {P S T : List Int}
theorem Own.cut (h : Own e k B w (some ⟨g, 0, none⟩) n c (P ++ S ++ T)) {i l c' : Nat} (hP : P.length = i) (hS : S.length = l) (hc : l ≤ c') (hc2 : c' ≤ 9223372036854775807) : Lst k w (some ⟨g, i, none⟩) l c' S := by
  have hl := h.len
  simp only [List.length_append] at hl
  refine ⟨hS, hc, hc2, fun _ => ⟨_, rfl⟩, fun j hj => ?_, fun x hx => h.2 x (by simp [hx])⟩
  have := h.lst.cell (i + j) (by omega)
  rw [pt_own, getD_cut hP (by omega)] at this
  rw [pt_at]
  exact this
theorem Own.cutSet (h : Own e k B w (some ⟨g, 0, none⟩) n c (P ++ S ++ T)) {i j : Nat} (hP : P.length = i) (hj : j < S.length) {d : Int} (hd : (Lit.int k d).wf = true) :
    Own e k B (w.setCell (pt (some ⟨g, i, none⟩) j) (.int k d)) (some ⟨g, 0, none⟩) n c (P ++ S.set j d ++ T) := by
  have hl := h.len
  simp only [List.length_append] at hl
  have := h.set (i := i + j) (by omega) hd
  rw [pt_own, set_cut hP hj] at this
  rw [pt_at]
  exact this
theorem Own.cutFrozen (h : Own e k B w (some ⟨g, 0, none⟩) n c (P ++ S ++ T)) {i j : Nat} (hP : P.length = i) (hj : j < S.length) : w.frozen? (pt (some ⟨g, i, none⟩) j) = false := by
  have hl := h.len
  simp only [List.length_append] at hl
  have := h.frozen (i := i + j) (by omega)
  rw [pt_own] at this
  rw [pt_at]
  exact this
theorem Own.blkLt (h : Own e k B w (some ⟨g, 0, none⟩) n c P) : B ≤ g ∧ g < w.heap.size := by
  rcases h.cases with ⟨h0, _⟩ | ⟨q, hq, h1, h2, _⟩
  · cases h0
  · simp only [Option.some.injEq, Addr.mk.injEq, and_true] at hq
    subst hq
    exact ⟨h1, h2⟩
theorem Own.grownSome (h : Own e k B w (some ⟨g, 0, none⟩) n c P) (i j : Nat) (u : Value) : w.grownBy (w.setCell (pt (some ⟨g, i, none⟩) j) u) (some g) := by
  rw [pt_at]
  exact (h.1.stored (i + j) u).2
theorem Own.grown {ao : Option Addr} {row : Option Nat} (h : Own e k B w ao n c P) (hg : w.grownBy w' row) (hne : ∀ a, ao = some a → row ≠ some a.block) : Own e k B w' ao n c P := by
  refine ⟨h.1.kept hg ?_, h.2⟩
  rcases h.cases with ⟨rfl, rfl, rfl, rfl⟩ | ⟨q, rfl, _⟩
  · exact Or.inl rfl
  · exact Or.inr (fun e => hne _ rfl e.symm)
end

section
variable {k : IntKind} {w w' : World} {bo : Option Addr} {m d : Nat} {ys : List Int}
theorem Lst.apart (h : Lst k w bo m d ys) {p : Addr} (hne : ∀ i, i < m → (pt bo i).block ≠ p.block) (u : Value) : Lst k (w.setCell p u) bo m d ys :=
  ⟨h.len, h.cap, h.room, h.isSome, fun i hi => by
    rw [World.cell?_setCell_other w p (pt bo i) u (fun e => hne i hi (by rw [← e]))]
    exact h.cell i hi, h.wf⟩
theorem Lst.grown {row : Option Nat} (h : Lst k w bo m d ys) (hg : w.grownBy w' row) (hne : ∀ i, i < m → some (pt bo i).block ≠ row) : Lst k w' bo m d ys :=
  ⟨h.len, h.cap, h.room, h.isSome, fun i hi => hg.cell (h.cell i hi) (hne i hi), h.wf⟩
end
end Go.Proofs.YtmojcnlddfijjaaDoor
