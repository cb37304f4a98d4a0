/-
  The program's setRuns.
-/
import Derived.Test.YtcgfoagfoncjiaaImgPDec
namespace Go.Proofs.Ytcgfoagfoncjiaa
open Go.RowKit Im

namespace Im
/-- The bytes of the bits so far. -/
def bitsD (D : List Bool) : Nat → Bool := fun j => (D[j]?).getD false
theorem bitsD_snoc (D : List Bool) (b : Bool) : bitsD (D ++ [b]) = upd (bitsD D) D.length b := by
  funext j
  unfold bitsD upd
  by_cases h : j = D.length
  · subst h
    rw [if_pos rfl, List.getElem?_append_right (Nat.le_refl _), Nat.sub_self]
    rfl
  · rw [if_neg h]
    show ((D ++ [b])[j]?).getD false = (D[j]?).getD false
    by_cases hl : j < D.length
    · rw [List.getElem?_append_left hl]
    · rw [List.getElem?_eq_none (by rw [List.length_append, List.length_singleton]; omega), List.getElem?_eq_none (by omega)]
theorem bitsD_nil : bitsD [] = noB := by funext j; rfl
theorem rep_snoc (D : List Bool) (j : Nat) (b : Bool) : D ++ List.replicate (j + 1) b = (D ++ List.replicate j b) ++ [b] := by rw [List.replicate_succ', List.append_assoc]
/-- An image out of its bits. -/
theorem okD {v u : Nat} {D : List Bool} (h1 : 1 ≤ v) (h2 : v ≤ 512) (h3 : 1 ≤ u) (h4 : u ≤ 512) (hD : D.length = v * u) : OkI v u (packP (bitsD D) ((v * u + 7) / 8)) :=
  ⟨h1, h2, h3, h4, packP_len _ _, fun n hn hl => by
    rw [packP_len] at hl
    rw [bit_pack _ _ _ hl]
    unfold bitsD
    rw [List.getElem?_eq_none (by omega)]
    rfl⟩
theorem bitsFrom_D {v u : Nat} {D : List Bool} (hD : D.length = v * u) : bitsFrom (bitL (packP (bitsD D) ((v * u + 7) / 8))) 0 (v * u) = D := by
  apply List.ext_getElem?
  intro k
  by_cases h : k < v * u
  · rw [bitsFrom_get _ _ _ _ h, Nat.zero_add, bit_pack _ _ _ (by omega)]
    unfold bitsD
    rw [List.getElem?_eq_getElem (by omega)]
    rfl
  · rw [List.getElem?_eq_none (by rw [bitsFrom_len]; omega), List.getElem?_eq_none (by omega)]
end Im
/-- The length of a slice's value. -/
def slN : Value → Nat
  | .slice _ n _ => n
  | _ => 0
theorem flU_some {l : List Nat} {L : Nat} {r : List Nat} (h : flL l = some (L, r)) (hb : ∀ x ∈ l, x ≤ 255) : flU l = (L, l.length - r.length) ∧ r = l.drop (l.length - r.length) ∧ r.length < l.length := by
  have e := fl_some hb h
  have hl : l.length = (emit L).length + r.length := by rw [e, List.length_append]
  have he : 1 ≤ (emit L).length := by unfold emit; rw [List.length_append, List.length_singleton]; omega
  refine ⟨by unfold flU; rw [h], ?_, by omega⟩
  rw [show l.length - r.length = (emit L).length by omega]
  conv => rhs; rw [e]
  rw [List.drop_left]
theorem flU_none {l : List Nat} (h : flL l = none) : flU l = (0, 0) := by unfold flU; rw [h]
/-- What setRuns answers. -/
def RunsOut (B : Nat) (w : World) (gc m mc P : Nat) (c0 : List Nat) (e : Ending) (w' : World) : Prop :=
  ((∃ D : List Bool, e = .returned (.bool true) ∧ D.length = P ∧ encR D 0 false = c0 ∧ Own 5 .u8 B w' (some ⟨gc, 0, none⟩) m mc (packP (bitsD D) m)) ∨ (e = .returned (.bool false) ∧ ∀ D : List Bool, D.length = P → encR D 0 false ≠ c0)) ∧ w.grownBy w' (some gc)
end Go.Proofs.Ytcgfoagfoncjiaa
