/-
  Appends of bytes to a slice of the call's own: one byte, a slice that reads.
-/
import Derived.Test.YtgomconcfjllcaaDoorDigOut
namespace Go.Proofs.YtgomconcfjllcaaDoor
open Go.RowKit Dig

theorem wf_u8 {x : Int} (h0 : 0 ≤ x) (h1 : x ≤ 255) : (Lit.int .u8 x).wf = true := by
  simp [Lit.wf, IntKind.min, IntKind.max, IntKind.signed, IntKind.bits, h0, h1]
theorem own_shape {e : TypeId} {w : World} {B n : Nat} {v : Value} {us : List Value} (h : w.ownsRow B e 1 v n us) : ∃ ao c, v = .slice ao n c := by
  rcases h.2 with ⟨hv, h0⟩ | ⟨g, cap, _, hv, _⟩
  · exact ⟨none, 0, by rw [hv, h0]⟩
  · exact ⟨_, cap, hv⟩
theorem own_nil (e : TypeId) (k : IntKind) (B : Nat) (w : World) : Own e k B w none 0 0 [] := ⟨World.ownsRow_nil _ _ _ _, fun _ hx => by cases hx⟩
theorem ints_one (k : IntKind) (zs : List Int) : ∀ u ∈ zs.map (Value.int k), u.oneCell' = true := by
  intro u hu
  obtain ⟨_, _, rfl⟩ := List.mem_map.1 hu
  rfl
theorem Lst.cells {k : IntKind} {w : World} {a : Addr} {n c : Nat} {xs : List Int} (h : Lst k w (some a) n c xs) : ∀ j u, (xs.map (Value.int k))[j]? = some u → w.cell? (a.add j) = some u := by
  intro j u hu
  have hj : j < n := by
    have := (List.getElem?_eq_some_iff.1 hu).1
    simpa [h.len] using this
  have := h.cell j hj
  simp only [pt, Option.getD_some] at this
  rw [this]
  have hl := h.len
  rw [← hu]
  simp [List.getD, show j < xs.length by omega]

section
variable {w : World} {ops : Array Oper} {rest : List Oper} {a : Act} {Q : Exit → Act → World → Prop} {d : Option Tmp} {p q : Operand} {ty : TypeId} {pos : String} {after : Array Edge}
/-- A slice that reads, nil included, is appended. -/
theorem wpList_appL {B : Nat} {ao : Option Addr} {n c : Nat} {xs : List Int} {bo : Option Addr} {m e : Nat} {ys : List Int} (hO : Own 5 .u8 B w ao n c xs) (hL : Lst .u8 w bo m e ys) (h0 : bo = none → e = 0) (hB : B ≤ w.heap.size) (hn : n ≤ 1099511627776) (hm : m ≤ 1099511627776)
    (hp : a.eval p = .slice ao n c) (hq : a.eval q = .slice bo m e)
    (h : ∀ ao' c' w', Own 5 .u8 B w' ao' (n + m) c' (xs ++ ys) → Below B w w' → wpList Tryd.prog ops Q rest (a.put d (.slice ao' (n + m) c')) w') :
    wpList Tryd.prog ops Q (⟨d, .call { callee := .builtin .append, args := #[p, q], argTypes := #[48, 48] }, ty, pos, after, none⟩ :: rest) a w := by
  obtain ⟨i0, hi, hz0, hz1, hz2⟩ := info_parts info5
  cases bo with
  | none =>
    have hm0 : m = 0 := by
      rcases Nat.eq_zero_or_pos m with h1 | h1
      · exact h1
      · obtain ⟨a, ha⟩ := hL.isSome h1; cases ha
    have hc0 := h0 rfl
    subst hm0; subst hc0
    have hx0 : ys = [] := List.eq_nil_of_length_eq_zero hL.len
    subst hx0
    refine wpList_append_own_none rfl p q 48 rfl B 5 i0 1 Tryd.underlying48 hi _ n _ hp hO.1 hq ?_
    exact h ao c w (by simpa using hO) (Below.refl _ _)
  | some ad =>
    refine wpList_append_own w rfl p q 48 rfl B 5 i0 (.int .u8 0) 1 1 Tryd.underlying48 hi hz0 hz1 hz2 rfl (by decide) _ n _ hp hO.1 ad m e (ys.map (Value.int .u8)) hq (by simp [hL.len]) hL.cells (ints_one _ _) (by unfold maxLen; omega) (by omega) hB ?_
    intro v' w' ho' hg _
    obtain ⟨av, cv, hv⟩ := own_shape ho'
    subst hv
    refine h av cv w' ⟨by rw [List.map_append]; exact ho', fun x hx => ?_⟩ ((Below.refl _ _).grown hg hB (fun k hk => (World.ownsRow.lt hO.1 k hk).1))
    rcases List.mem_append.1 hx with hx | hx
    · exact hO.2 x hx
    · exact hL.wf x hx
theorem one_lst (w : World) (x : Int) (h0 : 0 ≤ x) (h1 : x ≤ 255) : Lst .u8 (w.alloc (.cells #[.int .u8 x] 5)) (some ⟨w.heap.size, 0, none⟩) 1 1 [x] := by
  have o : Own 5 .u8 w.heap.size (w.alloc (.cells #[.int .u8 x] 5)) (some ⟨w.heap.size, 0, none⟩) 1 1 [x] := by
    refine ⟨World.ownsRow_lit w #[.int .u8 x] 1 (Nat.le_refl _) (by unfold maxLen; omega) rfl, ?_⟩
    intro y hy
    simp at hy
    subst hy
    exact wf_u8 h0 h1
  exact o.lst
/-- One byte, in a slice that has just been made, is appended. -/
theorem wpList_app1 {B : Nat} {ao : Option Addr} {n c : Nat} {xs : List Int} {x : Int} (hO : Own 5 .u8 B w ao n c xs) (hB : B ≤ w.heap.size) (hn : n ≤ 1099511627776) (h0 : 0 ≤ x) (h1 : x ≤ 255)
    (hp : a.eval p = .slice ao n c) (hq : a.eval q = .slice (some ⟨w.heap.size, 0, none⟩) 1 1)
    (h : ∀ ao' c' w', Own 5 .u8 B w' ao' (n + 1) c' (xs ++ [x]) → Below B w w' → wpList Tryd.prog ops Q rest (a.put d (.slice ao' (n + 1) c')) w') :
    wpList Tryd.prog ops Q (⟨d, .call { callee := .builtin .append, args := #[p, q], argTypes := #[48, 48] }, ty, pos, after, none⟩ :: rest) a (w.alloc (.cells #[.int .u8 x] 5)) := by
  have b1 : Below w.heap.size w (w.alloc (.cells #[.int .u8 x] 5)) := (Below.refl _ _).alloc (Nat.le_refl _) _
  refine wpList_appL (hO.kept b1) (one_lst w x h0 h1) (fun e => by cases e) (by simp; omega) hn (by omega) hp hq (fun ao' c' w' o b => h ao' c' w' o ((b1.mono hB).trans b))
end
end Go.Proofs.YtgomconcfjllcaaDoor
