/-
  A slice of slices of bytes that came in, as the walks ask for it.
-/
import Derived.Test.YtfmpccfoemgiiaaDoorDigView
import Derived.Test.YtfmpccfoemgiiaaDoorDigJoin
namespace Go.Proofs.YtfmpccfoemgiiaaDoor
open Go.RowKit Go.ChangeShapes Go.WideShapes Dig

theorem cells22v : Tryd.prog.cellsOf 22 = 1 := by kernel_rfl
theorem choose_list {n : Nat} {R : Nat → List Int → Prop} (h : ∀ i, i < n → ∃ x, R i x) : ∃ ps : List (List Int), ps.length = n ∧ ∀ i, i < n → R i (ps.getD i []) := by
  induction n with
  | zero => exact ⟨[], rfl, fun i hi => absurd hi (by omega)⟩
  | succ n ih =>
    obtain ⟨ps, hl, hp⟩ := ih (fun i hi => h i (by omega))
    obtain ⟨x, hx⟩ := h n (by omega)
    refine ⟨ps ++ [x], by simp [hl], fun i hi => ?_⟩
    by_cases hin : i < n
    · have e : (ps ++ [x]).getD i [] = ps.getD i [] := by
        rw [List.getD_eq_getElem?_getD, List.getD_eq_getElem?_getD, List.getElem?_append_left (by omega)]
      rw [e]; exact hp i hin
    · obtain rfl : i = n := by omega
      have e : (ps ++ [x]).getD i [] = x := by
        rw [List.getD_eq_getElem?_getD, List.getElem?_append_right (by omega), hl]
        simp
      rw [e]; exact hx
theorem cells_bytes {H : Type} {enc : TypeId × Value → H} {W : World} {fuel : Nat} {cs : List Value} {x : DataW H × List MemPlace}
    (hf : DataW.trod enc Tryd.prog W 0 (fun _ => true) true fuel 22 cs = some x) : ∃ a l c xs, cs = [.slice a l c] ∧ Lst .u8 W a l c xs ∧ (a = none → c = 0) := by
  rcases open_ints Tryd.underlying22 Tryd.underlying5 cells5v hf with ⟨hcs, _⟩ | ⟨ad, len, cap, zs, hcs, _, hl, hm, hz, _, hcell, hw⟩
  · exact ⟨none, 0, 0, [], hcs, Lst.nil _ _, fun _ => rfl⟩
  · simp at hz
    refine ⟨some ad, len, cap, zs.take len, hcs, ⟨by simp; omega, hl, by simpa [maxLen] using hm, fun _ => ⟨_, rfl⟩, fun i hi => ?_, fun x hx => hw x (List.mem_of_mem_take hx)⟩, fun e => by cases e⟩
    have := hcell i (by omega)
    simp only [pt, Option.getD_some]
    rw [this]
    simp [List.getD, hi]
theorem view_parts {H : Type} {enc : TypeId × Value → H} {W : World} {a : Option Addr} {l c : Nat} {d : DataW H} {ps : List MemPlace}
    (h : DataW.Trod enc Tryd.prog W 0 (fun _ => true) true 28 (.slice a l c) d ps) : ∃ qs, Parts W a l c qs := by
  obtain ⟨fuel, hf⟩ := h
  rcases DataW.trod_slice Tryd.underlying28 hf with ⟨hcs, _⟩ | ⟨ad, len, cap, elems, rest, n, _, hcs, _, _, hl, hm, hlen, hel, _, _⟩
  · simp [Value.cells] at hcs
    obtain ⟨rfl, rfl, rfl⟩ := hcs
    exact ⟨[], rfl, Nat.le_refl _, by omega, fun h => absurd h (by omega), fun i hi => absurd hi (by omega)⟩
  · simp [Value.cells] at hcs
    obtain ⟨rfl, rfl, rfl⟩ := hcs
    rw [cells22v] at hel
    obtain ⟨qs, hql, hq⟩ := choose_list (n := l) (R := fun i xs => ∃ a l d, W.cell? (ad.add i) = some (.slice a l d) ∧ Lst .u8 W a l d xs ∧ (a = none → d = 0)) (fun i hi => by
      have hx := hel i hi
      rw [List.getElem?_eq_getElem (by omega), Nat.mul_one, Option.bind_eq_some_iff] at hx
      obtain ⟨cs', hcs, hy⟩ := hx
      obtain ⟨a', l', c', xs, rfl, hL, h0⟩ := cells_bytes hy
      exact ⟨xs, a', l', c', cell_of_cells?_one hcs, hL, h0⟩)
    exact ⟨qs, hql, hl, by simpa [maxLen] using hm, fun _ => ⟨_, rfl⟩, fun i hi => hq i hi⟩
end Go.Proofs.YtfmpccfoemgiiaaDoor
