/-
  A digest that came in, as the walks ask for it.
-/
import Derived.Test.YtfmpccfoemgiiaaDoorDigView
import Derived.Test.YtfmpccfoemgiiaaDoorDigBytes
namespace Go.Proofs.YtfmpccfoemgiiaaDoor
open Go.RowKit Go.ChangeShapes Go.WideShapes Dig

theorem cells25v : Tryd.prog.cellsOf 25 = 32 := by kernel_rfl
theorem all_bytes (l : List Value) (h : ∀ i, i < l.length → ∃ n : Int, (l.drop i).take 1 = [.int .u8 n] ∧ 0 ≤ n ∧ n ≤ 255) : ∃ D : List Int, l = D.map (Value.int .u8) ∧ ∀ x ∈ D, 0 ≤ x ∧ x ≤ 255 := by
  induction l with
  | nil => exact ⟨[], rfl, fun x hx => by cases hx⟩
  | cons v l ih =>
    obtain ⟨D, rfl, hD⟩ := ih (fun i hi => by simpa using h (i + 1) (by simpa using hi))
    obtain ⟨n, hn, hb⟩ := h 0 (by simp)
    simp at hn
    refine ⟨n :: D, by simp [hn], fun x hx => ?_⟩
    rcases List.mem_cons.1 hx with rfl | hx
    · exact hb
    · exact hD x hx
theorem view_dig {H : Type} {enc : TypeId × Value → H} {W : World} {r : Reach} {b0 : Nat} {v : Value} {d : DataW H} {ps : List MemPlace}
    (hv : Value.okWide Tryd.prog W r b0 25 v) (h : DataW.Trod enc Tryd.prog W 0 (fun _ => true) true 25 v d ps) :
    ∃ D, v = .agg (bcells D).toArray ∧ ps = [] ∧ IsD D := by
  obtain ⟨cs, rfl, hsz, _⟩ : ∃ cs, v = .agg cs ∧ cs.size = Tryd.prog.cellsOf 25 ∧ Row.okWide Tryd.prog W r b0 25 cs := by
    simpa [Value.okWide, Tryd.underlying25] using hv
  rw [cells25v] at hsz
  obtain ⟨l⟩ := cs
  obtain ⟨fuel, hf⟩ := h
  obtain ⟨xs, m, _, ex, _, hl, hel⟩ := DataW.trod_array Tryd.underlying25 hf
  rw [cells5v] at hel
  simp only [Value.cells, Prod.mk.injEq] at ex hel
  have hsz' : l.length = 32 := hsz
  obtain ⟨D, rfl, hD⟩ := all_bytes l (fun i hi => by
    have hx := hel i (by omega)
    rw [List.getElem?_eq_getElem (by omega), Nat.mul_one] at hx
    obtain ⟨n, hn, _, hw⟩ := DataW.trod_int Tryd.underlying5 hx
    exact ⟨n, hn, by simpa [Lit.wf, IntKind.min, IntKind.max, IntKind.signed, IntKind.bits] using hw⟩)
  have hDl : D.length = 32 := by simpa using hsz'
  refine ⟨D, by rw [bcells_all hDl], ?_, hDl, fun x hx => (hD x hx).1, fun x hx => (hD x hx).2⟩
  rw [ex.2]
  apply List.flatMap_eq_nil_iff.2
  intro y hy
  obtain ⟨i, hi, rfl⟩ := List.mem_iff_getElem.1 hy
  have hx := hel i (by omega)
  rw [List.getElem?_eq_getElem hi] at hx
  obtain ⟨n, _, hn, _⟩ := DataW.trod_int Tryd.underlying5 hx
  rw [hn]
end Go.Proofs.YtfmpccfoemgiiaaDoor
