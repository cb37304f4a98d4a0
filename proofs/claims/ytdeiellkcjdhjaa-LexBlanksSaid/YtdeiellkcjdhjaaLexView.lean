/-
  Two texts and what stands between them, as they came in.
-/
import Derived.ProofKit
import Derived.OpenShut
import Derived.Lib.SmallJoins
import Derived.Test.YtdeiellkcjdhjaaLexBase
namespace Go.Proofs.Ytdeiellkcjdhjaa
open Go.RowKit Go.ChangeShapes Go.WideShapes

theorem cells5v : Try.prog.cellsOf 5 = 1 := by kernel_rfl
theorem view_cells8 {H : Type} {enc : TypeId × Value → H} {W : World} {v : Value} {fuel : Nat} {x : DataW H × List MemPlace}
    (hf : DataW.trod enc Try.prog W 0 (fun _ => true) true fuel 36 [v] = some x) : ∃ a l c xs, v = .slice a l c ∧ Lst .u8 W a l c xs := by
  rcases open_ints Try.underlying36 Try.underlying5 cells5v hf with ⟨hcs, _⟩ | ⟨ad, len, cap, zs, hcs, _, hl, hm, hz, _, hcell, hw⟩
  · simp at hcs
    exact ⟨none, 0, 0, [], hcs, Lst.nil _ _⟩
  · simp at hcs
    simp at hz
    refine ⟨some ad, len, cap, zs.take len, hcs, ⟨by simp; omega, hl, by simpa [maxLen] using hm, fun _ => ⟨_, rfl⟩, fun i hi => ?_, fun x hx => hw x (List.mem_of_mem_take hx)⟩⟩
    have := hcell i (by omega)
    simp only [pt, Option.getD_some]
    rw [this]
    simp [List.getD, hi]
set_option maxRecDepth 100000 in
theorem view_two {H : Type} {enc : TypeId × Value → H} {W : World} {r : Reach} {b0 : Nat} {v : Value} {d : DataW H} {ps : List MemPlace}
    (hv : Value.okWide Try.prog W r b0 38 v) (h : DataW.Trod enc Try.prog W 0 (fun _ => true) true 38 v d ps) :
    ∃ s t u a n c xs, v = .agg #[.string s, .string t, .string u, .slice a n c] ∧ Lst .u8 W a n c xs := by
  obtain ⟨v0, v1, v2, v3, y0, y1, y2, y3, n, rfl, _, _, h0, h1, h2, h3⟩ := Joins.open_agg4 Try.underlying38 (by kernel_rfl) (by kernel_rfl) hv h
  obtain ⟨s, hs, _, _⟩ := DataW.trod_string Try.underlying9 h0
  obtain ⟨t, ht, _, _⟩ := DataW.trod_string Try.underlying9 h1
  obtain ⟨u, hu, _, _⟩ := DataW.trod_string Try.underlying9 h2
  obtain ⟨a, l, c, xs, rfl, L⟩ := view_cells8 h3
  simp at hs ht hu
  subst hs ht hu
  exact ⟨s, t, u, a, l, c, xs, rfl, L⟩
end Go.Proofs.Ytdeiellkcjdhjaa
