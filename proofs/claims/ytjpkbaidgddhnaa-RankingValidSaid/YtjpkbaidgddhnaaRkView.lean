/-
  A contest, a vote, a list of ints as they came in.
-/
import Derived.ProofKit
import Derived.OpenShut
import Derived.Lib.SmallJoins
import Derived.SliceStrings
import Derived.Test.YtjpkbaidgddhnaaRkBase
namespace Go.Proofs.Ytjpkbaidgddhnaa
open Go.RowKit Go.ChangeShapes Go.WideShapes Rk

theorem cellsIv : Try.prog.cellsOf 3 = 1 := by kernel_rfl
theorem cellsRv : Try.prog.cellsOf 32 = 1 := by kernel_rfl
section
variable {H : Type} {enc : TypeId × Value → H} {W : World} {v : Value} {fuel : Nat} {x : DataW H × List MemPlace}
theorem view_cellsI (hf : DataW.trod enc Try.prog W 0 (fun _ => true) true fuel 32 [v] = some x) : ∃ a l c xs, v = .slice a l c ∧ Lst .i64 W a l c xs ∧ (a = none → c = 0) := by
  rcases open_ints Try.underlying32 Try.underlying3 cellsIv hf with ⟨hcs, _⟩ | ⟨ad, len, cap, zs, hcs, _, hl, hm, hz, _, hcell, hw⟩
  · simp at hcs
    exact ⟨none, 0, 0, [], hcs, Lst.nil _ _, fun _ => rfl⟩
  · simp at hcs
    simp at hz
    refine ⟨some ad, len, cap, zs.take len, hcs, ⟨by simp; omega, hl, by simpa [maxLen] using hm, fun _ => ⟨_, rfl⟩, fun i hi => ?_, fun x hx => hw x (List.mem_of_mem_take hx)⟩, fun e => by cases e⟩
    have := hcell i (by omega)
    simp only [pt, Option.getD_some]
    rw [this]
    simp [List.getD, hi]
theorem view_caps {t e : TypeId} (ht : Try.prog.underlying t = some (.slice e)) (hf : DataW.trod enc Try.prog W 0 (fun _ => true) true fuel t [v] = some x) : ∃ a l c, v = .slice a l c ∧ l ≤ c ∧ c ≤ 9223372036854775807 ∧ (a = none → c = 0) := by
  rcases DataW.trod_slice ht hf with ⟨hcs, _⟩ | ⟨ad, len, cap, elems, rest, n, _, hcs, _, _, hl, hm, _⟩
  · simp at hcs
    exact ⟨none, 0, 0, hcs, Nat.le_refl _, by omega, fun _ => rfl⟩
  · simp at hcs
    exact ⟨some ad, len, cap, hcs, hl, by simpa [maxLen] using hm, fun e => by cases e⟩
theorem list_choose {P : Nat → List Int → Prop} (n : Nat) (h : ∀ i, i < n → ∃ l, P i l) : ∃ ls : List (List Int), ls.length = n ∧ ∀ i, i < n → P i (ls.getD i []) := by
  refine ⟨(List.range n).map fun i => if hi : i < n then Classical.choose (h i hi) else [], by simp, fun i hi => ?_⟩
  have e : ((List.range n).map fun i => if hi : i < n then Classical.choose (h i hi) else []).getD i [] = Classical.choose (h i hi) := by
    simp [List.getD, hi]
  rw [e]
  exact Classical.choose_spec (h i hi)
theorem view_rks (hf : DataW.trod enc Try.prog W 0 (fun _ => true) true fuel 25 [v] = some x) : ∃ a l c ls, v = .slice a l c ∧ Rks W a l c ls := by
  rcases DataW.trod_slice Try.underlying25 hf with ⟨hcs, _⟩ | ⟨ad, len, cap, elems, rest, n, _, hcs, _, _, hl, hm, hlen, hel, _, _⟩
  · simp at hcs
    exact ⟨none, 0, 0, [], hcs, rfl, Nat.le_refl _, by omega, fun h => absurd h (by omega), fun i hi => absurd hi (by omega)⟩
  · simp at hcs
    subst hcs
    rw [cellsRv] at hel
    obtain ⟨ls, h1, h2⟩ := list_choose (P := fun i l => ∃ bo m d, W.cell? (pt (some ad) i) = some (.slice bo m d) ∧ Lst .i64 W bo m d l ∧ (bo = none → d = 0)) len (fun k hk => by
      have hx := hel k hk
      rw [List.getElem?_eq_getElem (by omega), Option.bind_eq_some_iff] at hx
      obtain ⟨cs', hcs, hy⟩ := hx
      obtain ⟨_, hcl, hcc⟩ := World.cells?_some hcs
      match cs', hcl with
      | [u], _ =>
        obtain ⟨a, l, c, xs, rfl, L, h0⟩ := view_cellsI hy
        refine ⟨xs, a, l, c, ?_, L, h0⟩
        have := hcc 0 (by omega)
        rw [Nat.mul_one] at this
        have e0 : (ad.add k).add 0 = ad.add k := by
          unfold Addr.add
          obtain ⟨b, o, f⟩ := ad
          cases k <;> simp
        rw [e0] at this
        exact this)
    exact ⟨some ad, len, cap, ls, rfl, h1, hl, by simpa [maxLen] using hm, fun _ => ⟨_, rfl⟩, h2⟩
theorem list_of9 {cs : List Value} (h : cs.length = 9) : ∃ a b c d e f g i j, cs = [a, b, c, d, e, f, g, i, j] := by
  match cs, h with
  | [a, b, c, d, e, f, g, i, j], _ => exact ⟨a, b, c, d, e, f, g, i, j, rfl⟩
set_option maxRecDepth 100000 in
theorem view_cellsC {cs : List Value} (hl : cs.length = 9) (hf : DataW.trod enc Try.prog W 0 (fun _ => true) true fuel 24 cs = some x) :
    ∃ (nm : ByteArray) (co : Option Addr) (n cc : Nat) (me se rk dg ti ov sk : Int), cs = [.string nm, .slice co n cc, .int .i64 me, .int .i64 se, .int .i64 rk, .int .i64 dg, .int .i64 ti, .int .i64 ov, .int .i64 sk] ∧ n ≤ cc ∧ cc ≤ 9223372036854775807 := by
  obtain ⟨a, b, c, d, e, f, g, i, j, rfl⟩ := list_of9 hl
  obtain ⟨xs, n, rfl, rfl, _, hx, hs⟩ := DataW.trod_struct Try.underlying24 hf
  replace hx : xs.length = 9 := hx
  have h0 := hs 0 _ rfl
  have h1 := hs 1 _ rfl
  have h2 := hs 2 _ rfl
  have h3 := hs 3 _ rfl
  have h4 := hs 4 _ rfl
  have h5 := hs 5 _ rfl
  have h6 := hs 6 _ rfl
  have h7 := hs 7 _ rfl
  have h8 := hs 8 _ rfl
  rw [List.getElem?_eq_getElem (by omega)] at h0 h1 h2 h3 h4 h5 h6 h7 h8
  obtain ⟨nm, e0, _, _⟩ := DataW.trod_string (P := Try.prog) Try.underlying9 (cs := [a]) h0
  obtain ⟨co, m, cc, e1, k1, k2, _⟩ := view_caps Try.underlying22 (v := b) h1
  obtain ⟨z2, e2, _, _⟩ := DataW.trod_int (P := Try.prog) Try.underlying3 (cs := [c]) h2
  obtain ⟨z3, e3, _, _⟩ := DataW.trod_int (P := Try.prog) Try.underlying3 (cs := [d]) h3
  obtain ⟨z4, e4, _, _⟩ := DataW.trod_int (P := Try.prog) Try.underlying3 (cs := [e]) h4
  obtain ⟨z5, e5, _, _⟩ := DataW.trod_int (P := Try.prog) Try.underlying3 (cs := [f]) h5
  obtain ⟨z6, e6, _, _⟩ := DataW.trod_int (P := Try.prog) Try.underlying3 (cs := [g]) h6
  obtain ⟨z7, e7, _, _⟩ := DataW.trod_int (P := Try.prog) Try.underlying3 (cs := [i]) h7
  obtain ⟨z8, e8, _, _⟩ := DataW.trod_int (P := Try.prog) Try.underlying3 (cs := [j]) h8
  simp at e0 e2 e3 e4 e5 e6 e7 e8
  subst e0 e1 e2 e3 e4 e5 e6 e7 e8
  exact ⟨nm, co, m, cc, z2, z3, z4, z5, z6, z7, z8, rfl, k1, k2⟩
end
set_option maxRecDepth 100000 in
theorem view_contest {H : Type} {enc : TypeId × Value → H} {W : World} {r : Reach} {b0 : Nat} {v : Value} {d : DataW H} {ps : List MemPlace}
    (hv : Value.okWide Try.prog W r b0 24 v) (h : DataW.Trod enc Try.prog W 0 (fun _ => true) true 24 v d ps) :
    ∃ (nm : ByteArray) (co : Option Addr) (n cc : Nat) (me se rk dg ti ov sk : Int), v = .agg #[.string nm, .slice co n cc, .int .i64 me, .int .i64 se, .int .i64 rk, .int .i64 dg, .int .i64 ti, .int .i64 ov, .int .i64 sk] ∧ n ≤ cc ∧ cc ≤ 9223372036854775807 := by
  obtain ⟨cs, rfl, hsz⟩ := okWide_struct Try.underlying24 hv
  obtain ⟨fuel, hf⟩ := h
  have hc : Try.prog.cellsOf 24 = 9 := by kernel_rfl
  obtain ⟨nm, co, n, cc, me, se, rk, dg, ti, ov, sk, e, k1, k2⟩ := view_cellsC (cs := cs.toList) (by simpa using hsz.trans hc) (by simpa [Value.cells] using hf)
  refine ⟨nm, co, n, cc, me, se, rk, dg, ti, ov, sk, ?_, k1, k2⟩
  have : cs = (cs.toList).toArray := by simp
  rw [this, e]
set_option maxRecDepth 100000 in
theorem view_vote {H : Type} {enc : TypeId × Value → H} {W : World} {r : Reach} {b0 : Nat} {v : Value} {d : DataW H} {ps : List MemPlace}
    (hv : Value.okWide Try.prog W r b0 27 v) (h : DataW.Trod enc Try.prog W 0 (fun _ => true) true 27 v d ps) :
    ∃ (vt : Int) (ro : Option Addr) (rn rc : Nat) (ls : List (List Int)), v = .agg #[.int .i64 vt, .slice ro rn rc] ∧ Rks W ro rn rc ls := by
  obtain ⟨v0, v1, y0, y1, n, rfl, _, _, h0, h1⟩ := Joins.open_agg2 Try.underlying27 (by kernel_rfl) (by kernel_rfl) hv h
  obtain ⟨z, hz, _, _⟩ := DataW.trod_int Try.underlying3 h0
  obtain ⟨a, l, c, ls, rfl, L⟩ := view_rks h1
  simp at hz
  subst hz
  exact ⟨z, a, l, c, ls, rfl, L⟩
theorem view_ints {H : Type} {enc : TypeId × Value → H} {W : World} {r : Reach} {b0 : Nat} {v : Value} {d : DataW H} {ps : List MemPlace}
    (hv : Value.okWide Try.prog W r b0 32 v) (h : DataW.Trod enc Try.prog W 0 (fun _ => true) true 32 v d ps) : ∃ a l c xs, v = .slice a l c ∧ Lst .i64 W a l c xs := by
  obtain ⟨fuel, hf⟩ := h
  obtain ⟨a, l, c, rfl⟩ := okWide_slice Try.underlying32 hv
  simp only [Value.cells] at hf
  obtain ⟨a, l, c, xs, e, L, _⟩ := view_cellsI hf
  exact ⟨a, l, c, xs, e, L⟩
end Go.Proofs.Ytjpkbaidgddhnaa
