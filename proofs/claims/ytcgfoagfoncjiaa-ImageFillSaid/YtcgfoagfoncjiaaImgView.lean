/-
  An image, a rectangle, a list of bytes as they came in; electionlaw09.small.
-/
import Derived.ProofKit
import Derived.OpenShut
import Derived.Test.YtcgfoagfoncjiaaImgAwake
namespace Go.Proofs.Ytcgfoagfoncjiaa
open Go.RowKit Go.ChangeShapes Go.WideShapes Im

theorem cells5v : Try.prog.cellsOf 5 = 1 := by kernel_rfl
theorem view_cells8 {H : Type} {enc : TypeId × Value → H} {W : World} {v : Value} {fuel : Nat} {x : DataW H × List MemPlace}
    (hf : DataW.trod enc Try.prog W 0 (fun _ => true) true fuel 22 [v] = some x) : ∃ a l c xs, v = .slice a l c ∧ Lst .u8 W a l c xs ∧ (a = none → c = 0) := by
  rcases open_ints Try.underlying22 Try.underlying5 cells5v hf with ⟨hcs, _⟩ | ⟨ad, len, cap, zs, hcs, _, hl, hm, hz, _, hcell, hw⟩
  · simp at hcs
    exact ⟨none, 0, 0, [], hcs, Lst.nil _ _, fun _ => rfl⟩
  · simp at hcs
    simp at hz
    refine ⟨some ad, len, cap, zs.take len, hcs, ⟨by simp; omega, hl, by simpa [maxLen] using hm, fun _ => ⟨_, rfl⟩, fun i hi => ?_, fun x hx => hw x (List.mem_of_mem_take hx)⟩, fun e => by cases e⟩
    have := hcell i (by omega)
    simp only [pt, Option.getD_some]
    rw [this]
    simp [List.getD, hi]
theorem view_bytes {H : Type} {enc : TypeId × Value → H} {W : World} {r : Reach} {b0 : Nat} {v : Value} {d : DataW H} {ps : List MemPlace}
    (hv : Value.okWide Try.prog W r b0 22 v) (h : DataW.Trod enc Try.prog W 0 (fun _ => true) true 22 v d ps) : ∃ a l c xs, v = .slice a l c ∧ Lst .u8 W a l c xs ∧ (a = none → c = 0) := by
  obtain ⟨fuel, hf⟩ := h
  obtain ⟨a, l, c, rfl⟩ := okWide_slice Try.underlying22 hv
  simp only [Value.cells] at hf
  exact view_cells8 hf
set_option maxRecDepth 100000 in
theorem view_img {H : Type} {enc : TypeId × Value → H} {W : World} {r : Reach} {b0 : Nat} {v : Value} {d : DataW H} {ps : List MemPlace}
    (hv : Value.okWide Try.prog W r b0 24 v) (h : DataW.Trod enc Try.prog W 0 (fun _ => true) true 24 v d ps) :
    ∃ (x y : Int) (a : Option Addr) (n c : Nat) (xs : List Int), v = .agg #[.int .i64 x, .int .i64 y, .slice a n c] ∧ Lst .u8 W a n c xs := by
  obtain ⟨v0, v1, v2, y0, y1, y2, n, rfl, _, _, h0, h1, h2⟩ := Joins.open_agg3 Try.underlying24 (by kernel_rfl) (by kernel_rfl) hv h
  obtain ⟨x, hx, _, _⟩ := DataW.trod_int Try.underlying3 h0
  obtain ⟨y, hy, _, _⟩ := DataW.trod_int Try.underlying3 h1
  obtain ⟨a, l, c, xs, rfl, L, _⟩ := view_cells8 h2
  simp at hx hy
  subst hx hy
  exact ⟨x, y, a, l, c, xs, rfl, L⟩
theorem i64b {x : Int} (h : (Lit.int .i64 x).wf = true) : -9223372036854775808 ≤ x ∧ x ≤ 9223372036854775807 := by
  simpa [Lit.wf, IntKind.min, IntKind.max, IntKind.signed, IntKind.bits] using h
set_option maxRecDepth 100000 in
theorem view_rect {H : Type} {enc : TypeId × Value → H} {W : World} {r : Reach} {b0 : Nat} {v : Value} {d : DataW H} {ps : List MemPlace}
    (hv : Value.okWide Try.prog W r b0 26 v) (h : DataW.Trod enc Try.prog W 0 (fun _ => true) true 26 v d ps) :
    ∃ x y p q : Int, v = .agg #[.int .i64 x, .int .i64 y, .int .i64 p, .int .i64 q] ∧ (-9223372036854775808 ≤ x ∧ x ≤ 9223372036854775807) ∧ (-9223372036854775808 ≤ y ∧ y ≤ 9223372036854775807) ∧ (-9223372036854775808 ≤ p ∧ p ≤ 9223372036854775807) ∧ (-9223372036854775808 ≤ q ∧ q ≤ 9223372036854775807) := by
  obtain ⟨v0, v1, v2, v3, y0, y1, y2, y3, n, rfl, _, _, h0, h1, h2, h3⟩ := Joins.open_agg4 Try.underlying26 (by kernel_rfl) (by kernel_rfl) hv h
  obtain ⟨x, hx, _, wx⟩ := DataW.trod_int Try.underlying3 h0
  obtain ⟨y, hy, _, wy⟩ := DataW.trod_int Try.underlying3 h1
  obtain ⟨p, hp, _, wp⟩ := DataW.trod_int Try.underlying3 h2
  obtain ⟨q, hq, _, wq⟩ := DataW.trod_int Try.underlying3 h3
  simp at hx hy hp hq
  subst hx hy hp hq
  exact ⟨x, y, p, q, rfl, i64b wx, i64b wy, i64b wp, i64b wq⟩
set_option maxHeartbeats 3200000 in
set_option maxRecDepth 100000 in
theorem small_c (x y : Int) (ao : Option Addr) (n c : Nat) (bs : List Int) (w : World) (h : Lst .u8 w ao n c bs) :
    Calls Try.prog 4 #[.agg #[.int .i64 x, .int .i64 y, .slice ao n c]] w fun e w' => e = .returned (.bool (decide (x ≤ 24) && decide (y ≤ 24) && okB x y bs)) ∧ Below w.heap.size w w' := by
  obtain ⟨V, e1, AV, BV, hz⟩ := new_img w x y ao n c
  have y0 : V.cell? ⟨w.heap.size, 0, none⟩ = some (.int .i64 x) := AV.cell 0
  have y1 : V.cell? ⟨w.heap.size, 1, none⟩ = some (.int .i64 y) := AV.cell 1
  have y2 : V.cell? ⟨w.heap.size, 2, none⟩ = some (.slice ao n c) := AV.cell 2
  have HV := Lib.hid (refValid_c x y ao n c bs V (h.below BV))
  obtain ⟨R, hR⟩ : ∃ R, okB x y bs = R := ⟨_, rfl⟩
  rw [hR] at HV ⊢
  have HB := Lib.hid BV
  clear h BV hz AV hR
  by_cases a1 : x ≤ 24
  · rw [decide_eq_true a1]
    have b1 := decide_eq_true a1
    by_cases a2 : y ≤ 24
    · rw [decide_eq_true a2]
      have b2 := decide_eq_true a2
      go_enter Try.func4, Try.ntmps4
      go_wp2_with (go_at_call 12; refine HV.out.mono ?_; rintro e w1 ⟨rfl, B1⟩; have HB1 := Lib.hid (HB.out.trans (B1.mono HB.out.size)); clear B1)
      go_ret
      exact ⟨by rfl, HB1.out⟩
    · rw [decide_eq_false a2]
      have b2 := decide_eq_false a2
      go_enter Try.func4, Try.ntmps4
      go_wp2_with fail
      go_ret
      exact ⟨by rfl, HB.out⟩
  · rw [decide_eq_false a1]
    have b1 := decide_eq_false a1
    go_enter Try.func4, Try.ntmps4
    go_wp2_with fail
    go_ret
    exact ⟨by rfl, HB.out⟩
theorem small_ok {x y : Int} {bs : List Int} (h : (decide (x ≤ 24) && decide (y ≤ 24) && okB x y bs) = true) : ∃ v u : Nat, x = v ∧ y = u ∧ v ≤ 24 ∧ u ≤ 24 ∧ OkI v u bs := by
  simp only [Bool.and_eq_true, decide_eq_true_eq] at h
  obtain ⟨v, u, rfl, rfl, O⟩ := okB_yes h.2
  exact ⟨v, u, rfl, rfl, by omega, by omega, O⟩
end Go.Proofs.Ytcgfoagfoncjiaa
