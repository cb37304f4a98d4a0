/-
  The calls of a script, as they came in.
-/
import Derived.Test.YtbnomkcliejcaaaDskView
import Derived.Test.YtbnomkcliejcaaaDskLaw5
namespace Go.Proofs.Ytbnomkcliejcaaa
open Go.RowKit Go.ChangeShapes Go.WideShapes Ds

theorem cellsIv : Try.prog.cellsOf 3 = 1 := by kernel_rfl
theorem cellsBv : Try.prog.cellsOf 27 = 1 := by kernel_rfl
theorem cellsKv : Try.prog.cellsOf 28 = 1 := by kernel_rfl
theorem cellsOv : Try.prog.cellsOf 30 = 4 := by kernel_rfl
set_option maxRecDepth 100000 in
theorem view_ops {H : Type} {enc : TypeId × Value → H} {W : World} {r : Reach} {b0 : Nat} {v : Value} {d : DataW H} {ps : List MemPlace}
    (hv : Value.okWide Try.prog W r b0 22 v) (h : DataW.Trod enc Try.prog W 0 (fun _ => true) true 22 v d ps) : ∃ a l c, v = .slice a l c ∧ OpsL W a l c := by
  obtain ⟨fuel, hf⟩ := h
  obtain ⟨a, l, c, rfl⟩ := okWide_slice Try.underlying22 hv
  simp only [Value.cells] at hf
  rcases DataW.trod_slice Try.underlying22 hf with ⟨hcs, _⟩ | ⟨ad, len, cap, elems, rest, n, _, hcs, _, _, hl, hm, hlen, hel, _, _⟩
  · simp at hcs
    obtain ⟨rfl, rfl, rfl⟩ := hcs
    exact ⟨none, 0, 0, rfl, Nat.le_refl _, by omega, fun h => absurd h (by omega), fun i hi => absurd hi (by omega)⟩
  · simp at hcs
    obtain ⟨rfl, rfl, rfl⟩ := hcs
    rw [cellsOv] at hel
    refine ⟨some ad, l, c, rfl, hl, by simpa [maxLen] using hm, fun _ => ⟨_, rfl⟩, fun k hk => ?_⟩
    have hx := hel k hk
    rw [List.getElem?_eq_getElem (by omega), Option.bind_eq_some_iff] at hx
    obtain ⟨cs', hcs, hy⟩ := hx
    obtain ⟨_, hcl, hcc⟩ := World.cells?_some hcs
    match cs', hcl with
    | [u0, u1, u2, u3], _ =>
      obtain ⟨y0, y1, y2, y3, n', _, _, t0, t1, t2, t3⟩ := Joins.trod_struct4 Try.underlying30 hy
      have t0' : DataW.trod enc Try.prog W 0 (fun _ => true) true n' 3 [u0] = some y0 := by
        simp only [cellsIv] at t0; exact t0
      have t1' : DataW.trod enc Try.prog W 0 (fun _ => true) true n' 3 [u1] = some y1 := by
        simp only [cellsIv] at t1; exact t1
      have t2' : DataW.trod enc Try.prog W 0 (fun _ => true) true n' 27 [u2] = some y2 := by
        simp only [cellsBv] at t2; exact t2
      have t3' : DataW.trod enc Try.prog W 0 (fun _ => true) true n' 28 [u3] = some y3 := by
        simp only [cellsKv] at t3; exact t3
      obtain ⟨kd, h0, _, _⟩ := DataW.trod_int Try.underlying3 t0'
      obtain ⟨I, h1, _, wI⟩ := DataW.trod_int Try.underlying3 t1'
      obtain ⟨bo, bn, bc, xs, rfl, LB, NB⟩ := view_cells8 t2'
      obtain ⟨ko, kn, kc, ks, rfl, LK, NK⟩ := view_cellsT t3'
      simp at h0 h1
      subst h0 h1
      have hb : -9223372036854775808 ≤ I ∧ I ≤ 9223372036854775807 := by simpa [Lit.wf, IntKind.min, IntKind.max, IntKind.signed, IntKind.bits] using wI
      have e0 : (ad.add (k * 4)).add 0 = ad.add (k * 4) := by
        unfold Addr.add
        obtain ⟨b, o, f⟩ := ad
        cases k <;> simp
      have q0 := hcc 0 (by omega)
      have q1 := hcc 1 (by omega)
      have q2 := hcc 2 (by omega)
      have q3 := hcc 3 (by omega)
      rw [e0] at q0
      exact ⟨kd, I, bo, bn, bc, xs, ko, kn, kc, ks, q0, q1, q2, q3, hb.1, hb.2, LB, NB, LK, NK⟩
end Go.Proofs.Ytbnomkcliejcaaa
