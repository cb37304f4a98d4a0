/-
  electionlaw13.Awake: the example of the chapter.
-/
import Derived.Test.YtjpkbaidgddhnaaRkRef
namespace Go.Proofs.Ytjpkbaidgddhnaa
open Go.RowKit Rk

/-- Ints in a slice that has just been made. -/
theorem new_ints (w : World) (xs : List Int) (hx : ∀ x ∈ xs, (Lit.int .i64 x).wf = true) (h0 : 0 < xs.length) (h1 : xs.length ≤ 1000) :
    ∃ V, w.alloc (.cells (xs.map (Value.int .i64)).toArray 3) = V ∧ Lst .i64 V (some ⟨w.heap.size, 0, none⟩) xs.length xs.length xs ∧ Below w.heap.size w V := by
  refine ⟨_, rfl, ?_, (Below.refl _ _).alloc (Nat.le_refl _) _⟩
  have o : Own 3 .i64 w.heap.size (w.alloc (.cells (xs.map (Value.int .i64)).toArray 3)) (some ⟨w.heap.size, 0, none⟩) xs.length xs.length xs := by
    refine ⟨?_, hx⟩
    have := World.ownsRow_lit (base := w.heap.size) (size := 1) w (e := 3) (xs.map (Value.int .i64)).toArray xs.length (Nat.le_refl _) (by unfold maxLen; omega) (by simp)
    simpa using this
  exact o.lst
theorem rks_lit {w : World} {g : Nat} {us : List Value} {ls : List (List Int)} (h : Arr w g 32 us) (hv : LsV w ls us) (h0 : 0 < us.length) (h1 : us.length ≤ 1000) : Rks w (some ⟨g, 0, none⟩) us.length us.length ls := by
  have h2 := hv.len
  refine ⟨h2.symm, Nat.le_refl _, by omega, fun _ => ⟨_, rfl⟩, fun i hi => ?_⟩
  obtain ⟨bo, m, d, e1, e2, e3⟩ := hv.at i (by omega)
  exact ⟨bo, m, d, by rw [pt_own, h.cell, e1], e2, e3⟩

def sample : List (List Int) := [[1], [], [1], [0], [0, 2], [2]]
set_option maxHeartbeats 3200000 in
set_option maxRecDepth 100000 in
theorem awake_c (w : World) : Calls Try.prog 9 #[] w fun e w' => e = .returned (.bool true) ∧ Below w.heap.size w w' := by
  obtain ⟨X1, e1, A1, B1, zz1⟩ := new_box w 9 [.string ⟨#[97]⟩, .string ⟨#[98]⟩, .string ⟨#[99]⟩]
  obtain ⟨X2, e2, A2, B2, zz2⟩ := new_box X1 24 [.string ⟨#[]⟩, .slice none 0 0, .int .i64 0, .int .i64 0, .int .i64 0, .int .i64 0, .int .i64 0, .int .i64 0, .int .i64 0]
  obtain ⟨Z0, Z1, Z2, Z3, Z4, Z5, Z6, Z7, Z8, f0, f1, f2, f3, f4, f5, f6, f7, f8, A3, zz3, L3, c0, r0, c1, r1, c2, r2, c3, r3, c4, r4, c5, r5, c6, r6, c7, r7, c8, r8⟩ := box_let9 A2 (.string ⟨#[]⟩) (.slice (some ⟨w.heap.size, 0, none⟩) 3 3) (.int .i64 0) (.int .i64 0) (.int .i64 6) (.int .i64 0) (.int .i64 0) (.int .i64 1) (.int .i64 1)
  have B3 : Below w.heap.size w Z8 := B1.trans ((L3 _ _ B2 (Nat.le_refl _)).mono B1.size)
  obtain ⟨Y5, e5, L5, B5⟩ := new_ints Z8 [1] (by decide) (by decide) (by decide)
  obtain ⟨Y6, e6, L6, B6⟩ := new_ints Y5 [1] (by decide) (by decide) (by decide)
  obtain ⟨Y7, e7, L7, B7⟩ := new_ints Y6 [0] (by decide) (by decide) (by decide)
  obtain ⟨Y8, e8, L8, B8⟩ := new_ints Y7 [0, 2] (by decide) (by decide) (by decide)
  obtain ⟨Y9, e9, L9, B9⟩ := new_ints Y8 [2] (by decide) (by decide) (by decide)
  obtain ⟨YA, e10, A10, B10, zz4⟩ := new_box Y9 32 [.slice (some ⟨Z8.heap.size, 0, none⟩) 1 1, .slice none 0 0, .slice (some ⟨Y5.heap.size, 0, none⟩) 1 1, .slice (some ⟨Y6.heap.size, 0, none⟩) 1 1, .slice (some ⟨Y7.heap.size, 0, none⟩) 2 2, .slice (some ⟨Y8.heap.size, 0, none⟩) 1 1]
  obtain ⟨YB, e11, A11, B11, zz5⟩ := new_box YA 27 [.int .i64 0, .slice none 0 0]
  obtain ⟨P0, P1, g0, g1, A12, zz6, L12, p0, q0, p1, q1⟩ := box_let2 A11 (.int .i64 0) (.slice (some ⟨Y9.heap.size, 0, none⟩) 6 6)
  have BP : Below YA.heap.size YA P1 := L12 _ _ B11 (Nat.le_refl _)
  have b58 := B5.trans (B6.mono B5.size)
  have b57 := b58.trans (B7.mono b58.size)
  have b56 := b57.trans (B8.mono b57.size)
  have b59 := b56.trans (B9.mono b56.size)
  have b5A := b59.trans (B10.mono b59.size)
  have b5P := b5A.trans (BP.mono b5A.size)
  have BW : Hid (Below w.heap.size w P1) := B3.trans (b5P.mono B3.size)
  have AP := A3.kept b5P
  have HR : Rks P1 (some ⟨Y9.heap.size, 0, none⟩) 6 6 sample := by
    have l5 := (((((L5.below B6).below B7).below B8).below B9).below B10).below BP
    have l6 := ((((L6.below B7).below B8).below B9).below B10).below BP
    have l7 := (((L7.below B8).below B9).below B10).below BP
    have l8 := ((L8.below B9).below B10).below BP
    have l9 := (L9.below B10).below BP
    refine rks_lit (A10.kept BP) ?_ (by simp) (by simp)
    exact ⟨_, _, _, _, rfl, l5, (fun e => by cases e), _, _, _, _, rfl, Lst.nil _ _, (fun _ => rfl), _, _, _, _, rfl, l6, (fun e => by cases e), _, _, _, _, rfl, l7, (fun e => by cases e), _, _, _, _, rfl, l8, (fun e => by cases e), _, _, _, _, rfl, l9, (fun e => by cases e), rfl⟩
  have hrank : rank 3 6 1 1 sample = [1, 0] := by decide
  have HP := prefs_c ⟨#[]⟩ (some ⟨w.heap.size, 0, none⟩) 3 3 0 0 6 0 0 1 1 0 (some ⟨Y9.heap.size, 0, none⟩) 6 6 sample P1 HR (by decide) (by decide) (by decide)
  rw [hrank] at HP
  replace HP := Lib.hid HP
  have k0 : P1.cell? ⟨X1.heap.size, 0, none⟩ = some (.string ⟨#[]⟩) := AP.cell 0
  have k1 : P1.cell? ⟨X1.heap.size, 1, none⟩ = some (.slice (some ⟨w.heap.size, 0, none⟩) 3 3) := AP.cell 1
  have k2 : P1.cell? ⟨X1.heap.size, 2, none⟩ = some (.int .i64 0) := AP.cell 2
  have k3 : P1.cell? ⟨X1.heap.size, 3, none⟩ = some (.int .i64 0) := AP.cell 3
  have k4 : P1.cell? ⟨X1.heap.size, 4, none⟩ = some (.int .i64 6) := AP.cell 4
  have k5 : P1.cell? ⟨X1.heap.size, 5, none⟩ = some (.int .i64 0) := AP.cell 5
  have k6 : P1.cell? ⟨X1.heap.size, 6, none⟩ = some (.int .i64 0) := AP.cell 6
  have k7 : P1.cell? ⟨X1.heap.size, 7, none⟩ = some (.int .i64 1) := AP.cell 7
  have k8 : P1.cell? ⟨X1.heap.size, 8, none⟩ = some (.int .i64 1) := AP.cell 8
  have m0 : P1.cell? ⟨YA.heap.size, 0, none⟩ = some (.int .i64 0) := A12.cell 0
  have m1 : P1.cell? ⟨YA.heap.size, 1, none⟩ = some (.slice (some ⟨Y9.heap.size, 0, none⟩) 6 6) := A12.cell 1
  have d5 : Z8.alloc (.cells #[.int .i64 1] 3) = Y5 := e5
  have d6 : Y5.alloc (.cells #[.int .i64 1] 3) = Y6 := e6
  have d7 : Y6.alloc (.cells #[.int .i64 0] 3) = Y7 := e7
  have d8 : Y7.alloc (.cells #[.int .i64 0, .int .i64 2] 3) = Y8 := e8
  have d9 : Y8.alloc (.cells #[.int .i64 2] 3) = Y9 := e9
  clear zz1 zz2 zz3 zz4 zz5 zz6 e5 e6 e7 e8 e9 A1 A2 A3 B1 B2 B3 B5 B6 B7 B8 B9 B10 B11 BP b58 b57 b56 b59 b5A b5P AP HR hrank L5 L6 L7 L8 L9 L12 A10 A11 A12 L3
  go_enter Try.func9, Try.ntmps9
  go_wp2_with fail
  refine HP.out.mono ?_
  rintro e w2 ⟨ao, m, d, rfl, O2, B2⟩
  obtain rfl : m = 2 := by have := O2.len; simpa using this.symm
  obtain ⟨Q, eQ, LQ, BQ⟩ := new_ints w2 [1, 0] (by decide) (by decide) (by decide)
  have dQ : w2.alloc (.cells #[.int .i64 1, .int .i64 0] 3) = Q := eQ
  have HE := Lib.hid (eqI_c ao (some ⟨w2.heap.size, 0, none⟩) 2 d 2 [1, 0] Q (O2.kept BQ).lst LQ)
  have BX : Hid (Below w.heap.size w Q) := BW.out.trans ((B2.mono BW.out.size).trans (BQ.mono (Nat.le_trans BW.out.size B2.size)))
  clear k0 k1 k2 k3 k4 k5 k6 k7 k8 m0 m1 eQ LQ BQ O2 B2 HP
  go_wp2_with fail
  refine HE.out.mono ?_
  rintro e w3 ⟨rfl, B3⟩
  have BY : Hid (Below w.heap.size w w3) := BX.out.trans (B3.mono BX.out.size)
  go_wp2_with fail
  go_ret
  exact ⟨rfl, BY.out⟩
end Go.Proofs.Ytjpkbaidgddhnaa
