/-
  electionlaw05.Awake; two sources of one seed side by side.
-/
import Derived.Test.YtgomconcfjllcaaDoorRndEq
namespace Go.Proofs.YtgomconcfjllcaaDoor
open Go.RowKit Dig Rnd

theorem rem20 (z : Int) : ∃ N : Nat, N < 20 ∧ (wrap64 (z.tmod 20 + 20)).tmod 20 = (N : Int) := by
  have h1 : -20 < z.tmod 20 ∧ z.tmod 20 < 20 := by
    have := Int.tmod_lt_of_pos z (show (0 : Int) < 20 by omega)
    have := Int.lt_tmod_of_pos z (show (0 : Int) < 20 by omega)
    omega
  have hw : wrap64 (z.tmod 20 + 20) = z.tmod 20 + 20 := by unfold wrap64; omega
  rw [hw]
  refine ⟨((z.tmod 20 + 20).tmod 20).toNat, ?_, ?_⟩
  · rw [Int.tmod_eq_emod_of_nonneg (by omega)]; omega
  · rw [Int.tmod_eq_emod_of_nonneg (by omega)]; omega

/-- Beside the world w0 in which the call began: a source of the program (block s, k words drawn) and one of the reference (block t, m words drawn), of one seed. -/
structure St2 (w0 w : World) (s t : Nat) (S : ByteArray) (k m : Nat) : Prop where
  a : Src 44 w s S k
  b : Src 29 w t S m
  ne : s ≠ t
  s0 : w0.heap.size ≤ s
  t0 : w0.heap.size ≤ t
  bel : Below w0.heap.size w0 w
  k1 : k ≤ 18446744073709551615
  m1 : m ≤ 18446744073709551615
section
variable {w0 w w' : World} {s t k m j : Nat} {S : ByteArray}
theorem src_ne (a : Src 44 w s S k) (b : Src 29 w t S m) : s ≠ t := by
  rintro rfl
  have h1 : w.heap[s]? = _ := a
  have h2 : w.heap[s]? = _ := b
  rw [h1] at h2
  simp at h2
theorem St2.stepS (h : St2 w0 w s t S k m) (hS : Src 44 w' s S j) (hg : w.grownBy w' (some s)) (hj : j < 18446744073709551616) : St2 w0 w' s t S j m :=
  ⟨hS, h.b.grownBy hg h.ne.symm, h.ne, h.s0, h.t0, below_grown h.bel hg h.bel.size h.s0, Nat.le_of_lt_succ hj, h.m1⟩
theorem St2.stepT (h : St2 w0 w s t S k m) (hS : Src 29 w' t S j) (hg : w.grownBy w' (some t)) (hj : j < 18446744073709551616) : St2 w0 w' s t S k j :=
  ⟨h.a.grownBy hg h.ne, hS, h.ne, h.s0, h.t0, below_grown h.bel hg h.bel.size h.t0, h.k1, Nat.le_of_lt_succ hj⟩
theorem St2.below (h : St2 w0 w s t S k m) (b : Below w.heap.size w w') : St2 w0 w' s t S k m :=
  ⟨h.a.kept b, h.b.kept b, h.ne, h.s0, h.t0, h.bel.trans (b.mono h.bel.size), h.k1, h.m1⟩
end

set_option maxHeartbeats 1600000 in
set_option maxRecDepth 100000 in
theorem awake_c (w : World) (hK : KTab 1 w) (hK0 : KTab 0 w) :
    Calls Tryd.prog 18 #[] w fun e w' => e = .returned (.bool true) ∧ Below w.heap.size w w' := by
  obtain ⟨A, hA⟩ : ∃ A : ByteArray, Hid (A = ⟨#[97]⟩) := ⟨_, rfl⟩
  have hAs : Hid (A.size ≤ 1000) := by show A.size ≤ 1000; rw [hA.out]; decide
  have HO : Hid (Calls Tryd.prog 19 #[.string ⟨#[115, 101, 101, 100]⟩, .int .i64 3] w fun e w' => ∃ ao c, e = .returned (.slice ao 3 c) ∧ Below w.heap.size w w') :=
    (order_c ⟨#[115, 101, 101, 100]⟩ 3 w (by decide) (by omega) hK).mono fun e w' ⟨ao, c, he, _, b⟩ => ⟨ao, c, he, b⟩
  go_enter Tryd.func18, Tryd.ntmps18
  go_wp2_with fail
  refine HO.out.mono ?_
  rintro e w1 ⟨ao, c, rfl, b1⟩
  have HN := Lib.hid (new_c A w1)
  rw [hA.out] at HN
  clear HO
  go_wp2_with fail
  refine HN.out.mono ?_
  rintro e w2 ⟨g, rfl, hg, S2, b2⟩
  rw [← hA.out] at S2
  have B2 : Below w.heap.size w w2 := b1.trans (b2.mono b1.size)
  have HC := Lib.hid (word_c g A 0 w2 S2 hAs.out (by omega) (hK.below B2))
  have hgw : w.heap.size ≤ g := Nat.le_trans b1.size hg
  clear b1 b2 S2 HN
  go_wp2_with fail
  refine HC.out.mono ?_
  rintro e w3 ⟨rfl, _, G3⟩
  have B3 : Below w.heap.size w w3 := below_grown B2 G3 B2.size hgw
  clear HC G3 B2
  obtain ⟨x, hx⟩ : ∃ x, Hid (x = wordN A 0) := ⟨_, rfl⟩
  rw [← hx.out]
  obtain ⟨V, hV⟩ : ∃ V, Hid (V = w3.alloc (.cells #[.string ⟨#[97]⟩, .int .u64 0] 29)) := ⟨_, rfl⟩
  have b4 : Below w3.heap.size w3 V := by rw [hV.out]; exact (Below.refl _ _).alloc (Nat.le_refl _) _
  have S4 : Src 29 V w3.heap.size A 0 := by rw [hV.out, hA.out]; exact new_src 29 w3 _
  have B4 : Below w.heap.size w V := B3.trans (b4.mono B3.size)
  have HC := Lib.hid (refword_c w3.heap.size A 0 V S4 hAs.out (by omega) (hK0.below B4))
  rw [← hx.out] at HC
  have hw3 := B3.size
  have hxx : ((x : Int) == (x : Int)) = true := beq_self_eq_true _
  clear S4 b4 B3
  go_wp2_with fail
  rw [← hV.out]
  refine HC.out.mono ?_
  rintro e w5 ⟨rfl, _, G5⟩
  have B5 : Below w.heap.size w w5 := below_grown B4 G5 B4.size hw3
  clear HC G5 B4
  go_wp2_with fail
  go_ret
  exact ⟨rfl, B5⟩
end Go.Proofs.YtgomconcfjllcaaDoor
