/-
  nat.Pow10.
-/
import Derived.Test.YtmojcnlddfijjaaDoorNatMulAdd
namespace Go.Proofs.YtmojcnlddfijjaaDoor
open Go.RowKit NatMath

/-- What Pow10 denotes. -/
def pow10 (n : Int) : Nat := if 0 ≤ n ∧ n ≤ 60 then 10 ^ n.toNat else 0

theorem limbs_one : limbs 1 = [1] := by
  rw [limbs_pos (by omega), show 1 / 4294967296 = 0 by omega, limbs_zero]; rfl

set_option maxHeartbeats 1600000 in
set_option maxRecDepth 100000 in
theorem pow10_c (n : Int) (w : World) :
    Calls Tryd.prog 29 #[.int .i64 n] w fun e w' => ∃ ao' n' c', n' ≤ 62 ∧ e = .returned (.slice ao' n' c') ∧ Own 77 .u32 w.heap.size w' ao' n' c' (limbs (pow10 n)) ∧ Below w.heap.size w w' := by
  by_cases h : 0 ≤ n ∧ n ≤ 60
  · obtain ⟨h0, h1⟩ := h
    obtain ⟨N, rfl⟩ := Int.eq_ofNat_of_zero_le h0
    have hp : pow10 (N : Int) = 10 ^ N := by unfold pow10; rw [if_pos ⟨h0, h1⟩]; rfl
    have HP := Lib.hid hp
    have hd1 : decide ((N : Int) < 0) = false := by simp
    have hd2 : decide ((60 : Int) < (N : Int)) = false := by simp; omega
    have lit : Own 77 .u32 w.heap.size (w.alloc (.cells #[.int .u32 1] 77)) (some ⟨w.heap.size, 0, none⟩) 1 1 (limbs (10 ^ 0)) := by
      rw [show 10 ^ 0 = 1 from rfl, limbs_one]
      refine ⟨World.ownsRow_lit w #[.int .u32 1] 1 (Nat.le_refl _) (by unfold maxLen; omega) rfl, ?_⟩
      intro y hy
      simp at hy
      subst hy
      exact wf_u32 (by omega) (by omega)
    have hb0 : Below w.heap.size w (w.alloc (.cells #[.int .u32 1] 77)) := (Below.refl _ _).alloc (Nat.le_refl _) _
    clear hp
    go_enter Tryd.func29, Tryd.ntmps29
    go_wp2_with fail
    go_loopw [3, 12] (fun s3 i wr => ∃ (j m c : Nat) (a : Option Addr), j ≤ N ∧ i = .int .i64 j ∧ s3 = .slice a m c ∧ m ≤ j + 1 ∧ Own 77 .u32 w.heap.size wr a m c (limbs (10 ^ j)) ∧ Below w.heap.size w wr)
      (fun _ i _ => N - (intOf i).toNat)
    case atStart => exact ⟨0, 1, 1, _, Nat.zero_le _, rfl, rfl, by omega, lit, hb0⟩
    case round =>
      obtain ⟨j, m, c, a, hj, rfl, rfl, hm, ho, hb⟩ := hrel
      by_cases hlt : j < N
      · have hc := mulAdd_c w.heap.size a m c (10 ^ j) 10 0 wr ho hb.size (by omega) (by omega) (by omega) (by omega)
        rw [Nat.add_zero, ← Nat.pow_succ, show ((10 : Nat) : Int) = 10 from rfl, show ((0 : Nat) : Int) = 0 from rfl] at hc
        have HC := Lib.hid hc
        have HB := Lib.hid hb
        clear hc ho hb lit hb0
        go_wp2_with fail
        refine HC.out.mono ?_
        rintro e w2 ⟨a2, m2, c2, hm2, rfl, o2, b2⟩
        have b3 := HB.out.trans b2
        clear b2 HC
        go_wp2_with fail
        go_roundw
        case rel => exact ⟨j + 1, m2, c2, a2, by omega, by go_num, rfl, by omega, o2, b3⟩
        case measure => simp [intOf]; omega
      · obtain rfl : j = N := by omega
        clear lit hb0
        go_wp2_with fail
        go_ret
        exact ⟨a, m, c, by omega, rfl, by rw [HP.out]; exact ho, hb⟩
  · have hp : pow10 n = 0 := by unfold pow10; rw [if_neg h]
    have hnil : Own 77 .u32 w.heap.size w none 0 0 (limbs (pow10 n)) := by
      rw [hp, limbs_zero]; exact ⟨World.ownsRow_nil _ _ _ _, fun _ hx => by cases hx⟩
    clear hp
    by_cases hn : n < 0
    · go_enter Tryd.func29, Tryd.ntmps29
      go_wp2_with fail
      go_ret
      exact ⟨none, 0, 0, by omega, rfl, hnil, Below.refl _ _⟩
    · have h60 : 60 < n := by omega
      have hd1 : decide (n < 0) = false := by simpa using hn
      have hd2 : decide ((60 : Int) < n) = true := by simpa using h60
      clear h
      go_enter Tryd.func29, Tryd.ntmps29
      go_wp2_with fail
      go_ret
      exact ⟨none, 0, by omega, 0, rfl, hnil, Below.refl _ _⟩
end Go.Proofs.YtmojcnlddfijjaaDoor
