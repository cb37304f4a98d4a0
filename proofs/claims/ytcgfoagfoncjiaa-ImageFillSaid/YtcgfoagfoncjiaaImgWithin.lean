/-
  The reference's within.
-/
import Derived.Test.YtcgfoagfoncjiaaImgBase
namespace Go.Proofs.Ytcgfoagfoncjiaa
open Go.RowKit Im

namespace Im
/-- Does p, which is no more than 512, lie between x and x + w? -/
def inP (p : Nat) (x w : Int) : Bool := decide (x ≤ (p : Int)) && decide ((p : Int) < x + w)
end Im
set_option maxHeartbeats 1600000 in
set_option maxRecDepth 100000 in
theorem within_c (p : Nat) (x v : Int) (w : World) (hp : p ≤ 1000) (h1 : -9223372036854775808 ≤ x) (h2 : x ≤ 9223372036854775807) (h3 : -9223372036854775808 ≤ v) (h4 : v ≤ 9223372036854775807) :
    Calls Try.prog 21 #[.int .i64 (p : Int), .int .i64 x, .int .i64 v] w fun e w' => e = .returned (.bool (inP p x v)) ∧ w = w' := by
  unfold inP
  by_cases hv : v ≤ 0
  · have e : (decide (x ≤ (p : Int)) && decide ((p : Int) < x + v)) = false := by
      by_cases h : x ≤ (p : Int)
      · rw [decide_eq_false (show ¬ (p : Int) < x + v by omega), Bool.and_false]
      · rw [decide_eq_false h, Bool.false_and]
    rw [e]
    go_enter Try.func21, Try.ntmps21
    go_wp2_with fail
    all_goals
      go_ret
      exact ⟨rfl, rfl⟩
  · have hv' : 0 < v := by omega
    by_cases hpx : (p : Int) < x
    · rw [decide_eq_false (show ¬ x ≤ (p : Int) by omega), Bool.false_and]
      go_enter Try.func21, Try.ntmps21
      go_wp2_with fail
      all_goals
        go_ret
        exact ⟨rfl, rfl⟩
    · have hpx' : x ≤ (p : Int) := by omega
      rw [decide_eq_true hpx', Bool.true_and]
      by_cases hx : x < 0
      · have hw : wrap64 (v + x) = v + x := by unfold wrap64; omega
        go_enter Try.func21, Try.ntmps21
        go_wp2_with fail
        all_goals
          go_ret
          refine ⟨?_, rfl⟩
          have e : decide ((p : Int) < x + v) = decide ((p : Int) < v + x) := by rw [Int.add_comm]
          rw [e]
          first | rfl | (rw [hw]; rfl)
      · have hx' : 0 ≤ x := by omega
        have hw : wrap64 ((p : Int) - x) = (p : Int) - x := by unfold wrap64; omega
        go_enter Try.func21, Try.ntmps21
        go_wp2_with fail
        all_goals
          go_ret
          refine ⟨?_, rfl⟩
          have e : decide ((p : Int) < x + v) = decide ((p : Int) - x < v) := by rw [Bool.eq_iff_iff, decide_eq_true_eq, decide_eq_true_eq]; omega
          rw [e]
          first | rfl | (rw [hw]; rfl)
end Go.Proofs.Ytcgfoagfoncjiaa
