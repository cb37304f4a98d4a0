/-
  Gcd: nat.gcdWords, electionref01.Gcd.
-/
import Derived.Test.YtmojcnlddfijjaaGreatDoorNatRefDiv
import Derived.Test.YtmojcnlddfijjaaGreatDoorNatHelp
import Derived.Deep.QuietTactic
import Derived.BigQuiet
namespace Go.Proofs.YtmojcnlddfijjaaGreatDoor
open Go.RowKit NatMath

set_option maxHeartbeats 1600000 in
set_option maxRecDepth 100000 in
theorem gcdWords_c (a b : Nat) (w : World) (ha : a < 18446744073709551616) (hb : b < 18446744073709551616) :
    Calls Tryz.prog 79 #[.int .u64 a, .int .u64 b] w fun e w' => e = .returned (.int .u64 (Nat.gcd a b : Nat)) ∧ Below w.heap.size w w' := by
  go_enter Tryz.func79, Tryz.ntmps79
  go_wp2_with fail
  go_loopw [0, 1] (fun s t wr => ∃ x y : Nat, Below w.heap.size w wr ∧ x < 18446744073709551616 ∧ y < 18446744073709551616 ∧ s = .int .u64 x ∧ t = .int .u64 y ∧ Hid (Nat.gcd x y = Nat.gcd a b)) (fun _ t _ => (intOf t).toNat)
  case atStart => exact ⟨a, b, Below.refl _ _, ha, hb, rfl, rfl, rfl⟩
  case round =>
    obtain ⟨x, y, hbw, hx, hy, rfl, rfl, hg⟩ := hrel
    by_cases h0 : y = 0
    · subst h0
      have e := hg.out
      rw [Nat.gcd_zero_right] at e
      have hz : (((0 : Nat) : Int) == 0) = true := by rfl
      go_wp2_with fail
      go_ret
      exact ⟨by rw [← e]; rfl, hbw⟩
    · have hz : ((y : Int) == 0) = false := by simp; omega
      have hg2 : Hid (Nat.gcd y (x % y) = Nat.gcd a b) := by
        show Nat.gcd y (x % y) = Nat.gcd a b
        rw [← hg.out, Nat.gcd_comm x y, Nat.gcd_rec y x, Nat.gcd_comm]
      have hm := Nat.mod_lt x (Nat.pos_of_ne_zero h0)
      go_wp2_with fail
      go_quiet (fail)
      go_wp2_with fail
      go_roundw
      case rel => exact ⟨y, x % y, below_drewN hbw nq, hy, by omega, rfl, by go_num, hg2⟩
      case measure => simp [intOf]; omega
end Go.Proofs.YtmojcnlddfijjaaGreatDoor
