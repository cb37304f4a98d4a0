/-
  What the walks of the laws share: bounds of numbers, and Eq of two equal lists.
-/
import Derived.Test.YtmojcnlddfijjaaGreatDoorNatBase
import Derived.Test.YtmojcnlddfijjaaGreatDoorNatText
import Derived.Test.YtmojcnlddfijjaaGreatDoorNatSub
import Derived.Test.YtmojcnlddfijjaaGreatDoorNatMul
import Derived.Test.YtmojcnlddfijjaaGreatDoorNatRefAdd
namespace Go.Proofs.YtmojcnlddfijjaaGreatDoor
open Go.RowKit NatMath

/-- Eq of two equal lists. -/
theorem eq_same (ao bo : Option Addr) (n c m d : Nat) (xs ys : List Int) (w : World) (h : Lst .u32 w ao n c xs) (k : Lst .u32 w bo m d ys) (he : xs = ys) :
    Calls Tryz.prog 40 #[.slice ao n c, .slice bo m d] w fun e w' => e = .returned (.bool true) ∧ ∃ q, w.drewN q = w' := by
  have := eq_c ao bo n c m d xs ys w h k
  rw [he] at this
  simpa using this

theorem val_lt_two {X : List Int} (h : Ok X) {n k : Nat} (hl : X.length = n) (hk : n ≤ k) : val X < 2 ^ (32 * k) := by
  have h1 := val_lt h
  have h2 : 4294967296 ^ X.length ≤ 4294967296 ^ k := Nat.pow_le_pow_right (by omega) (by omega)
  rw [Nat.pow_mul, show (2 ^ 32 : Nat) = 4294967296 by decide]
  omega
theorem OwnT.bound {B : Nat} {w : World} {ao : Option Addr} {n c v k : Nat} (h : OwnT B w ao n c (bitsN v)) (hv : v < 2 ^ k) : n ≤ k := by
  have h1 := bitsN_length v k hv
  have h2 := h.len
  omega

theorem two_add {a b k : Nat} (ha : a < 2 ^ k) (hb : b < 2 ^ k) : a + b < 2 ^ (k + 1) := by rw [Nat.pow_succ]; omega

theorem sum_bound {a b k : Nat} (ha : a < 2 ^ k) (hb : b < 2 ^ k) : ∃ K, K ≤ k + 1 ∧ Hid (a + b < 2 ^ K) := ⟨k + 1, Nat.le_refl _, two_add ha hb⟩
theorem mul_lt_two {a b k l : Nat} (ha : a < 2 ^ k) (hb : b < 2 ^ l) : a * b < 2 ^ (k + l) := by rw [Nat.pow_add]; exact Nat.mul_lt_mul'' ha hb
end Go.Proofs.YtmojcnlddfijjaaGreatDoor
