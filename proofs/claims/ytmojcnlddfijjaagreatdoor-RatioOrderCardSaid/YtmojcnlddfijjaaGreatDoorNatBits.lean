/-
  The borrow of math/bits.Sub32, and other facts on bits of words. No program, no world.
-/
import Derived.WalkKit
namespace Go.Proofs.YtmojcnlddfijjaaGreatDoor.NatMath

/-- The borrow of x - y - b. -/
def brw (x y b : Int) : Int := if x < y + b then 1 else 0
theorem brw_01 (x y b : Int) : 0 ≤ brw x y b ∧ brw x y b ≤ 1 := by unfold brw; split <;> omega

theorem top_and (a b : Nat) : (a &&& b) / 2147483648 = a / 2147483648 &&& b / 2147483648 := by
  have := Nat.shiftRight_and_distrib (a := a) (b := b) (i := 31)
  simpa [Nat.shiftRight_eq_div_pow] using this
theorem top_or (a b : Nat) : (a ||| b) / 2147483648 = a / 2147483648 ||| b / 2147483648 := by
  have := Nat.shiftRight_or_distrib (a := a) (b := b) (i := 31)
  simpa [Nat.shiftRight_eq_div_pow] using this
theorem top_xor (a b : Nat) : (a ^^^ b) / 2147483648 = a / 2147483648 ^^^ b / 2147483648 := by
  have := Nat.shiftRight_xor_distrib (a := a) (b := b) (i := 31)
  simpa [Nat.shiftRight_eq_div_pow] using this

theorem top_01 {a : Nat} (h : a < 4294967296) : a / 2147483648 = 0 ∨ a / 2147483648 = 1 := by omega

theorem lt_xor {a b : Nat} (ha : a < 4294967296) (hb : b < 4294967296) : a ^^^ b < 4294967296 := Nat.xor_lt_two_pow (n := 32) ha hb
theorem lt_and {a b : Nat} (ha : a < 4294967296) : a &&& b < 4294967296 := Nat.lt_of_le_of_lt Nat.and_le_left ha

theorem max_u32 : IntKind.u32.max = 4294967295 := by decide

theorem borrow_eq (x y b : Int) (x0 : 0 ≤ x) (x1 : x ≤ 4294967295) (y0 : 0 ≤ y) (y1 : y ≤ 4294967295) (b0 : 0 ≤ b) (b1 : b ≤ 1) :
    bits .or .u32 (bits .and .u32 (bits .xor .u32 IntKind.u32.max x) y) (bits .and .u32 (bits .xor .u32 IntKind.u32.max (bits .xor .u32 x y)) ((x - y - b) % 4294967296)) / 2147483648 = brw x y b := by
  obtain ⟨X, rfl⟩ := Int.eq_ofNat_of_zero_le x0
  obtain ⟨Y, rfl⟩ := Int.eq_ofNat_of_zero_le y0
  obtain ⟨d, hd⟩ := Int.eq_ofNat_of_zero_le (show 0 ≤ ((X : Int) - (Y : Int) - b) % 4294967296 by omega)
  have hX : X < 4294967296 := by omega
  have hY : Y < 4294967296 := by omega
  have hD : d < 4294967296 := by omega
  rw [max_u32, hd]
  have e1 : bits .xor .u32 4294967295 (X : Int) = ((4294967295 ^^^ X : Nat) : Int) := u32_xor_nat 4294967295 X (by omega) hX
  have e2 : bits .xor .u32 (X : Int) (Y : Int) = ((X ^^^ Y : Nat) : Int) := u32_xor_nat X Y hX hY
  have l2 := lt_xor hX hY
  have e3 : bits .xor .u32 4294967295 ((X ^^^ Y : Nat) : Int) = ((4294967295 ^^^ (X ^^^ Y) : Nat) : Int) := u32_xor_nat 4294967295 _ (by omega) l2
  have l1 := lt_xor (show 4294967295 < 4294967296 by omega) hX
  have l3 := lt_xor (show 4294967295 < 4294967296 by omega) l2
  rw [e1, e2, e3, u32_and_nat _ _ l1 hY, u32_and_nat _ _ l3 hD, u32_or_nat _ _ (lt_and l1) (lt_and l3)]
  have e : ((4294967295 ^^^ X) &&& Y ||| (4294967295 ^^^ (X ^^^ Y)) &&& d) / 2147483648 = ((1 ^^^ X / 2147483648) &&& Y / 2147483648) ||| ((1 ^^^ (X / 2147483648 ^^^ Y / 2147483648)) &&& d / 2147483648) := by
    rw [top_or, top_and, top_and, top_xor, top_xor, top_xor]
  have e' : (((4294967295 ^^^ X) &&& Y ||| (4294967295 ^^^ (X ^^^ Y)) &&& d : Nat) : Int) / 2147483648 = ((((1 ^^^ X / 2147483648) &&& Y / 2147483648) ||| ((1 ^^^ (X / 2147483648 ^^^ Y / 2147483648)) &&& d / 2147483648) : Nat) : Int) := by
    rw [← e]; omega
  rw [e']
  unfold brw
  rcases top_01 hX with hx | hx <;> rcases top_01 hY with hy | hy <;> rcases top_01 hD with hz | hz <;> rw [hx, hy, hz] <;> simp <;> omega
end Go.Proofs.YtmojcnlddfijjaaGreatDoor.NatMath
