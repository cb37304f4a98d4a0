/-
  The functions on words: rotations, the four sigmas, choose, majority; the reference's rot.
-/
import Derived.Test.YtgomconcfjllcaaDoorDigBase
namespace Go.Proofs.YtgomconcfjllcaaDoor
open Go.RowKit

namespace Dig
theorem lt_xor {a b : Nat} (ha : a < 4294967296) (hb : b < 4294967296) : a ^^^ b < 4294967296 := Nat.xor_lt_two_pow (n := 32) ha hb
theorem lt_or {a b : Nat} (ha : a < 4294967296) (hb : b < 4294967296) : a ||| b < 4294967296 := Nat.or_lt_two_pow (n := 32) ha hb
theorem lt_and {a b : Nat} (ha : a < 4294967296) : a &&& b < 4294967296 := Nat.lt_of_le_of_lt Nat.and_le_left ha
theorem div_lt {x n : Nat} (hx : x < 4294967296) : x / 2 ^ n < 4294967296 := Nat.lt_of_le_of_lt (Nat.div_le_self _ _) hx
theorem rotN_lt {x n : Nat} (hx : x < 4294967296) : rotN x n < 4294967296 := lt_or (div_lt hx) (Nat.mod_lt _ (by omega))
theorem bs0_lt {x : Nat} (hx : x < 4294967296) : bs0 x < 4294967296 := lt_xor (lt_xor (rotN_lt hx) (rotN_lt hx)) (rotN_lt hx)
theorem bs1_lt {x : Nat} (hx : x < 4294967296) : bs1 x < 4294967296 := lt_xor (lt_xor (rotN_lt hx) (rotN_lt hx)) (rotN_lt hx)
theorem ss0_lt {x : Nat} (hx : x < 4294967296) : ss0 x < 4294967296 := lt_xor (lt_xor (rotN_lt hx) (rotN_lt hx)) (by omega)
theorem ss1_lt {x : Nat} (hx : x < 4294967296) : ss1 x < 4294967296 := lt_xor (lt_xor (rotN_lt hx) (rotN_lt hx)) (by omega)
theorem chN_lt {x y z : Nat} (hx : x < 4294967296) : chN x y z < 4294967296 := lt_xor (lt_and hx) (lt_and (by omega))
theorem majN_lt {x y z : Nat} (hx : x < 4294967296) (hy : y < 4294967296) : majN x y z < 4294967296 := lt_xor (lt_xor (lt_and hx) (lt_and hx)) (lt_and hy)

theorem ones_xor (x : Nat) (hx : x < 4294967296) : 4294967295 ^^^ x = 4294967295 - x := by
  have h := congrArg BitVec.toNat (BitVec.allOnes_xor (x := BitVec.ofNat 32 x))
  rw [BitVec.toNat_xor, BitVec.toNat_not, BitVec.toNat_allOnes, BitVec.toNat_ofNat, Nat.mod_eq_of_lt (by omega)] at h
  simpa using h
theorem not_eq (x : Nat) (hx : x < 4294967296) : bits .xor .u32 IntKind.u32.max (x : Int) = ((4294967295 - x : Nat) : Int) := by
  rw [show IntKind.u32.max = ((4294967295 : Nat) : Int) by decide, u32_xor_nat _ _ (by omega) hx, ones_xor x hx]
theorem rot_or (x n : Nat) (hx : x < 4294967296) : bits .or .u32 ((x : Int) / 2 ^ n) ((x : Int) * 2 ^ (32 - n) % 4294967296) = (rotN x n : Nat) := by
  have e1 : (x : Int) / 2 ^ n = ((x / 2 ^ n : Nat) : Int) := by simp
  have e2 : (x : Int) * 2 ^ (32 - n) % 4294967296 = ((x * 2 ^ (32 - n) % 4294967296 : Nat) : Int) := by simp
  rw [e1, e2, u32_or_nat _ _ (div_lt hx) (Nat.mod_lt _ (by omega))]
  rfl
theorem rot_or' (x n : Nat) (hx : x < 4294967296) : bits .or .u32 ((x : Int) * 2 ^ (32 - n) % 4294967296) ((x : Int) / 2 ^ n) = (rotN x n : Nat) := by
  have e1 : (x : Int) / 2 ^ n = ((x / 2 ^ n : Nat) : Int) := by simp
  have e2 : (x : Int) * 2 ^ (32 - n) % 4294967296 = ((x * 2 ^ (32 - n) % 4294967296 : Nat) : Int) := by simp
  rw [e1, e2, u32_or_nat _ _ (Nat.mod_lt _ (by omega)) (div_lt hx), Nat.or_comm]
  rfl
theorem neg_and (n : Nat) (h1 : 1 ≤ n) (h2 : n ≤ 31) : bits .and .u64 (IntKind.u64.wrap (-(n : Int))) 31 = ((32 - n : Nat) : Int) := by
  have e : IntKind.u64.wrap (-(n : Int)) = ((18446744073709551616 - n : Nat) : Int) := by
    simp [IntKind.wrap, IntKind.bits, IntKind.signed]
    omega
  rw [e]
  have := u64_and_nat (18446744073709551616 - n) 31 (by omega) (by omega)
  rw [nat_mask5] at this
  rw [show (31 : Int) = ((31 : Nat) : Int) from rfl, this]
  omega
end Dig
open Dig

theorem ret_u32 {a b : Int} (h : a = b) : Ending.returned (.int .u32 a) = .returned (.int .u32 b) := by rw [h]

theorem rl_c (x n : Nat) (i : Int) (hi : i = n) (w : World) (hx : x ≤ 4294967295) (h1 : 1 ≤ n) (h2 : n ≤ 31) :
    Calls Tryd.prog 48 #[.int .u32 (x : Int), .int .i64 (-i)] w fun e w' => e = .returned (.int .u32 (rotN x n : Nat)) ∧ w = w' := by
  have hn := neg_and n h1 h2
  subst hi
  obtain ⟨s, hs⟩ : ∃ s, Hid (s = 32 - n) := ⟨_, rfl⟩
  rw [← hs.out] at hn
  have hs1 : 1 ≤ s := by rw [hs.out]; omega
  have hs2 : s ≤ 31 := by rw [hs.out]; omega
  have HR := Lib.hid (rot_or' x n (by omega))
  go_enter Tryd.func48, Tryd.ntmps48
  go_wp2
  go_ret
  refine ⟨ret_u32 ?_, rfl⟩
  rw [← HR.out, ← hs.out, show 32 - s = n by rw [hs.out]; omega]
theorem rotate_c (x n : Nat) (i : Int) (hi : i = n) (w : World) (hx : x ≤ 4294967295) (h1 : 1 ≤ n) (h2 : n ≤ 31) :
    Calls Tryd.prog 47 #[.int .u32 (x : Int), .int .i64 i] w fun e w' => e = .returned (.int .u32 (rotN x n : Nat)) ∧ w = w' := by
  have HI := Lib.hid hi
  have hi1 : 1 ≤ i := by omega
  have hi2 : i ≤ 31 := by omega
  clear hi
  go_enter Tryd.func47, Tryd.ntmps47
  go_wp2_with (first | (go_at_call 48; refine (rl_c x n i HI.out _ hx h1 h2).mono ?_; rintro e w' ⟨rfl, rfl⟩))
  go_ret
  exact ⟨rfl, rfl⟩
theorem rot_c (x n : Nat) (i : Int) (hi : i = n) (w : World) (hx : x ≤ 4294967295) (h1 : 1 ≤ n) (h2 : n ≤ 31) :
    Calls Tryd.prog 38 #[.int .u32 (x : Int), .int .u64 i] w fun e w' => e = .returned (.int .u32 (rotN x n : Nat)) ∧ w = w' := by
  subst hi
  have HR := Lib.hid (rot_or x n (by omega))
  go_enter Tryd.func38, Tryd.ntmps38
  go_wp2
  go_ret
  exact ⟨ret_u32 HR.out, rfl⟩
theorem choose_c (x y z : Nat) (w : World) (hx : x ≤ 4294967295) (hy : y ≤ 4294967295) (hz : z ≤ 4294967295) :
    Calls Tryd.prog 44 #[.int .u32 (x : Int), .int .u32 (y : Int), .int .u32 (z : Int)] w fun e w' => e = .returned (.int .u32 (chN x y z : Nat)) ∧ w = w' := by
  have HN := Lib.hid (not_eq x (by omega))
  go_enter Tryd.func44, Tryd.ntmps44
  go_wp2
  go_ret
  refine ⟨ret_u32 ?_, rfl⟩
  rw [HN.out, u32_and_nat _ _ (by omega) (by omega), u32_and_nat _ _ (by omega) (by omega), u32_xor_nat _ _ (lt_and (by omega)) (lt_and (by omega))]
  rfl
theorem majority_c (x y z : Nat) (w : World) (hx : x ≤ 4294967295) (hy : y ≤ 4294967295) (hz : z ≤ 4294967295) :
    Calls Tryd.prog 46 #[.int .u32 (x : Int), .int .u32 (y : Int), .int .u32 (z : Int)] w fun e w' => e = .returned (.int .u32 (majN x y z : Nat)) ∧ w = w' := by
  go_enter Tryd.func46, Tryd.ntmps46
  go_wp2
  go_ret
  refine ⟨ret_u32 ?_, rfl⟩
  rw [u32_and_nat _ _ (by omega) (by omega), u32_and_nat _ _ (by omega) (by omega), u32_and_nat _ _ (by omega) (by omega), u32_xor_nat _ _ (lt_and (by omega)) (lt_and (by omega)), u32_xor_nat _ _ (lt_xor (lt_and (by omega)) (lt_and (by omega))) (lt_and (by omega))]
  rfl
theorem bs0_c (x : Nat) (w : World) (hx : x ≤ 4294967295) :
    Calls Tryd.prog 45 #[.int .u32 (x : Int)] w fun e w' => e = .returned (.int .u32 (bs0 x : Nat)) ∧ w = w' := by
  go_enter Tryd.func45, Tryd.ntmps45
  go_wp2_with (first | (go_at_call 47; (with_reducible refine (rotate_c x 2 2 rfl _ hx (by omega) (by omega)).mono ?_); rintro e w' ⟨rfl, rfl⟩) | (go_at_call 47; (with_reducible refine (rotate_c x 13 13 rfl _ hx (by omega) (by omega)).mono ?_); rintro e w' ⟨rfl, rfl⟩) | (go_at_call 47; (with_reducible refine (rotate_c x 22 22 rfl _ hx (by omega) (by omega)).mono ?_); rintro e w' ⟨rfl, rfl⟩))
  go_ret
  refine ⟨ret_u32 ?_, rfl⟩
  rw [u32_xor_nat _ _ (rotN_lt (by omega)) (rotN_lt (by omega)), u32_xor_nat _ _ (lt_xor (rotN_lt (by omega)) (rotN_lt (by omega))) (rotN_lt (by omega))]
  rfl
theorem bs1_c (x : Nat) (w : World) (hx : x ≤ 4294967295) :
    Calls Tryd.prog 43 #[.int .u32 (x : Int)] w fun e w' => e = .returned (.int .u32 (bs1 x : Nat)) ∧ w = w' := by
  go_enter Tryd.func43, Tryd.ntmps43
  go_wp2_with (first | (go_at_call 47; (with_reducible refine (rotate_c x 6 6 rfl _ hx (by omega) (by omega)).mono ?_); rintro e w' ⟨rfl, rfl⟩) | (go_at_call 47; (with_reducible refine (rotate_c x 11 11 rfl _ hx (by omega) (by omega)).mono ?_); rintro e w' ⟨rfl, rfl⟩) | (go_at_call 47; (with_reducible refine (rotate_c x 25 25 rfl _ hx (by omega) (by omega)).mono ?_); rintro e w' ⟨rfl, rfl⟩))
  go_ret
  refine ⟨ret_u32 ?_, rfl⟩
  rw [u32_xor_nat _ _ (rotN_lt (by omega)) (rotN_lt (by omega)), u32_xor_nat _ _ (lt_xor (rotN_lt (by omega)) (rotN_lt (by omega))) (rotN_lt (by omega))]
  rfl
theorem ss0_c (x : Nat) (w : World) (hx : x ≤ 4294967295) :
    Calls Tryd.prog 42 #[.int .u32 (x : Int)] w fun e w' => e = .returned (.int .u32 (ss0 x : Nat)) ∧ w = w' := by
  go_enter Tryd.func42, Tryd.ntmps42
  go_wp2_with (first | (go_at_call 47; (with_reducible refine (rotate_c x 7 7 rfl _ hx (by omega) (by omega)).mono ?_); rintro e w' ⟨rfl, rfl⟩) | (go_at_call 47; (with_reducible refine (rotate_c x 18 18 rfl _ hx (by omega) (by omega)).mono ?_); rintro e w' ⟨rfl, rfl⟩))
  go_ret
  refine ⟨ret_u32 ?_, rfl⟩
  rw [u32_xor_nat _ _ (rotN_lt (by omega)) (rotN_lt (by omega)), show (x : Int) / 8 = ((x / 8 : Nat) : Int) by simp, u32_xor_nat _ _ (lt_xor (rotN_lt (by omega)) (rotN_lt (by omega))) (by omega)]
  rfl
theorem ss1_c (x : Nat) (w : World) (hx : x ≤ 4294967295) :
    Calls Tryd.prog 41 #[.int .u32 (x : Int)] w fun e w' => e = .returned (.int .u32 (ss1 x : Nat)) ∧ w = w' := by
  go_enter Tryd.func41, Tryd.ntmps41
  go_wp2_with (first | (go_at_call 47; (with_reducible refine (rotate_c x 17 17 rfl _ hx (by omega) (by omega)).mono ?_); rintro e w' ⟨rfl, rfl⟩) | (go_at_call 47; (with_reducible refine (rotate_c x 19 19 rfl _ hx (by omega) (by omega)).mono ?_); rintro e w' ⟨rfl, rfl⟩))
  go_ret
  refine ⟨ret_u32 ?_, rfl⟩
  rw [u32_xor_nat _ _ (rotN_lt (by omega)) (rotN_lt (by omega)), show (x : Int) / 1024 = ((x / 1024 : Nat) : Int) by simp, u32_xor_nat _ _ (lt_xor (rotN_lt (by omega)) (rotN_lt (by omega))) (by omega)]
  rfl
end Go.Proofs.YtgomconcfjllcaaDoor
