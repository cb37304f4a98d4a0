/-
  The library's small functions on words: Add32, Sub32, Div32, Compare, Len32, LeadingZeros32.
-/
import Derived.Test.YtmojcnlddfijjaaGreatDoorNatBase
import Derived.BigQuiet
import Derived.Test.YtmojcnlddfijjaaGreatDoorNatBits
import Derived.Outline
namespace Go.Proofs.YtmojcnlddfijjaaGreatDoor
open Go.RowKit NatMath

theorem add32_c (x y b : Int) (w : World) (x0 : 0 ≤ x) (x1 : x ≤ 4294967295) (y0 : 0 ≤ y) (y1 : y ≤ 4294967295) (b0 : 0 ≤ b) (b1 : b ≤ 4294967295) :
    Calls Tryz.prog 81 #[.int .u32 x, .int .u32 y, .int .u32 b] w fun e w' => e = .returned (.tuple #[.int .u32 ((x + y + b) % 4294967296), .int .u32 ((x + y + b) / 4294967296)]) ∧ w = w' := by
  go_enter Tryz.func81, Tryz.ntmps81
  go_wp2
  go_ret2
  exact ⟨rfl, rfl⟩

theorem sub32_c (x y b : Int) (w : World) (x0 : 0 ≤ x) (x1 : x ≤ 4294967295) (y0 : 0 ≤ y) (y1 : y ≤ 4294967295) (b0 : 0 ≤ b) (b1 : b ≤ 1) :
    Calls Tryz.prog 82 #[.int .u32 x, .int .u32 y, .int .u32 b] w fun e w' => e = .returned (.tuple #[.int .u32 ((x - y - b) % 4294967296), .int .u32 (brw x y b)]) ∧ w = w' := by
  have hb := Lib.hid (borrow_eq x y b x0 x1 y0 y1 b0 b1)
  go_enter Tryz.func82, Tryz.ntmps82
  go_wp2
  go_ret2
  refine ⟨?_, rfl⟩
  rw [← hb.out]
  rfl

theorem or_u64 (h l : Int) (h0 : 0 ≤ h) (h1 : h ≤ 4294967295) (l0 : 0 ≤ l) (l1 : l ≤ 4294967295) : bits .or .u64 (h * 4294967296) l = h * 4294967296 + l := by
  rw [u64_or _ _ (by omega) (by omega) l0 (by omega), nat_join 32 _ _ (by omega) (by omega)]
  omega

theorem div32_q (h l y : Int) (h0 : 0 ≤ h) (h1 : h < y) (l0 : 0 ≤ l) (l1 : l ≤ 4294967295) (y1 : y ≤ 4294967295) :
    (h * 4294967296 + l) / y % 4294967296 = (h * 4294967296 + l) / y ∧ (h * 4294967296 + l) % y % 4294967296 = (h * 4294967296 + l) % y := by
  have a := Int.ediv_nonneg (a := h * 4294967296 + l) (b := y) (by omega) (by omega)
  have b : (h * 4294967296 + l) / y < 4294967296 := Int.ediv_lt_of_lt_mul (by omega) (by omega)
  have c := Int.emod_nonneg (h * 4294967296 + l) (b := y) (by omega)
  have d := Int.emod_lt_of_pos (h * 4294967296 + l) (b := y) (by omega)
  constructor <;> omega

theorem div32_c (h l y : Int) (w : World) (h0 : 0 ≤ h) (h1 : h < y) (l0 : 0 ≤ l) (l1 : l ≤ 4294967295) (y1 : y ≤ 4294967295) :
    Calls Tryz.prog 87 #[.int .u32 h, .int .u32 l, .int .u32 y] w fun e w' => e = .returned (.tuple #[.int .u32 ((h * 4294967296 + l) / y), .int .u32 ((h * 4294967296 + l) % y)]) ∧ ∃ q, w.drewN q = w' := by
  have hy : (y == 0) = false := by simp; omega
  have hd : decide (y ≤ h) = false := by simp; omega
  have ho := or_u64 h l h0 (by omega) l0 l1
  have hq := Lib.hid (div32_q h l y h0 h1 l0 l1 y1)
  go_enter Tryz.func87, Tryz.ntmps87
  go_wp2
  go_quiet (fail)
  go_wp2
  go_ret2
  refine ⟨?_, _, rfl⟩
  show Ending.returned (.tuple #[.int .u32 ((h * 4294967296 + l) / y % 4294967296), .int .u32 ((h * 4294967296 + l) % y % 4294967296)]) = _
  rw [hq.out.1, hq.out.2]

theorem isNaN_int_c (x : Int) (w : World) : Calls Tryz.prog 89 #[.int .i64 x] w fun e w' => e = .returned (.bool false) ∧ w = w' := by
  go_enter Tryz.func89, Tryz.ntmps89
  go_wp2
  go_ret
  exact ⟨by simp, rfl⟩
theorem isNaN_u32_c (x : Int) (w : World) : Calls Tryz.prog 90 #[.int .u32 x] w fun e w' => e = .returned (.bool false) ∧ w = w' := by
  go_enter Tryz.func90, Tryz.ntmps90
  go_wp2
  go_ret
  exact ⟨by simp, rfl⟩

theorem cmp_int_c (x y : Int) (w : World) : Calls Tryz.prog 76 #[.int .i64 x, .int .i64 y] w fun e w' => e = .returned (.int .i64 (cmpI x y)) ∧ w = w' := by
  by_cases h1 : x < y
  · go_enter Tryz.func76, Tryz.ntmps76
    go_wp2_with (first | (go_at_call 89; refine (isNaN_int_c _ _).mono ?_; rintro e w' ⟨rfl, rfl⟩))
    go_ret
    exact ⟨by simp [cmpI, h1], rfl⟩
  · by_cases h2 : y < x
    · go_enter Tryz.func76, Tryz.ntmps76
      go_wp2_with (first | (go_at_call 89; refine (isNaN_int_c _ _).mono ?_; rintro e w' ⟨rfl, rfl⟩))
      go_ret
      exact ⟨by simp [cmpI, h1, h2], rfl⟩
    · have hc : cmpI x y = 0 := by unfold cmpI; rw [if_neg h1, if_neg h2]
      have HC := Lib.hid hc; clear hc
      go_enter Tryz.func76, Tryz.ntmps76
      go_wp2_with (first | (go_at_call 89; refine (isNaN_int_c _ _).mono ?_; rintro e w' ⟨rfl, rfl⟩))
      go_ret
      exact ⟨by rw [HC.out]; rfl, rfl⟩
theorem cmp_u32_c (x y : Int) (w : World) : Calls Tryz.prog 77 #[.int .u32 x, .int .u32 y] w fun e w' => e = .returned (.int .i64 (cmpI x y)) ∧ w = w' := by
  by_cases h1 : x < y
  · go_enter Tryz.func77, Tryz.ntmps77
    go_wp2_with (first | (go_at_call 90; refine (isNaN_u32_c _ _).mono ?_; rintro e w' ⟨rfl, rfl⟩))
    go_ret
    exact ⟨by simp [cmpI, h1], rfl⟩
  · by_cases h2 : y < x
    · go_enter Tryz.func77, Tryz.ntmps77
      go_wp2_with (first | (go_at_call 90; refine (isNaN_u32_c _ _).mono ?_; rintro e w' ⟨rfl, rfl⟩))
      go_ret
      exact ⟨by simp [cmpI, h1, h2], rfl⟩
    · have hc : cmpI x y = 0 := by unfold cmpI; rw [if_neg h1, if_neg h2]
      have HC := Lib.hid hc; clear hc
      go_enter Tryz.func77, Tryz.ntmps77
      go_wp2_with (first | (go_at_call 90; refine (isNaN_u32_c _ _).mono ?_; rintro e w' ⟨rfl, rfl⟩))
      go_ret
      exact ⟨by rw [HC.out]; rfl, rfl⟩
end Go.Proofs.YtmojcnlddfijjaaGreatDoor
