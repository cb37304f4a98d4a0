/-
  fixed.scale, fixed.divide, fixed.Of, fixed.Mul, fixed.Div.
-/
import Derived.Test.YtmojcnlddfijjaaDoorNatHelp2
import Derived.Test.YtmojcnlddfijjaaDoorNatMul
import Derived.Test.YtmojcnlddfijjaaDoorNatPow10
namespace Go.Proofs.YtmojcnlddfijjaaDoor
open Go.RowKit NatMath

/-- The quotient, rounded. -/
def rnd (up : Bool) (x y : Nat) : Nat := x / y + if up = true ∧ x % y ≠ 0 then 1 else 0

theorem limbs_len_pos1 {r : Nat} (h : r ≠ 0) : 0 < (limbs r).length := by
  rw [limbs_pos h]; simp

set_option maxHeartbeats 800000 in
theorem scale_c (D : Nat) (w : World) (hD : D ≤ 6) :
    Calls Tryd.prog 51 #[.int .i64 D] w fun e w' => ∃ a n c, n ≤ 62 ∧ e = .returned (.tuple #[.slice a n c, .bool true]) ∧ Own 77 .u32 w.heap.size w' a n c (limbs (10 ^ D)) ∧ Below w.heap.size w w' := by
  have hp := pow10_c (D : Int) w
  have e : pow10 (D : Int) = 10 ^ D := by unfold pow10; rw [if_pos ⟨by omega, by omega⟩]; rfl
  rw [e] at hp
  have HP := Lib.hid hp
  clear hp e
  have d1 : decide ((D : Int) < 0) = false := by simp
  have d2 : decide ((6 : Int) < (D : Int)) = false := by simp; omega
  go_enter Tryd.func51, Tryd.ntmps51
  go_wp2_with fail
  refine HP.out.mono ?_
  rintro e w1 ⟨a, n, c, hn, rfl, o, b⟩
  go_wp2_with fail
  go_ret2
  exact ⟨a, n, c, hn, rfl, o, b⟩

set_option maxHeartbeats 800000 in
theorem scale_no_c (d : Int) (w : World) (hd : d < 0 ∨ 6 < d) :
    Calls Tryd.prog 51 #[.int .i64 d] w fun e w' => e = .returned (.tuple #[.slice none 0 0, .bool false]) ∧ w = w' := by
  by_cases h : d < 0
  · have d1 : decide (d < 0) = true := by simpa using h
    clear hd h
    go_enter Tryd.func51, Tryd.ntmps51
    go_wp2_with fail
    go_ret2
    exact ⟨rfl, rfl⟩
  · have d1 : decide (d < 0) = false := by simpa using h
    have d2 : decide (6 < d) = true := by simp; omega
    clear hd h
    go_enter Tryd.func51, Tryd.ntmps51
    go_wp2_with fail
    go_ret2
    exact ⟨rfl, rfl⟩

set_option maxHeartbeats 1600000 in
theorem divide_zero_c (ao bo : Option Addr) (n c m d : Nat) (ys : List Int) (up : Bool) (w : World) (k : Lst .u32 w bo m d ys) (hy : val ys = 0) :
    Calls Tryd.prog 52 #[.slice ao n c, .slice bo m d, .bool up] w fun e w' => e = .returned (.tuple #[.slice none 0 0, .bool false]) ∧ w = w' := by
  have HD := Lib.hid (div_zero_c ao bo n c m d ys w k hy)
  clear k hy
  cases up with
  | false =>
    go_enter Tryd.func52, Tryd.ntmps52
    go_wp2_with fail
    refine HD.out.mono ?_
    rintro e w' ⟨rfl, rfl⟩
    go_wp2_with fail
    go_ret2
    exact ⟨rfl, rfl⟩
  | true =>
    go_enter Tryd.func52, Tryd.ntmps52
    go_wp2_with fail
    refine HD.out.mono ?_
    rintro e w' ⟨rfl, rfl⟩
    go_wp2_with fail
    go_ret2
    exact ⟨rfl, rfl⟩

set_option maxHeartbeats 1600000 in
theorem divide_c (ao bo : Option Addr) (n c m d : Nat) (xs ys : List Int) (up : Bool) (w : World) (h : Lst .u32 w ao n c xs) (k : Lst .u32 w bo m d ys) (hn : n ≤ 1073741820) (hy : val ys ≠ 0) :
    Calls Tryd.prog 52 #[.slice ao n c, .slice bo m d, .bool up] w fun e w' => ∃ a n' c', e = .returned (.tuple #[.slice a n' c', .bool true]) ∧ n' ≤ n + 2 ∧ Own 77 .u32 w.heap.size w' a n' c' (limbs (rnd up (val xs) (val ys))) ∧ Below w.heap.size w w' := by
  obtain ⟨Q, hQ⟩ : ∃ Q, Hid (Q = val xs / val ys) := ⟨_, rfl⟩
  obtain ⟨R, hR⟩ : ∃ R, Hid (R = val xs % val ys) := ⟨_, rfl⟩
  have hq : (limbs Q).length ≤ n := by
    rw [hQ.out, ← h.len]
    exact Nat.le_trans (limbs_len_mono (Nat.div_le_self _ _)) (limbs_val_length h.ok)
  have hrnd : rnd up (val xs) (val ys) = Q + if up = true ∧ R ≠ 0 then 1 else 0 := by rw [hQ.out, hR.out]; rfl
  have hd := div_c ao bo n c m d xs ys w h k hn hy
  rw [← hQ.out, ← hR.out] at hd
  rw [hrnd]
  have HD := Lib.hid hd
  have HQ := Lib.hid hq
  clear hd hq hrnd h k hy
  by_cases hr : R = 0
  · have e0 : (Q + if up = true ∧ R ≠ 0 then 1 else 0) = Q := by rw [if_neg (fun hh => hh.2 hr)]; rfl
    rw [e0]
    clear e0
    have h0 : (limbs R).length = 0 := by rw [hr, limbs_zero]; rfl
    have H0 := Lib.hid h0
    clear h0 hr
    cases up with
    | false =>
      go_enter Tryd.func52, Tryd.ntmps52
      go_wp2_with fail
      refine HD.out.mono ?_
      rintro e w1 ⟨a1, n1, c1, a2, n2, c2, rfl, o1, o2, b1⟩
      go_wp2_with fail
      go_ret2
      exact ⟨a1, n1, c1, rfl, by have := o1.len; have := HQ.out; omega, o1, b1⟩
    | true =>
      go_enter Tryd.func52, Tryd.ntmps52
      go_wp2_with fail
      refine HD.out.mono ?_
      rintro e w1 ⟨a1, n1, c1, a2, n2, c2, rfl, o1, o2, b1⟩
      obtain rfl : n2 = 0 := by rw [← o2.len]; exact H0.out
      go_wp2_with fail
      go_ret2
      exact ⟨a1, n1, c1, rfl, by have := o1.len; have := HQ.out; omega, o1, b1⟩
  · have HR := Lib.hid (limbs_len_pos1 hr)
    cases up with
    | false =>
      rw [if_neg (by simp)]
      clear hr
      go_enter Tryd.func52, Tryd.ntmps52
      go_wp2_with fail
      refine HD.out.mono ?_
      rintro e w1 ⟨a1, n1, c1, a2, n2, c2, rfl, o1, o2, b1⟩
      go_wp2_with fail
      go_ret2
      exact ⟨a1, n1, c1, rfl, by have := o1.len; have := HQ.out; omega, o1, b1⟩
    | true =>
      rw [if_pos ⟨rfl, hr⟩]
      clear hr
      go_enter Tryd.func52, Tryd.ntmps52
      go_wp2_with fail
      refine HD.out.mono ?_
      rintro e w1 ⟨a1, n1, c1, a2, n2, c2, rfl, o1, o2, b1⟩
      have hn2 : 0 < n2 := by rw [← o2.len]; exact HR.out
      have hn1 : n1 ≤ n := by rw [← o1.len]; exact HQ.out
      have O1 := Lib.hid o1; have B1 := Lib.hid b1
      clear o1 o2 b1 HD HQ HR
      go_wp2_with fail
      refine (of_c 1 _ (by omega) (by omega)).mono ?_
      rintro e w2 ⟨a3, n3, c3, hn3, rfl, o3, b3⟩
      have hlen3 : n3 ≤ 1 := by rw [← o3.len, show Int.toNat 1 = 1 from rfl, limbs_one]; decide
      have O3 := Lib.hid o3; have B3 := Lib.hid (B1.out.trans (b3.mono B1.out.size)); have O4 := Lib.hid (O1.out.kept b3)
      have ha := add_c a1 a3 n1 c1 n3 c3 _ _ w2 O4.out.lst O3.out.lst (by omega) (by omega)
      rw [val_limbs, val_limbs, show Int.toNat 1 = 1 from rfl] at ha
      have HA := Lib.hid ha
      clear ha o3 b3
      go_wp2_with fail
      refine HA.out.mono ?_
      rintro e w3 ⟨a5, n5, c5, rfl, hn5, o5, b5⟩
      go_wp2_with fail
      go_ret2
      exact ⟨a5, n5, c5, rfl, by omega, o5.low B3.out.size, B3.out.trans (b5.mono B3.out.size)⟩

set_option maxHeartbeats 1600000 in
theorem fof_c (x : Int) (D : Nat) (w : World) (h0 : 0 ≤ x) (h1 : x ≤ 18446744073709551615) (hD : D ≤ 6) :
    Calls Tryd.prog 37 #[.int .u64 x, .int .i64 D] w fun e w' => ∃ a n c, n ≤ 64 ∧ e = .returned (.slice a n c) ∧ Own 77 .u32 w.heap.size w' a n c (limbs (x.toNat * 10 ^ D)) ∧ Below w.heap.size w w' := by
  have HS := Lib.hid (scale_c D w hD)
  clear hD
  go_enter Tryd.func37, Tryd.ntmps37
  go_wp2_with fail
  refine HS.out.mono ?_
  rintro e w1 ⟨a1, n1, c1, hn1, rfl, o1, b1⟩
  have O1 := Lib.hid o1; have B1 := Lib.hid b1
  clear o1 b1 HS
  go_wp2_with fail
  refine (of_c x _ h0 h1).mono ?_
  rintro e w2 ⟨a2, n2, c2, hn2, rfl, o2, b2⟩
  have hm := mul_c a2 a1 n2 c2 n1 c1 _ _ w2 o2.lst (O1.out.kept b2).lst (by omega) (by omega)
  rw [val_limbs, val_limbs] at hm
  have HM := Lib.hid hm
  have B2 := Lib.hid (B1.out.trans (b2.mono B1.out.size))
  clear hm o2 b2
  go_wp2_with fail
  refine HM.out.mono ?_
  rintro e w3 ⟨a3, n3, c3, rfl, hn3, o3, b3⟩
  go_wp2_with fail
  go_ret
  exact ⟨a3, n3, c3, by omega, rfl, o3.low B2.out.size, B2.out.trans (b3.mono B2.out.size)⟩

theorem fof_no_c (x d : Int) (w : World) (hd : d < 0 ∨ 6 < d) :
    Calls Tryd.prog 37 #[.int .u64 x, .int .i64 d] w fun e w' => e = .returned (.slice none 0 0) ∧ w = w' := by
  have HS := Lib.hid (scale_no_c d w hd)
  clear hd
  go_enter Tryd.func37, Tryd.ntmps37
  go_wp2_with fail
  refine HS.out.mono ?_
  rintro e w1 ⟨rfl, rfl⟩
  go_wp2_with fail
  go_ret
  exact ⟨rfl, rfl⟩

set_option maxHeartbeats 1600000 in
theorem fmul_c (ao bo : Option Addr) (n c m d : Nat) (xs ys : List Int) (D : Nat) (up : Bool) (w : World) (h : Lst .u32 w ao n c xs) (k : Lst .u32 w bo m d ys) (hn : n ≤ 1000000) (hm : m ≤ 1000000) (hD : D ≤ 6) :
    Calls Tryd.prog 23 #[.slice ao n c, .slice bo m d, .int .i64 D, .bool up] w fun e w' => ∃ a n' c', n' ≤ n + m + 2 ∧ e = .returned (.slice a n' c') ∧ Own 77 .u32 w.heap.size w' a n' c' (limbs (rnd up (val xs * val ys) (10 ^ D))) ∧ Below w.heap.size w w' := by
  have HS := Lib.hid (scale_c D w hD)
  have H := Lib.hid h; have K := Lib.hid k
  clear hD h k
  go_enter Tryd.func23, Tryd.ntmps23
  go_wp2_with fail
  refine HS.out.mono ?_
  rintro e w1 ⟨a1, n1, c1, hn1, rfl, o1, b1⟩
  have O1 := Lib.hid o1; have B1 := Lib.hid b1
  clear o1 b1 HS
  go_wp2_with fail
  refine (mul_c ao bo n c m d xs ys w1 (H.out.below B1.out) (K.out.below B1.out) (by omega) (by omega)).mono ?_
  rintro e w2 ⟨a2, n2, c2, rfl, hn2, o2, b2⟩
  have hd := divide_c a2 a1 n2 c2 n1 c1 _ _ up w2 o2.lst (O1.out.kept b2).lst (by omega) (by rw [val_limbs]; exact Nat.pos_iff_ne_zero.1 (Nat.pow_pos (by omega)))
  rw [val_limbs, val_limbs] at hd
  have HD := Lib.hid hd
  have B2 := Lib.hid (B1.out.trans (b2.mono B1.out.size))
  clear hd o2 b2
  go_wp2_with fail
  refine HD.out.mono ?_
  rintro e w3 ⟨a3, n3, c3, rfl, hn3, o3, b3⟩
  go_wp2_with fail
  go_ret
  exact ⟨a3, n3, c3, by omega, rfl, o3.low B2.out.size, B2.out.trans (b3.mono B2.out.size)⟩

theorem fmul_no_c (ao bo : Option Addr) (n c m d : Nat) (D : Int) (up : Bool) (w : World) (hD : D < 0 ∨ 6 < D) :
    Calls Tryd.prog 23 #[.slice ao n c, .slice bo m d, .int .i64 D, .bool up] w fun e w' => e = .returned (.slice none 0 0) ∧ w = w' := by
  have HS := Lib.hid (scale_no_c D w hD)
  clear hD
  go_enter Tryd.func23, Tryd.ntmps23
  go_wp2_with fail
  refine HS.out.mono ?_
  rintro e w1 ⟨rfl, rfl⟩
  go_wp2_with fail
  go_ret
  exact ⟨rfl, rfl⟩

set_option maxHeartbeats 1600000 in
theorem fdiv_c (ao bo : Option Addr) (n c m d : Nat) (xs ys : List Int) (D : Nat) (up : Bool) (w : World) (h : Lst .u32 w ao n c xs) (k : Lst .u32 w bo m d ys) (hn : n ≤ 1000000) (hD : D ≤ 6) (hy : val ys ≠ 0) :
    Calls Tryd.prog 25 #[.slice ao n c, .slice bo m d, .int .i64 D, .bool up] w fun e w' => ∃ a n' c', n' ≤ n + 64 ∧ e = .returned (.tuple #[.slice a n' c', .bool true]) ∧ Own 77 .u32 w.heap.size w' a n' c' (limbs (rnd up (val xs * 10 ^ D) (val ys))) ∧ Below w.heap.size w w' := by
  have HS := Lib.hid (scale_c D w hD)
  have H := Lib.hid h; have K := Lib.hid k; have HY := Lib.hid hy
  clear hD h k hy
  go_enter Tryd.func25, Tryd.ntmps25
  go_wp2_with fail
  refine HS.out.mono ?_
  rintro e w1 ⟨a1, n1, c1, hn1, rfl, o1, b1⟩
  have O1 := Lib.hid o1; have B1 := Lib.hid b1
  have hm := mul_c ao a1 n c n1 c1 xs _ w1 (H.out.below B1.out) O1.out.lst (by omega) (by omega)
  rw [val_limbs] at hm
  have HM := Lib.hid hm
  clear o1 b1 HS hm
  go_wp2_with fail
  refine HM.out.mono ?_
  rintro e w2 ⟨a2, n2, c2, rfl, hn2, o2, b2⟩
  have B2 := Lib.hid (B1.out.trans (b2.mono B1.out.size))
  have hd := divide_c a2 bo n2 c2 m d _ ys up w2 o2.lst (K.out.below B2.out) (by omega) HY.out
  rw [val_limbs] at hd
  have HD := Lib.hid hd
  clear hd o2 b2
  go_wp2_with fail
  refine HD.out.mono ?_
  rintro e w3 ⟨a3, n3, c3, rfl, hn3, o3, b3⟩
  go_wp2_with fail
  go_ret2
  exact ⟨a3, n3, c3, by omega, rfl, o3.low B2.out.size, B2.out.trans (b3.mono B2.out.size)⟩

set_option maxHeartbeats 1600000 in
theorem fdiv_zero_c (ao bo : Option Addr) (n c m d : Nat) (xs ys : List Int) (D : Nat) (up : Bool) (w : World) (h : Lst .u32 w ao n c xs) (k : Lst .u32 w bo m d ys) (hn : n ≤ 1000000) (hD : D ≤ 6) (hy : val ys = 0) :
    Calls Tryd.prog 25 #[.slice ao n c, .slice bo m d, .int .i64 D, .bool up] w fun e w' => e = .returned (.tuple #[.slice none 0 0, .bool false]) ∧ Below w.heap.size w w' := by
  have HS := Lib.hid (scale_c D w hD)
  have H := Lib.hid h; have K := Lib.hid k; have HY := Lib.hid hy
  clear hD h k hy
  go_enter Tryd.func25, Tryd.ntmps25
  go_wp2_with fail
  refine HS.out.mono ?_
  rintro e w1 ⟨a1, n1, c1, hn1, rfl, o1, b1⟩
  have O1 := Lib.hid o1; have B1 := Lib.hid b1
  have hm := mul_c ao a1 n c n1 c1 xs _ w1 (H.out.below B1.out) O1.out.lst (by omega) (by omega)
  rw [val_limbs] at hm
  have HM := Lib.hid hm
  clear o1 b1 HS hm
  go_wp2_with fail
  refine HM.out.mono ?_
  rintro e w2 ⟨a2, n2, c2, rfl, hn2, o2, b2⟩
  have B2 := Lib.hid (B1.out.trans (b2.mono B1.out.size))
  have hd := divide_zero_c a2 bo n2 c2 m d ys up w2 (K.out.below B2.out) HY.out
  have HD := Lib.hid hd
  clear hd o2 b2
  go_wp2_with fail
  refine HD.out.mono ?_
  rintro e w3 ⟨rfl, rfl⟩
  go_wp2_with fail
  go_ret2
  exact ⟨rfl, B2.out⟩

theorem fdiv_no_c (ao bo : Option Addr) (n c m d : Nat) (D : Int) (up : Bool) (w : World) (hD : D < 0 ∨ 6 < D) :
    Calls Tryd.prog 25 #[.slice ao n c, .slice bo m d, .int .i64 D, .bool up] w fun e w' => e = .returned (.tuple #[.slice none 0 0, .bool false]) ∧ w = w' := by
  have HS := Lib.hid (scale_no_c D w hD)
  clear hD
  go_enter Tryd.func25, Tryd.ntmps25
  go_wp2_with fail
  refine HS.out.mono ?_
  rintro e w1 ⟨rfl, rfl⟩
  go_wp2_with fail
  go_ret2
  exact ⟨rfl, rfl⟩
end Go.Proofs.YtmojcnlddfijjaaDoor
