/-
  fixed.scale, fixed.divide, fixed.Of, fixed.Mul, fixed.Div.
-/
import Derived.Test.YtmojcnlddfijjaaDoorNatHelp2
import Derived.Test.YtmojcnlddfijjaaDoorNatMul
import Derived.Test.YtmojcnlddfijjaaDoorNatPow10
import Derived.Lib.ItoaNum
namespace Go.Proofs.YtmojcnlddfijjaaDoor
open Go.RowKit NatMath

/-- The quotient, rounded. -/
def rnd (up : Bool) (x y : Nat) : Nat := x / y + if up = true ∧ x % y ≠ 0 then 1 else 0

theorem limbs_len_pos1 {r : Nat} (h : r ≠ 0) : 0 < (limbs r).length := by
  rw [limbs_pos h]; simp

set_option maxHeartbeats 800000 in
theorem scale_c (D : Nat) (w : World) (hD : D ≤ 6) :
    Calls Tryd.prog 51 #[.int .i64 D] w fun e w' => ∃ a n c, n ≤ 62 ∧ e = .returned (.tuple #[.slice a n c, .bool true]) ∧ Own 77 .u32 w.heap.size w' a n c (limbs (10 ^ D)) ∧ Below w.heap.size w w' := by
  have hp := pow10_c (D : Int) w
  have e : pow10 (D : Int) = 10 ^ D := by unfold pow10; rw [if_pos ⟨by omega, by omega⟩]; rfl
  rw [e] at hp
  have HP := Lib.hid hp
  clear hp e
  have d1 : decide ((D : Int) < 0) = false := by simp
  have d2 : decide ((6 : Int) < (D : Int)) = false := by simp; omega
  go_enter Tryd.func51, Tryd.ntmps51
  go_wp2_with fail
  refine HP.out.mono ?_
  rintro e w1 ⟨a, n, c, hn, rfl, o, b⟩
  go_wp2_with fail
  go_ret2
  exact ⟨a, n, c, hn, rfl, o, b⟩

set_option maxHeartbeats 800000 in
theorem scale_no_c (d : Int) (w : World) (hd : d < 0 ∨ 6 < d) :
    Calls Tryd.prog 51 #[.int .i64 d] w fun e w' => e = .returned (.tuple #[.slice none 0 0, .bool false]) ∧ w = w' := by
  by_cases h : d < 0
  · have d1 : decide (d < 0) = true := by simpa using h
    clear hd h
    go_enter Tryd.func51, Tryd.ntmps51
    go_wp2_with fail
    go_ret2
    exact ⟨rfl, rfl⟩
  · have d1 : decide (d < 0) = false := by simpa using h
    have d2 : decide (6 < d) = true := by simp; omega
    clear hd h
    go_enter Tryd.func51, Tryd.ntmps51
    go_wp2_with fail
    go_ret2
    exact ⟨rfl, rfl⟩

set_option maxHeartbeats 1600000 in
theorem divide_zero_c (ao bo : Option Addr) (n c m d : Nat) (ys : List Int) (up : Bool) (w : World) (k : Lst .u32 w bo m d ys) (hy : val ys = 0) :
    Calls Tryd.prog 52 #[.slice ao n c, .slice bo m d, .bool up] w fun e w' => e = .returned (.tuple #[.slice none 0 0, .bool false]) ∧ w = w' := by
  have HD := Lib.hid (div_zero_c ao bo n c m d ys w k hy)
  clear k hy
  cases up with
  | false =>
    go_enter Tryd.func52, Tryd.ntmps52
    go_wp2_with fail
    refine HD.out.mono ?_
    rintro e w' ⟨rfl, rfl⟩
    go_wp2_with fail
    go_ret2
    exact ⟨rfl, rfl⟩
  | true =>
    go_enter Tryd.func52, Tryd.ntmps52
    go_wp2_with fail
    refine HD.out.mono ?_
    rintro e w' ⟨rfl, rfl⟩
    go_wp2_with fail
    go_ret2
    exact ⟨rfl, rfl⟩

set_option maxHeartbeats 1600000 in
theorem divide_c (ao bo : Option Addr) (n c m d : Nat) (xs ys : List Int) (up : Bool) (w : World) (h : Lst .u32 w ao n c xs) (k : Lst .u32 w bo m d ys) (hn : n ≤ 1073741820) (hy : val ys ≠ 0) :
    Calls Tryd.prog 52 #[.slice ao n c, .slice bo m d, .bool up] w fun e w' => ∃ a n' c', e = .returned (.tuple #[.slice a n' c', .bool true]) ∧ n' ≤ n + 2 ∧ Own 77 .u32 w.heap.size w' a n' c' (limbs (rnd up (val xs) (val ys))) ∧ Below w.heap.size w w' := by
  obtain ⟨Q, hQ⟩ : ∃ Q, Hid (Q = val xs / val ys) := ⟨_, rfl⟩
  obtain ⟨R, hR⟩ : ∃ R, Hid (R = val xs % val ys) := ⟨_, rfl⟩
  have hq : (limbs Q).length ≤ n := by
    rw [hQ.out, ← h.len]
    exact Nat.le_trans (limbs_len_mono (Nat.div_le_self _ _)) (limbs_val_length h.ok)
  have hrnd : rnd up (val xs) (val ys) = Q + if up = true ∧ R ≠ 0 then 1 else 0 := by rw [hQ.out, hR.out]; rfl
  have hd := div_c ao bo n c m d xs ys w h k hn hy
  rw [← hQ.out, ← hR.out] at hd
  rw [hrnd]
  have HD := Lib.hid hd
  have HQ := Lib.hid hq
  clear hd hq hrnd h k hy
  by_cases hr : R = 0
  · have e0 : (Q + if up = true ∧ R ≠ 0 then 1 else 0) = Q := by rw [if_neg (fun hh => hh.2 hr)]; rfl
    rw [e0]
    clear e0
    have h0 : (limbs R).length = 0 := by rw [hr, limbs_zero]; rfl
    have H0 := Lib.hid h0
    clear h0 hr
    cases up with
    | false =>
      go_enter Tryd.func52, Tryd.ntmps52
      go_wp2_with fail
      refine HD.out.mono ?_
      rintro e w1 ⟨a1, n1, c1, a2, n2, c2, rfl, o1, o2, b1⟩
      go_wp2_with fail
      go_ret2
      exact ⟨a1, n1, c1, rfl, by have := o1.len; have := HQ.out; omega, o1, b1⟩
    | true =>
      go_enter Tryd.func52, Tryd.ntmps52
      go_wp2_with fail
      refine HD.out.mono ?_
      rintro e w1 ⟨a1, n1, c1, a2, n2, c2, rfl, o1, o2, b1⟩
      obtain rfl : n2 = 0 := by rw [← o2.len]; exact H0.out
      go_wp2_with fail
      go_ret2
      exact ⟨a1, n1, c1, rfl, by have := o1.len; have := HQ.out; omega, o1, b1⟩
  · have HR := Lib.hid (limbs_len_pos1 hr)
    cases up with
    | false =>
      rw [if_neg (by simp)]
      clear hr
      go_enter Tryd.func52, Tryd.ntmps52
      go_wp2_with fail
      refine HD.out.mono ?_
      rintro e w1 ⟨a1, n1, c1, a2, n2, c2, rfl, o1, o2, b1⟩
      go_wp2_with fail
      go_ret2
      exact ⟨a1, n1, c1, rfl, by have := o1.len; have := HQ.out; omega, o1, b1⟩
    | true =>
      rw [if_pos ⟨rfl, hr⟩]
      clear hr
      go_enter Tryd.func52, Tryd.ntmps52
      go_wp2_with fail
      refine HD.out.mono ?_
      rintro e w1 ⟨a1, n1, c1, a2, n2, c2, rfl, o1, o2, b1⟩
      have hn2 : 0 < n2 := by rw [← o2.len]; exact HR.out
      have hn1 : n1 ≤ n := by rw [← o1.len]; exact HQ.out
      have O1 := Lib.hid o1; have B1 := Lib.hid b1
      clear o1 o2 b1 HD HQ HR
      go_wp2_with fail
      refine (of_c 1 _ (by omega) (by omega)).mono ?_
      rintro e w2 ⟨a3, n3, c3, hn3, rfl, o3, b3⟩
      have hlen3 : n3 ≤ 1 := by rw [← o3.len, show Int.toNat 1 = 1 from rfl, limbs_one]; decide
      have O3 := Lib.hid o3; have B3 := Lib.hid (B1.out.trans (b3.mono B1.out.size)); have O4 := Lib.hid (O1.out.kept b3)
      have ha := add_c a1 a3 n1 c1 n3 c3 _ _ w2 O4.out.lst O3.out.lst (by omega) (by omega)
      rw [val_limbs, val_limbs, show Int.toNat 1 = 1 from rfl] at ha
      have HA := Lib.hid ha
      clear ha o3 b3
      go_wp2_with fail
      refine HA.out.mono ?_
      rintro e w3 ⟨a5, n5, c5, rfl, hn5, o5, b5⟩
      go_wp2_with fail
      go_ret2
      exact ⟨a5, n5, c5, rfl, by omega, o5.low B3.out.size, B3.out.trans (b5.mono B3.out.size)⟩

set_option maxHeartbeats 1600000 in
theorem fof_c (x : Int) (D : Nat) (w : World) (h0 : 0 ≤ x) (h1 : x ≤ 18446744073709551615) (hD : D ≤ 6) :
    Calls Tryd.prog 37 #[.int .u64 x, .int .i64 D] w fun e w' => ∃ a n c, n ≤ 64 ∧ e = .returned (.slice a n c) ∧ Own 77 .u32 w.heap.size w' a n c (limbs (x.toNat * 10 ^ D)) ∧ Below w.heap.size w w' := by
  have HS := Lib.hid (scale_c D w hD)
  clear hD
  go_enter Tryd.func37, Tryd.ntmps37
  go_wp2_with fail
  refine HS.out.mono ?_
  rintro e w1 ⟨a1, n1, c1, hn1, rfl, o1, b1⟩
  have O1 := Lib.hid o1; have B1 := Lib.hid b1
  clear o1 b1 HS
  go_wp2_with fail
  refine (of_c x _ h0 h1).mono ?_
  rintro e w2 ⟨a2, n2, c2, hn2, rfl, o2, b2⟩
  have hm := mul_c a2 a1 n2 c2 n1 c1 _ _ w2 o2.lst (O1.out.kept b2).lst (by omega) (by omega)
  rw [val_limbs, val_limbs] at hm
  have HM := Lib.hid hm
  have B2 := Lib.hid (B1.out.trans (b2.mono B1.out.size))
  clear hm o2 b2
  go_wp2_with fail
  refine HM.out.mono ?_
  rintro e w3 ⟨a3, n3, c3, rfl, hn3, o3, b3⟩
  go_wp2_with fail
  go_ret
  exact ⟨a3, n3, c3, by omega, rfl, o3.low B2.out.size, B2.out.trans (b3.mono B2.out.size)⟩

theorem fof_no_c (x d : Int) (w : World) (hd : d < 0 ∨ 6 < d) :
    Calls Tryd.prog 37 #[.int .u64 x, .int .i64 d] w fun e w' => e = .returned (.slice none 0 0) ∧ w = w' := by
  have HS := Lib.hid (scale_no_c d w hd)
  clear hd
  go_enter Tryd.func37, Tryd.ntmps37
  go_wp2_with fail
  refine HS.out.mono ?_
  rintro e w1 ⟨rfl, rfl⟩
  go_wp2_with fail
  go_ret
  exact ⟨rfl, rfl⟩

set_option maxHeartbeats 1600000 in
theorem fmul_c (ao bo : Option Addr) (n c m d : Nat) (xs ys : List Int) (D : Nat) (up : Bool) (w : World) (h : Lst .u32 w ao n c xs) (k : Lst .u32 w bo m d ys) (hn : n ≤ 1000000) (hm : m ≤ 1000000) (hD : D ≤ 6) :
    Calls Tryd.prog 23 #[.slice ao n c, .slice bo m d, .int .i64 D, .bool up] w fun e w' => ∃ a n' c', n' ≤ n + m + 2 ∧ e = .returned (.slice a n' c') ∧ Own 77 .u32 w.heap.size w' a n' c' (limbs (rnd up (val xs * val ys) (10 ^ D))) ∧ Below w.heap.size w w' := by
  have HS := Lib.hid (scale_c D w hD)
  have H := Lib.hid h; have K := Lib.hid k
  clear hD h k
  go_enter Tryd.func23, Tryd.ntmps23
  go_wp2_with fail
  refine HS.out.mono ?_
  rintro e w1 ⟨a1, n1, c1, hn1, rfl, o1, b1⟩
  have O1 := Lib.hid o1; have B1 := Lib.hid b1
  clear o1 b1 HS
  go_wp2_with fail
  refine (mul_c ao bo n c m d xs ys w1 (H.out.below B1.out) (K.out.below B1.out) (by omega) (by omega)).mono ?_
  rintro e w2 ⟨a2, n2, c2, rfl, hn2, o2, b2⟩
  have hd := divide_c a2 a1 n2 c2 n1 c1 _ _ up w2 o2.lst (O1.out.kept b2).lst (by omega) (by rw [val_limbs]; exact Nat.pos_iff_ne_zero.1 (Nat.pow_pos (by omega)))
  rw [val_limbs, val_limbs] at hd
  have HD := Lib.hid hd
  have B2 := Lib.hid (B1.out.trans (b2.mono B1.out.size))
  clear hd o2 b2
  go_wp2_with fail
  refine HD.out.mono ?_
  rintro e w3 ⟨a3, n3, c3, rfl, hn3, o3, b3⟩
  go_wp2_with fail
  go_ret
  exact ⟨a3, n3, c3, by omega, rfl, o3.low B2.out.size, B2.out.trans (b3.mono B2.out.size)⟩

theorem fmul_no_c (ao bo : Option Addr) (n c m d : Nat) (D : Int) (up : Bool) (w : World) (hD : D < 0 ∨ 6 < D) :
    Calls Tryd.prog 23 #[.slice ao n c, .slice bo m d, .int .i64 D, .bool up] w fun e w' => e = .returned (.slice none 0 0) ∧ w = w' := by
  have HS := Lib.hid (scale_no_c D w hD)
  clear hD
  go_enter Tryd.func23, Tryd.ntmps23
  go_wp2_with fail
  refine HS.out.mono ?_
  rintro e w1 ⟨rfl, rfl⟩
  go_wp2_with fail
  go_ret
  exact ⟨rfl, rfl⟩

set_option maxHeartbeats 1600000 in
theorem fdiv_c (ao bo : Option Addr) (n c m d : Nat) (xs ys : List Int) (D : Nat) (up : Bool) (w : World) (h : Lst .u32 w ao n c xs) (k : Lst .u32 w bo m d ys) (hn : n ≤ 1000000) (hD : D ≤ 6) (hy : val ys ≠ 0) :
    Calls Tryd.prog 25 #[.slice ao n c, .slice bo m d, .int .i64 D, .bool up] w fun e w' => ∃ a n' c', n' ≤ n + 64 ∧ e = .returned (.tuple #[.slice a n' c', .bool true]) ∧ Own 77 .u32 w.heap.size w' a n' c' (limbs (rnd up (val xs * 10 ^ D) (val ys))) ∧ Below w.heap.size w w' := by
  have HS := Lib.hid (scale_c D w hD)
  have H := Lib.hid h; have K := Lib.hid k; have HY := Lib.hid hy
  clear hD h k hy
  go_enter Tryd.func25, Tryd.ntmps25
  go_wp2_with fail
  refine HS.out.mono ?_
  rintro e w1 ⟨a1, n1, c1, hn1, rfl, o1, b1⟩
  have O1 := Lib.hid o1; have B1 := Lib.hid b1
  have hm := mul_c ao a1 n c n1 c1 xs _ w1 (H.out.below B1.out) O1.out.lst (by omega) (by omega)
  rw [val_limbs] at hm
  have HM := Lib.hid hm
  clear o1 b1 HS hm
  go_wp2_with fail
  refine HM.out.mono ?_
  rintro e w2 ⟨a2, n2, c2, rfl, hn2, o2, b2⟩
  have B2 := Lib.hid (B1.out.trans (b2.mono B1.out.size))
  have hd := divide_c a2 bo n2 c2 m d _ ys up w2 o2.lst (K.out.below B2.out) (by omega) HY.out
  rw [val_limbs] at hd
  have HD := Lib.hid hd
  clear hd o2 b2
  go_wp2_with fail
  refine HD.out.mono ?_
  rintro e w3 ⟨a3, n3, c3, rfl, hn3, o3, b3⟩
  go_wp2_with fail
  go_ret2
  exact ⟨a3, n3, c3, by omega, rfl, o3.low B2.out.size, B2.out.trans (b3.mono B2.out.size)⟩

set_option maxHeartbeats 1600000 in
theorem fdiv_zero_c (ao bo : Option Addr) (n c m d : Nat) (xs ys : List Int) (D : Nat) (up : Bool) (w : World) (h : Lst .u32 w ao n c xs) (k : Lst .u32 w bo m d ys) (hn : n ≤ 1000000) (hD : D ≤ 6) (hy : val ys = 0) :
    Calls Tryd.prog 25 #[.slice ao n c, .slice bo m d, .int .i64 D, .bool up] w fun e w' => e = .returned (.tuple #[.slice none 0 0, .bool false]) ∧ Below w.heap.size w w' := by
  have HS := Lib.hid (scale_c D w hD)
  have H := Lib.hid h; have K := Lib.hid k; have HY := Lib.hid hy
  clear hD h k hy
  go_enter Tryd.func25, Tryd.ntmps25
  go_wp2_with fail
  refine HS.out.mono ?_
  rintro e w1 ⟨a1, n1, c1, hn1, rfl, o1, b1⟩
  have O1 := Lib.hid o1; have B1 := Lib.hid b1
  have hm := mul_c ao a1 n c n1 c1 xs _ w1 (H.out.below B1.out) O1.out.lst (by omega) (by omega)
  rw [val_limbs] at hm
  have HM := Lib.hid hm
  clear o1 b1 HS hm
  go_wp2_with fail
  refine HM.out.mono ?_
  rintro e w2 ⟨a2, n2, c2, rfl, hn2, o2, b2⟩
  have B2 := Lib.hid (B1.out.trans (b2.mono B1.out.size))
  have hd := divide_zero_c a2 bo n2 c2 m d ys up w2 (K.out.below B2.out) HY.out
  have HD := Lib.hid hd
  clear hd o2 b2
  go_wp2_with fail
  refine HD.out.mono ?_
  rintro e w3 ⟨rfl, rfl⟩
  go_wp2_with fail
  go_ret2
  exact ⟨rfl, B2.out⟩

theorem fdiv_no_c (ao bo : Option Addr) (n c m d : Nat) (D : Int) (up : Bool) (w : World) (hD : D < 0 ∨ 6 < D) :
    Calls Tryd.prog 25 #[.slice ao n c, .slice bo m d, .int .i64 D, .bool up] w fun e w' => e = .returned (.tuple #[.slice none 0 0, .bool false]) ∧ w = w' := by
  have HS := Lib.hid (scale_no_c D w hD)
  clear hD
  go_enter Tryd.func25, Tryd.ntmps25
  go_wp2_with fail
  refine HS.out.mono ?_
  rintro e w1 ⟨rfl, rfl⟩
  go_wp2_with fail
  go_ret2
  exact ⟨rfl, rfl⟩
end Go.Proofs.YtmojcnlddfijjaaDoor

/-
  Plain mathematics for layer 3: the decimal text of a fixed-point number. No program, no world.
-/
namespace Go.Proofs.YtmojcnlddfijjaaDoor.FixMath
open Go

/-- The last D digits of a number, zeros included. -/
def low : Nat → Nat → List UInt8
  | 0, _ => []
  | D + 1, v => low D (v / 10) ++ [UInt8.ofNat (48 + v % 10)]

theorem low_len (D : Nat) : ∀ v, (low D v).length = D := by
  induction D with
  | zero => intro v; rfl
  | succ D ih => intro v; rw [low, List.length_append, ih]; rfl

theorem low_mod (D : Nat) : ∀ v, low D (v % 10 ^ D) = low D v := by
  induction D with
  | zero => intro v; rfl
  | succ D ih =>
    intro v
    have e : v % 10 ^ (D + 1) / 10 = v / 10 % 10 ^ D := by
      rw [Nat.pow_succ, Nat.mul_comm, Nat.mod_mul_right_div_self]
    have e2 : v % 10 ^ (D + 1) % 10 = v % 10 := Nat.mod_mod_of_dvd _ (by rw [Nat.pow_succ]; exact Nat.dvd_mul_left _ _)
    rw [low, low, e, ih, e2]

theorem dec_small {v : Nat} (h : v < 10) : Lib.decDigits v = [UInt8.ofNat (48 + v)] := by rw [Lib.decDigits, dif_pos h]
theorem dec_step {v : Nat} (h : ¬ v < 10) : Lib.decDigits v = Lib.decDigits (v / 10) ++ [UInt8.ofNat (48 + v % 10)] := by rw [Lib.decDigits, dif_neg h]

/-- A one before the digits keeps the zeros. -/
theorem dec_one (D : Nat) : ∀ r, r < 10 ^ D → Lib.decDigits (10 ^ D + r) = 49 :: low D r := by
  induction D with
  | zero =>
    intro r hr
    obtain rfl : r = 0 := by simpa using hr
    rw [dec_small (by decide)]; rfl
  | succ D ih =>
    intro r hr
    have h10 : 0 < 10 ^ D := Nat.pow_pos (by omega)
    have hp : 10 ^ (D + 1) = 10 * 10 ^ D := by rw [Nat.pow_succ, Nat.mul_comm]
    have h1 : ¬ 10 ^ (D + 1) + r < 10 := by omega
    have h2 : (10 ^ (D + 1) + r) / 10 = 10 ^ D + r / 10 := by omega
    have h3 : (10 ^ (D + 1) + r) % 10 = r % 10 := by omega
    rw [dec_step h1, h2, h3, ih (r / 10) (by omega)]
    rfl

theorem pad_aux (D : Nat) : ∀ v k, D + 1 ≤ k + (Lib.decDigits v).length → (k = 0 ∨ k + (Lib.decDigits v).length = D + 1) →
    List.replicate k 48 ++ Lib.decDigits v = Lib.decDigits (v / 10 ^ D) ++ low D v := by
  induction D with
  | zero =>
    intro v k h1 h2
    have hpos : 0 < (Lib.decDigits v).length := by
      by_cases h : v < 10
      · rw [dec_small h]; exact Nat.one_pos
      · rw [dec_step h]; simp
    obtain rfl : k = 0 := by rcases h2 with h | h <;> omega
    simp [low]
  | succ D ih =>
    intro v k h1 h2
    have hp : v / 10 ^ (D + 1) = v / 10 / 10 ^ D := by rw [Nat.pow_succ, Nat.mul_comm, Nat.div_div_eq_div_mul]
    rw [hp, low]
    by_cases h : v < 10
    · rw [dec_small h] at h1 h2 ⊢
      simp only [List.length_singleton] at h1 h2
      have hk : k = D + 1 := by rcases h2 with h | h <;> omega
      subst hk
      have e0 : v / 10 = 0 := by omega
      have i := ih 0 D (by rw [dec_small (by omega)]; simp) (Or.inr (by rw [dec_small (by omega)]; simp))
      rw [e0, ← List.append_assoc, ← i, dec_small (v := 0) (by omega), List.replicate_succ', show v % 10 = v by omega]
      simp
    · rw [dec_step h] at h1 h2 ⊢
      simp only [List.length_append, List.length_singleton] at h1 h2
      have i := ih (v / 10) k (by omega) (by rcases h2 with h | h; exact Or.inl h; exact Or.inr (by omega))
      rw [← List.append_assoc, i, List.append_assoc]

/-- The text of a number with D digits behind the point. -/
def ftx (v D : Nat) : List UInt8 := if D = 0 then Lib.decDigits v else Lib.decDigits (v / 10 ^ D) ++ 46 :: low D v

theorem dec_pos (v : Nat) : 0 < (Lib.decDigits v).length := by
  by_cases h : v < 10
  · rw [dec_small h]; exact Nat.one_pos
  · rw [dec_step h]; simp

/-- The reference's way: zeros ahead up to D + 1 digits, then the point. -/
theorem ftx_pad {v D k : Nat} {L : List UInt8} (hD : D ≠ 0) (hL : L = List.replicate k 48 ++ Lib.decDigits v) (h1 : D < L.length) (h2 : k = 0 ∨ L.length = D + 1) :
    L.take (L.length - D) ++ 46 :: L.drop (L.length - D) = ftx v D := by
  have e : L = Lib.decDigits (v / 10 ^ D) ++ low D v := by
    rw [hL]
    rw [hL, List.length_append, List.length_replicate] at h1 h2
    exact pad_aux D v k (by omega) h2
  have hl : L.length - D = (Lib.decDigits (v / 10 ^ D)).length := by
    rw [e, List.length_append, low_len]; omega
  unfold ftx
  rw [if_neg hD, hl, e]
  simp

theorem low_byte (D : Nat) : ∀ v b, b ∈ low D v → 48 ≤ b.toNat ∧ b.toNat ≤ 57 := by
  induction D with
  | zero => intro v b h; cases h
  | succ D ih =>
    intro v b h
    rw [low, List.mem_append] at h
    rcases h with h | h
    · exact ih _ b h
    · rw [List.mem_singleton] at h
      subst h
      have : v % 10 < 10 := Nat.mod_lt _ (by omega)
      simp
      omega
theorem dec_byte48 (v : Nat) : ∀ b ∈ Lib.decDigits v, 48 ≤ b.toNat ∧ b.toNat ≤ 57 := by
  induction v using Nat.strongRecOn with
  | ind v ih =>
    intro b hb
    by_cases h : v < 10
    · rw [dec_small h, List.mem_singleton] at hb
      subst hb; simp; omega
    · rw [dec_step h, List.mem_append] at hb
      rcases hb with hb | hb
      · exact ih (v / 10) (by omega) b hb
      · rw [List.mem_singleton] at hb
        subst hb
        have : v % 10 < 10 := Nat.mod_lt _ (by omega)
        simp; omega
/-- The value of a list of digits. -/
def valL (l : List UInt8) : Nat := l.foldl (fun a b => a * 10 + (b.toNat - 48)) 0
theorem valL_snoc (l : List UInt8) (b : UInt8) : valL (l ++ [b]) = valL l * 10 + (b.toNat - 48) := by unfold valL; rw [List.foldl_append]; rfl
theorem valL_dec (v : Nat) : valL (Lib.decDigits v) = v := by
  induction v using Nat.strongRecOn with
  | ind v ih =>
    by_cases h : v < 10
    · rw [dec_small h]
      show 0 * 10 + ((UInt8.ofNat (48 + v)).toNat - 48) = v
      simp; omega
    · rw [dec_step h, valL_snoc, ih (v / 10) (by omega)]
      have : v % 10 < 10 := Nat.mod_lt _ (by omega)
      simp; omega
theorem dec_inj {u v : Nat} (h : Lib.decDigits u = Lib.decDigits v) : u = v := by
  have := congrArg valL h
  rwa [valL_dec, valL_dec] at this
theorem low_inj (D : Nat) {u v : Nat} (h : low D u = low D v) : u % 10 ^ D = v % 10 ^ D := by
  have hp : 0 < 10 ^ D := Nat.pow_pos (by omega)
  have h1 : Lib.decDigits (10 ^ D + u % 10 ^ D) = Lib.decDigits (10 ^ D + v % 10 ^ D) := by
    rw [dec_one D _ (Nat.mod_lt _ hp), dec_one D _ (Nat.mod_lt _ hp), low_mod, low_mod, h]
  have := dec_inj h1
  omega
theorem ftx_inj {u v D : Nat} (h : ftx u D = ftx v D) : u = v := by
  unfold ftx at h
  by_cases hD : D = 0
  · rw [if_pos hD, if_pos hD] at h; exact dec_inj h
  · rw [if_neg hD, if_neg hD] at h
    obtain ⟨h1, h2⟩ := List.append_inj' h (by simp [low_len])
    have e1 := dec_inj h1
    have e2 := low_inj D (List.cons.inj h2).2
    rw [← Nat.div_add_mod u (10 ^ D), ← Nat.div_add_mod v (10 ^ D), e1, e2]
end Go.Proofs.YtmojcnlddfijjaaDoor.FixMath
