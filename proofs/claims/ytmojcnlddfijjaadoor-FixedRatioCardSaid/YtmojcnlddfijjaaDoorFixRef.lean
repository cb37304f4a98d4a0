/-
  electionref03: ten, round, Mul, Div; electionlaw03: in, is.
-/
import Derived.Test.YtmojcnlddfijjaaDoorNatSmall
import Derived.Test.YtmojcnlddfijjaaDoorNatRefDiv
import Derived.Test.YtmojcnlddfijjaaDoorNatRefAdd
import Derived.Test.YtmojcnlddfijjaaDoorNatTo
import Derived.Test.YtmojcnlddfijjaaDoorFixBase
import Derived.Test.YtmojcnlddfijjaaDoorNatText
import Derived.Test.YtmojcnlddfijjaaDoorNatDec
namespace Go.Proofs.YtmojcnlddfijjaaDoor
open Go.RowKit NatMath

theorem bitsN_len_le {v K n : Nat} {w : World} {a : Option Addr} {c : Nat} (h : LstB w a n c (bitsN v)) (hv : v < 2 ^ K) : n ≤ K := by
  rw [← h.len]; exact bitsN_length v K hv
theorem ten_lt {D : Nat} (hD : D ≤ 6) : 10 ^ D < 2 ^ 20 := by
  have : 10 ^ D ≤ 10 ^ 6 := Nat.pow_le_pow_right (by omega) hD
  have e : (10 : Nat) ^ 6 = 1000000 := by decide
  have e2 : (2 : Nat) ^ 20 = 1048576 := by decide
  omega
theorem ten_pos (D : Nat) : 0 < 10 ^ D := Nat.pow_pos (by omega)
theorem rnd_le (up : Bool) (x y : Nat) : rnd up x y ≤ x + 1 := by
  have := Nat.div_le_self x y
  unfold rnd
  split <;> omega

set_option maxHeartbeats 1600000 in
set_option maxRecDepth 100000 in
theorem ten_c (D : Nat) (w : World) (hD : D ≤ 6) :
    Calls Tryd.prog 55 #[.int .i64 D] w fun e w' => ∃ a n c, e = .returned (.slice a n c) ∧ OwnT w.heap.size w' a n c (bitsN (10 ^ D)) ∧ Below w.heap.size w w' := by
  go_enter Tryd.func55, Tryd.ntmps55
  go_wp2_with fail
  refine (small_c 1 w (by omega)).mono ?_
  rintro e w0 ⟨a0, n0, c0, rfl, o0, b0⟩
  go_wp2_with fail
  go_loopw [3, 4] (fun s3 i wr => ∃ (j m c : Nat) (a : Option Addr), j ≤ D ∧ i = .int .i64 j ∧ s3 = .slice a m c ∧ OwnT w.heap.size wr a m c (bitsN (10 ^ j)) ∧ Below w.heap.size w wr)
    (fun _ i _ => D - (intOf i).toNat)
  case atStart => exact ⟨0, n0, c0, a0, Nat.zero_le _, rfl, rfl, o0, b0⟩
  case round =>
    obtain ⟨j, m, c, a, hj, rfl, rfl, ho, hb⟩ := hrel
    clear o0 b0
    by_cases hlt : j < D
    · have hm := ho.bound (k := 20) (ten_lt (by omega))
      have HO := Lib.hid ho
      have HB := Lib.hid hb
      clear ho hb
      go_wp2_with fail
      refine (small_c 10 wr (by omega)).mono ?_
      rintro e w2 ⟨a2, m2, c2, rfl, o2, b2⟩
      have hm2 := o2.bound (k := 4) (by decide)
      have hmu := mulT_c a a2 m c m2 c2 _ _ w2 (HO.out.kept b2).lst o2.lst (by omega) (by omega)
      rw [bval_bitsN, bval_bitsN, ← Nat.pow_succ] at hmu
      have HM := Lib.hid hmu
      have B2 := Lib.hid (HB.out.trans (b2.mono HB.out.size))
      clear hmu o2 b2
      go_wp2_with fail
      refine HM.out.mono ?_
      rintro e w3 ⟨a3, m3, c3, rfl, o3, b3⟩
      have B3 := B2.out.trans (b3.mono B2.out.size)
      have O3 := o3.low B2.out.size
      clear o3 b3 HM
      go_wp2_with fail
      go_roundw
      case rel => exact ⟨j + 1, m3, c3, a3, by omega, by go_num, rfl, O3, B3⟩
      case measure => simp [intOf]; omega
    · obtain rfl : j = D := by omega
      go_wp2_with fail
      go_ret
      exact ⟨a, m, c, rfl, ho, hb⟩

set_option maxHeartbeats 1600000 in
theorem round_c (ao bo : Option Addr) (n c m d X Y K : Nat) (up : Bool) (w : World) (h : LstB w ao n c (bitsN X)) (k : LstB w bo m d (bitsN Y)) (hX : X < 2 ^ K) (hY : Y < 2 ^ K) (hK : K ≤ 400000) (hy : 0 < Y) :
    Calls Tryd.prog 53 #[.slice ao n c, .slice bo m d, .bool up] w fun e w' => ∃ a n' c', e = .returned (.slice a n' c') ∧ OwnT w.heap.size w' a n' c' (bitsN (rnd up X Y)) ∧ Below w.heap.size w w' := by
  have hn := bitsN_len_le h hX
  have hm := bitsN_len_le k hY
  obtain ⟨Q, hQ⟩ : ∃ Q, Hid (Q = X / Y) := ⟨_, rfl⟩
  obtain ⟨R, hR⟩ : ∃ R, Hid (R = X % Y) := ⟨_, rfl⟩
  have hq : Q < 2 ^ K := by rw [hQ.out]; exact Nat.lt_of_le_of_lt (Nat.div_le_self _ _) hX
  have hrnd : rnd up X Y = Q + if up = true ∧ R ≠ 0 then 1 else 0 := by rw [hQ.out, hR.out]; rfl
  have hd := divT_c ao bo n c m d _ _ w h k (by omega) (by omega) (by rw [bval_bitsN]; exact hy)
  rw [bval_bitsN, bval_bitsN, ← hQ.out, ← hR.out] at hd
  rw [hrnd]
  have HD := Lib.hid hd
  have HQ := Lib.hid hq
  clear hd hq hrnd h k hy hX hY
  by_cases hr : R = 0
  · have e0 : (Q + if up = true ∧ R ≠ 0 then 1 else 0) = Q := by rw [if_neg (fun hh => hh.2 hr)]; rfl
    rw [e0]
    clear e0
    have h0 : (bitsN R).length = 0 := by rw [hr, bitsN_zero]; rfl
    have H0 := Lib.hid h0
    clear h0 hr
    cases up with
    | false =>
      go_enter Tryd.func53, Tryd.ntmps53
      go_wp2_with fail
      refine HD.out.mono ?_
      rintro e w1 ⟨a1, n1, c1, a2, n2, c2, rfl, o1, o2, b1⟩
      go_wp2_with fail
      go_ret
      exact ⟨a1, n1, c1, rfl, o1, b1⟩
    | true =>
      go_enter Tryd.func53, Tryd.ntmps53
      go_wp2_with fail
      refine HD.out.mono ?_
      rintro e w1 ⟨a1, n1, c1, a2, n2, c2, rfl, o1, o2, b1⟩
      obtain rfl : n2 = 0 := by rw [← o2.len]; exact H0.out
      go_wp2_with fail
      go_ret
      exact ⟨a1, n1, c1, rfl, o1, b1⟩
  · have hrp : 0 < (bitsN R).length := by rw [bitsN_pos hr]; simp
    have HR := Lib.hid hrp
    clear hrp
    cases up with
    | false =>
      rw [if_neg (by simp)]
      clear hr
      go_enter Tryd.func53, Tryd.ntmps53
      go_wp2_with fail
      refine HD.out.mono ?_
      rintro e w1 ⟨a1, n1, c1, a2, n2, c2, rfl, o1, o2, b1⟩
      go_wp2_with fail
      go_ret
      exact ⟨a1, n1, c1, rfl, o1, b1⟩
    | true =>
      rw [if_pos ⟨rfl, hr⟩]
      clear hr
      go_enter Tryd.func53, Tryd.ntmps53
      go_wp2_with fail
      refine HD.out.mono ?_
      rintro e w1 ⟨a1, n1, c1, a2, n2, c2, rfl, o1, o2, b1⟩
      have hn2 : 0 < n2 := by rw [← o2.len]; exact HR.out
      have hn1 := o1.bound HQ.out
      have O1 := Lib.hid o1; have B1 := Lib.hid b1
      clear o1 o2 b1 HD HQ HR
      go_wp2_with fail
      refine (small_c 1 _ (by omega)).mono ?_
      rintro e w2 ⟨a3, n3, c3, rfl, o3, b3⟩
      have hn3 := o3.bound (k := 1) (by decide)
      have O3 := Lib.hid o3; have B3 := Lib.hid (B1.out.trans (b3.mono B1.out.size)); have O4 := Lib.hid (O1.out.kept b3)
      have ha := addT_c a1 a3 n1 c1 n3 c3 _ _ w2 O4.out.lst O3.out.lst (by omega) (by omega)
      rw [bval_bitsN, bval_bitsN] at ha
      have HA := Lib.hid ha
      clear ha o3 b3
      go_wp2_with fail
      refine HA.out.mono ?_
      rintro e w3 ⟨a5, n5, c5, rfl, o5, b5⟩
      go_wp2_with fail
      go_ret
      exact ⟨a5, n5, c5, rfl, o5.low B3.out.size, B3.out.trans (b5.mono B3.out.size)⟩

set_option maxHeartbeats 1600000 in
theorem mul3_c (ao bo : Option Addr) (n c m d X Y K D : Nat) (up : Bool) (w : World) (h : LstB w ao n c (bitsN X)) (k : LstB w bo m d (bitsN Y)) (hX : X < 2 ^ K) (hY : Y < 2 ^ K) (hK : K ≤ 10000) (hK2 : 20 ≤ K) (hD : D ≤ 6) :
    Calls Tryd.prog 24 #[.slice ao n c, .slice bo m d, .int .i64 D, .bool up] w fun e w' => ∃ a n' c', e = .returned (.slice a n' c') ∧ OwnT w.heap.size w' a n' c' (bitsN (rnd up (X * Y) (10 ^ D))) ∧ Below w.heap.size w w' := by
  have hn := bitsN_len_le h hX
  have hm := bitsN_len_le k hY
  have hXY : Hid (X * Y < 2 ^ (K + K)) := mul_lt_two hX hY
  have hT : Hid (10 ^ D < 2 ^ (K + K)) := Nat.lt_of_lt_of_le (ten_lt hD) (Nat.pow_le_pow_right (by omega) (by omega))
  have hmu := mulT_c ao bo n c m d _ _ w h k (by omega) (by omega)
  rw [bval_bitsN, bval_bitsN] at hmu
  have HM := Lib.hid hmu
  have HT := Lib.hid (fun w1 => ten_c D w1 hD)
  clear hmu h k hD hX hY
  go_enter Tryd.func24, Tryd.ntmps24
  go_wp2_with fail
  refine HM.out.mono ?_
  rintro e w1 ⟨a1, n1, c1, rfl, o1, b1⟩
  have O1 := Lib.hid o1; have B1 := Lib.hid b1
  clear o1 b1 HM
  go_wp2_with fail
  refine (HT.out w1).mono ?_
  rintro e w2 ⟨a2, n2, c2, rfl, o2, b2⟩
  have B2 := Lib.hid (B1.out.trans (b2.mono B1.out.size))
  have HR := Lib.hid (round_c a1 a2 n1 c1 n2 c2 (X * Y) (10 ^ D) (K + K) up w2 (O1.out.kept b2).lst o2.lst hXY.out hT.out (by omega) (ten_pos D))
  clear o2 b2
  go_wp2_with fail
  refine HR.out.mono ?_
  rintro e w3 ⟨a3, n3, c3, rfl, o3, b3⟩
  go_wp2_with fail
  go_ret
  exact ⟨a3, n3, c3, rfl, o3.low B2.out.size, B2.out.trans (b3.mono B2.out.size)⟩

set_option maxHeartbeats 1600000 in
theorem div3_c (ao bo : Option Addr) (n c m d X Y K D : Nat) (up : Bool) (w : World) (h : LstB w ao n c (bitsN X)) (k : LstB w bo m d (bitsN Y)) (hX : X < 2 ^ K) (hY : Y < 2 ^ K) (hK : K ≤ 10000) (hK2 : 20 ≤ K) (hD : D ≤ 6) (hy : 0 < Y) :
    Calls Tryd.prog 26 #[.slice ao n c, .slice bo m d, .int .i64 D, .bool up] w fun e w' => ∃ a n' c', e = .returned (.slice a n' c') ∧ OwnT w.heap.size w' a n' c' (bitsN (rnd up (X * 10 ^ D) Y)) ∧ Below w.heap.size w w' := by
  have hn := bitsN_len_le h hX
  have hXY : Hid (X * 10 ^ D < 2 ^ (K + K)) := by
    show X * 10 ^ D < 2 ^ (K + K)
    exact mul_lt_two hX (Nat.lt_of_lt_of_le (ten_lt hD) (Nat.pow_le_pow_right (by omega) hK2))
  have hT : Hid (Y < 2 ^ (K + K)) := Nat.lt_of_lt_of_le hY (Nat.pow_le_pow_right (by omega) (by omega))
  have HT := Lib.hid (fun w1 => ten_c D w1 hD)
  have hb := ten_lt hD
  have H := Lib.hid h; have K' := Lib.hid k; have HY := Lib.hid hy; have HBB := Lib.hid hb
  clear h k hD hX hY hy hb
  go_enter Tryd.func26, Tryd.ntmps26
  go_wp2_with fail
  refine (HT.out w).mono ?_
  rintro e w1 ⟨a1, n1, c1, rfl, o1, b1⟩
  have hn1 := o1.bound HBB.out
  have hmu := mulT_c ao a1 n c n1 c1 _ _ w1 (H.out.below b1) o1.lst (by omega) (by omega)
  rw [bval_bitsN, bval_bitsN] at hmu
  have HM := Lib.hid hmu
  have B1 := Lib.hid b1
  clear o1 b1 hmu
  go_wp2_with fail
  refine HM.out.mono ?_
  rintro e w2 ⟨a2, n2, c2, rfl, o2, b2⟩
  have B2 := Lib.hid (B1.out.trans (b2.mono B1.out.size))
  have HR := Lib.hid (round_c a2 bo n2 c2 m d (X * 10 ^ D) Y (K + K) up w2 o2.lst (K'.out.below B2.out) hXY.out hT.out (by omega) HY.out)
  clear o2 b2
  go_wp2_with fail
  refine HR.out.mono ?_
  rintro e w3 ⟨a3, n3, c3, rfl, o3, b3⟩
  go_wp2_with fail
  go_ret
  exact ⟨a3, n3, c3, rfl, o3.low B2.out.size, B2.out.trans (b3.mono B2.out.size)⟩

set_option maxHeartbeats 800000 in
/-- A normal form against a number in binary. -/
theorem fis_c (ao bo : Option Addr) (n c m d v : Nat) (ys : List Bool) (w : World) (h : Lst .u32 w ao n c (limbs v)) (k : LstB w bo m d ys) (hm : m ≤ 1073741824) (he : bval ys = v) :
    Calls Tryd.prog 22 #[.slice ao n c, .slice bo m d] w fun e w' => e = .returned (.bool true) ∧ Below w.heap.size w w' := by
  have ht := to_c bo m d ys w k hm
  rw [he] at ht
  have HT := Lib.hid ht
  have H := Lib.hid h
  clear ht h k
  go_enter Tryd.func22, Tryd.ntmps22
  go_wp2_with fail
  refine HT.out.mono ?_
  rintro e w1 ⟨a1, n1, c1, rfl, o1, b1⟩
  have hq := eq_c ao a1 n c n1 c1 _ _ w1 (H.out.below b1) o1.lst
  rw [decide_eq_true (show limbs v = limbs v from rfl)] at hq
  have HQ := Lib.hid hq
  clear hq o1
  go_wp2_with fail
  refine HQ.out.mono ?_
  rintro e w' ⟨rfl, q, rfl⟩
  go_wp2_with fail
  go_ret
  exact ⟨rfl, below_drewN b1 q⟩

theorem in7 (x : Int) : ∃ D : Nat, D ≤ 6 ∧ ((x.tmod 7 + 7).tmod 7) = (D : Int) ∧ -6 ≤ x.tmod 7 ∧ x.tmod 7 ≤ 6 := by
  have e := Int.tmod_eq_emod (a := x) (b := 7)
  have e0 : 0 ≤ x % 7 := Int.emod_nonneg _ (by omega)
  have e1 : x % 7 < 7 := Int.emod_lt_of_pos _ (by omega)
  have h2 : -6 ≤ x.tmod 7 ∧ x.tmod 7 ≤ 6 := by
    rw [e]
    split <;> omega
  have h3 : (x.tmod 7 + 7).tmod 7 = (x.tmod 7 + 7) % 7 := Int.tmod_eq_emod_of_nonneg (by omega)
  refine ⟨((x.tmod 7 + 7) % 7).toNat, by omega, by rw [h3]; omega, h2.1, h2.2⟩

/-- A number of digits that is allowed. -/
def Digs (e : Ending) : Prop := ∃ D : Nat, D ≤ 6 ∧ e = .returned (.int .i64 D)

set_option maxHeartbeats 800000 in
theorem in_c (x : Int) (w : World) :
    Calls Tryd.prog 19 #[.int .i64 x] w fun e w' => w = w' ∧ Digs e := by
  go_enter Tryd.func19, Tryd.ntmps19
  go_wp2_with fail
  go_ret
  obtain ⟨D, hD, he, h0, h1⟩ := in7 x
  have hw : wrap64 (x.tmod 7 + 7) = x.tmod 7 + 7 := by
    unfold wrap64
    generalize x.tmod 7 = y at *
    omega
  exact ⟨rfl, D, hD, by rw [hw, he]; rfl⟩

/-- The number of digits that x stands for, whatever the world. -/
theorem in_any (x : Int) : ∃ D : Nat, D ≤ 6 ∧ ∀ w, Calls Tryd.prog 19 #[.int .i64 x] w fun e w' => e = .returned (.int .i64 D) ∧ w' = w := by
  obtain ⟨D, hD, he, h0, h1⟩ := in7 x
  have hw : wrap64 (x.tmod 7 + 7) = x.tmod 7 + 7 := by
    unfold wrap64
    generalize x.tmod 7 = y at *
    omega
  refine ⟨D, hD, fun w => ?_⟩
  go_enter Tryd.func19, Tryd.ntmps19
  go_wp2_with fail
  go_ret
  exact ⟨rfl, rfl⟩
end Go.Proofs.YtmojcnlddfijjaaDoor

/-
  fixed.fractionText, fixed.Text.
-/
namespace Go.Proofs.YtmojcnlddfijjaaDoor
open Go.RowKit NatMath FixMath

theorem val_lt_160 {n : Nat} {P : Nat} (h : (limbs P).length = n) (hn : n ≤ 5) : P < 2 ^ 160 := by
  have h1 := val_lt (limbs_ok P)
  rw [val_limbs, h] at h1
  have h2 : 4294967296 ^ n ≤ 4294967296 ^ 5 := Nat.pow_le_pow_right (by omega) (by omega)
  have h3 : (4294967296 : Nat) ^ 5 ≤ 2 ^ 160 := by decide
  omega
theorem dec_len_160 {v : Nat} (h : v < 2 ^ 160) : (Lib.decDigits v).length ≤ 49 := by
  refine dec_len 48 v ?_
  have : (2 : Nat) ^ 160 ≤ 10 ^ 49 := by decide
  omega

set_option maxHeartbeats 1600000 in
theorem fraction_c (ao bo : Option Addr) (n c m d r D : Nat) (w : World) (h : Lst .u32 w ao n c (limbs r)) (k : Lst .u32 w bo m d (limbs (10 ^ D))) (hn : n ≤ 1000000) (hm : m ≤ 1000000) (hr : r < 10 ^ D) (hD : D ≤ 6) (htab : Tab w) :
    Calls Tryd.prog 65 #[.slice ao n c, .slice bo m d] w fun e w' => e = .returned (.string ⟨(low D r).toArray⟩) ∧ Below w.heap.size w w' := by
  have ha := add_c bo ao m d n c _ _ w k h (by omega) (by omega)
  rw [val_limbs, val_limbs] at ha
  have HA := Lib.hid ha
  have HT := Lib.hid htab
  have hd := dec_one D r hr
  have HDD := Lib.hid hd
  have hl := low_len D r
  obtain ⟨L, hL⟩ : ∃ L, Hid (L = low D r) := ⟨_, rfl⟩
  rw [← hL.out] at hl HDD
  have HL := Lib.hid hl
  have hsz : (⟨(49 :: L).toArray⟩ : ByteArray).size = D + 1 := by show (49 :: L).length = _; rw [List.length_cons, hl]
  obtain ⟨S, hS⟩ : ∃ S, Hid (S = (⟨(49 :: L).toArray⟩ : ByteArray)) := ⟨_, rfl⟩
  rw [← hS.out] at hsz
  have hsz1 : 1 ≤ S.size := by omega
  have HSZ := Lib.hid hsz
  clear ha htab hd hl hr hsz h k
  go_enter Tryd.func65, Tryd.ntmps65
  go_wp2_with fail
  refine HA.out.mono ?_
  rintro e w1 ⟨a1, n1, c1, rfl, hn1, o1, b1⟩
  have ht := text_c _ _ _ _ _ o1.lst (by omega) (HT.out.below b1)
  rw [val_limbs, HDD.out] at ht
  have ht2 : Calls Tryd.prog 64 #[.slice a1 n1 c1] w1 fun e w' => e = .returned (.string S) ∧ Below w1.heap.size w1 w' := ht.mono (by rintro e w' ⟨rfl, hb⟩; exact ⟨by rw [hS.out], hb⟩)
  have HX := Lib.hid ht2
  have B1 := Lib.hid b1
  clear ht ht2 o1 b1 HA
  go_wp2_with fail
  refine HX.out.mono ?_
  rintro e w2 ⟨rfl, b2⟩
  have B2 := B1.out.trans (b2.mono B1.out.size)
  clear b2 HX
  go_wp2_with fail
  go_ret
  refine ⟨?_, B2⟩
  show Ending.returned (.string (S.extract 1 S.size)) = _
  have e : S.extract 1 S.size = ⟨(low D r).toArray⟩ := by
    rw [HSZ.out, hS.out, ← hL.out]
    apply ByteArray.ext
    rw [ByteArray.data_extract]
    apply Array.ext'
    simp
    exact List.take_of_length_le (Nat.le_of_eq HL.out)
  rw [e]

set_option maxHeartbeats 3200000 in
theorem ftext_c (ao : Option Addr) (n c : Nat) (xs : List Int) (D : Nat) (w : World) (h : Lst .u32 w ao n c xs) (hn : n ≤ 4) (hD : D ≤ 6) (htab : Tab w) :
    Calls Tryd.prog 33 #[.slice ao n c, .int .i64 D] w fun e w' => e = .returned (.string ⟨(ftx (val xs) D).toArray⟩) ∧ Below w.heap.size w w' := by
  have HS := Lib.hid (scale_c D w hD)
  have H := Lib.hid h
  have HT := Lib.hid htab
  have HD6 := hD
  clear h htab hD
  by_cases h0 : D = 0
  · subst h0
    rw [show ftx (val xs) 0 = Lib.decDigits (val xs) from rfl]
    go_enter Tryd.func33, Tryd.ntmps33
    go_wp2_with fail
    refine HS.out.mono ?_
    rintro e w1 ⟨a1, n1, c1, hn1, rfl, o1, b1⟩
    have HX := Lib.hid (text_c ao n c xs w1 (H.out.below b1) (by omega) (HT.out.below b1))
    have B1 := Lib.hid b1
    clear o1 b1 HS
    go_wp2_with fail
    refine HX.out.mono ?_
    rintro e w2 ⟨rfl, b2⟩
    go_wp2_with fail
    go_ret
    exact ⟨rfl, B1.out.trans (b2.mono B1.out.size)⟩
  · have hb : ((D : Int) == 0) = false := by simpa using h0
    have hb2 : decide ((D : Int) = 0) = false := by simpa using h0
    have hp := Lib.hid (Nat.pos_iff_ne_zero.1 (Nat.pow_pos (n := D) (show 0 < 10 by omega)))
    obtain ⟨T, hT⟩ : ∃ T, Hid (T = (⟨(ftx (val xs) D).toArray⟩ : ByteArray)) := ⟨_, rfl⟩
    rw [← hT.out]
    have hq : (limbs (val xs / 10 ^ D)).length ≤ n := by
      rw [← H.out.len]
      exact Nat.le_trans (limbs_len_mono (Nat.div_le_self _ _)) (limbs_val_length H.out.ok)
    obtain ⟨Q, hQ⟩ : ∃ Q, Hid (Q = val xs / 10 ^ D) := ⟨_, rfl⟩
    obtain ⟨R, hR⟩ : ∃ R, Hid (R = val xs % 10 ^ D) := ⟨_, rfl⟩
    rw [← hQ.out] at hq
    have HQL := Lib.hid hq
    have hTT : T = (⟨(Lib.decDigits Q).toArray⟩ : ByteArray) ++ ⟨#[46]⟩ ++ ⟨(low D R).toArray⟩ := by
      rw [hT.out, hQ.out, hR.out, low_mod]
      unfold ftx
      rw [if_neg h0]
      apply ByteArray.ext
      simp
    have HTT := Lib.hid hTT
    have H0 := Lib.hid h0
    clear h0 hq hTT
    go_enter Tryd.func33, Tryd.ntmps33
    go_wp2_with fail
    refine HS.out.mono ?_
    rintro e w1 ⟨a1, n1, c1, hn1, rfl, o1, b1⟩
    have hd := div_c ao a1 n c n1 c1 xs _ w1 (H.out.below b1) o1.lst (by omega) (by rw [val_limbs]; exact hp.out)
    rw [val_limbs, ← hQ.out, ← hR.out] at hd
    have HD := Lib.hid hd
    have O1 := Lib.hid o1; have B1 := Lib.hid b1
    clear o1 b1 hd HS
    go_wp2_with fail
    refine HD.out.mono ?_
    rintro e w2 ⟨a2, n2, c2, a3, n3, c3, rfl, o2, o3, b2⟩
    have hn2 : n2 ≤ 4 := by have := o2.len; have := HQL.out; omega
    have hn3 : n3 ≤ 62 := by
      have h1 := o3.len
      have h2 : (limbs R).length ≤ (limbs (10 ^ D)).length := limbs_len_mono (by rw [hR.out]; exact Nat.le_of_lt (Nat.mod_lt _ (Nat.pos_of_ne_zero hp.out)))
      have h3 := O1.out.len
      omega
    have hdl := dec_len_160 (val_lt_160 o2.len (by omega))
    have hrl : Hid (R < 10 ^ D) := by show R < _; rw [hR.out]; exact Nat.mod_lt _ (Nat.pos_of_ne_zero hp.out)
    have O3 := Lib.hid o3; have O1' := Lib.hid (O1.out.kept b2)
    have B2 := Lib.hid (B1.out.trans (b2.mono B1.out.size))
    have ht := text_c _ _ _ _ w2 o2.lst (by omega) (HT.out.below B2.out)
    rw [val_limbs] at ht
    obtain ⟨S1, hS1⟩ : ∃ S, Hid (S = (⟨(Lib.decDigits Q).toArray⟩ : ByteArray)) := ⟨_, rfl⟩
    have hs1 : S1.size ≤ 49 := by rw [hS1.out]; exact hdl
    rw [← hS1.out] at ht HTT
    have HX := Lib.hid ht
    clear o2 o3 b2 ht hdl HD O1
    go_wp2_with fail
    refine HX.out.mono ?_
    rintro e w3 ⟨rfl, b3⟩
    have B3 := Lib.hid (B2.out.trans (b3.mono B2.out.size))
    have hf := fraction_c a3 a1 n3 c3 n1 c1 R D w3 (O3.out.kept b3).lst (O1'.out.kept b3).lst (by omega) (by omega) hrl.out HD6 (HT.out.below B3.out)
    obtain ⟨S2, hS2⟩ : ∃ S, Hid (S = (⟨(low D R).toArray⟩ : ByteArray)) := ⟨_, rfl⟩
    have hs2 : S2.size ≤ 6 := by rw [hS2.out]; show (low D R).length ≤ 6; rw [low_len]; exact HD6
    rw [← hS2.out] at hf HTT
    have HF := Lib.hid hf
    have hc1 : (S1 ++ (⟨#[46]⟩ : ByteArray)).size = S1.size + 1 := by rw [ByteArray.size_append]; rfl
    clear hf b3 HX
    go_wp2_with fail
    refine HF.out.mono ?_
    rintro e w4 ⟨rfl, b4⟩
    go_wp2_with fail
    go_ret
    exact ⟨by rw [HTT.out]; rfl, B3.out.trans (b4.mono B3.out.size)⟩
end Go.Proofs.YtmojcnlddfijjaaDoor

/-
  electionlaw03.Awake.
-/
namespace Go.Proofs.YtmojcnlddfijjaaDoor
open Go.RowKit NatMath FixMath

set_option maxHeartbeats 3200000 in
set_option maxRecDepth 100000 in
theorem fawake_c (w : World) (htab : Tab w) :
    Calls Tryd.prog 21 #[] w fun e w' => e = .returned (.bool true) ∧ Below w.heap.size w w' := by
  have e1 : rnd true (Int.toNat 1 * 10 ^ 2 * 10 ^ 2) (Int.toNat 3 * 10 ^ 2) = 34 := by decide
  have e2 : rnd false (34 * 34) (10 ^ 2) = 11 := by decide
  have t1 : (⟨(ftx 34 2).toArray⟩ : ByteArray) = ⟨#[48, 46, 51, 52]⟩ := by
    unfold ftx
    rw [if_neg (by decide), show 34 / 10 ^ 2 = 0 by decide, dec_small (by decide)]
    rfl
  have t2 : (⟨(ftx 11 2).toArray⟩ : ByteArray) = ⟨#[48, 46, 49, 49]⟩ := by
    unfold ftx
    rw [if_neg (by decide), show 11 / 10 ^ 2 = 0 by decide, dec_small (by decide)]
    rfl
  have E1 := Lib.hid e1; have E2 := Lib.hid e2; have T1 := Lib.hid t1; have T2 := Lib.hid t2
  have HT := Lib.hid htab
  clear e1 e2 t1 t2 htab
  have bb := Below.refl w.heap.size w
  go_enter Tryd.func21, Tryd.ntmps21
  have HC := Lib.hid (fof_c 1 2 w (by omega) (by omega) (by omega))
  go_wp2_with fail
  refine HC.out.mono ?_
  rintro e v1 ⟨a1, n1, c1, hn1, rfl, o1, k1⟩
  clear HC
  have L1 := o1.lst
  replace bb := Below.on bb k1 bb.size
  clear k1
  have HC := Lib.hid (fof_c 3 2 v1 (by omega) (by omega) (by omega))
  go_wp2_with fail
  refine HC.out.mono ?_
  rintro e v2 ⟨a2, n2, c2, hn2, rfl, o2, k2⟩
  clear HC
  have L2 := o2.lst
  replace L1 := L1.below k2
  replace bb := Below.on bb k2 bb.size
  clear k2
  have hd := fdiv_c _ _ _ _ _ _ _ _ 2 true v2 L1 L2 (by omega) (by omega) (by rw [val_limbs]; decide)
  rw [val_limbs, val_limbs, E1.out] at hd
  have HC := Lib.hid (hd)
  clear L1 L2
  go_wp2_with fail
  refine HC.out.mono ?_
  rintro e v3 ⟨a3, n3, c3, hn3, rfl, o3, k3⟩
  clear HC
  have L3 := o3.lst
  replace bb := Below.on bb k3 bb.size
  clear k3
  clear hd
  have hn3b : n3 ≤ 1 := by rw [← o3.len, limbs_pos (by decide), show 34 / 4294967296 = 0 by decide, limbs_zero]; decide
  have ht := ftext_c _ _ _ _ 2 v3 L3 (by omega) (by omega) (HT.out.below bb)
  rw [val_limbs, T1.out] at ht
  have HC := Lib.hid (ht)
  go_wp2_with fail
  refine HC.out.mono ?_
  rintro e v4 ⟨rfl, k4⟩
  clear HC
  replace L3 := L3.below k4
  replace bb := Below.on bb k4 bb.size
  clear k4
  clear ht
  have hm := fmul_c _ _ _ _ _ _ _ _ 2 false v4 L3 L3 (by omega) (by omega) (by omega)
  rw [val_limbs, E2.out] at hm
  have HC := Lib.hid (hm)
  clear L3
  go_wp2_with fail
  refine HC.out.mono ?_
  rintro e v5 ⟨a5, n5, c5, hn5, rfl, o5, k5⟩
  clear HC
  have L5 := o5.lst
  replace bb := Below.on bb k5 bb.size
  clear k5
  clear hm
  have hn5b : n5 ≤ 1 := by rw [← o5.len, limbs_pos (by decide), show 11 / 4294967296 = 0 by decide, limbs_zero]; decide
  have ht := ftext_c _ _ _ _ 2 v5 L5 (by omega) (by omega) (HT.out.below bb)
  rw [val_limbs, T2.out] at ht
  have HC := Lib.hid (ht)
  go_wp2_with fail
  refine HC.out.mono ?_
  rintro e v6 ⟨rfl, k6⟩
  clear HC
  replace L5 := L5.below k6
  replace bb := Below.on bb k6 bb.size
  clear k6
  clear ht
  go_wp2_with fail
  go_ret
  exact ⟨rfl, bb⟩
end Go.Proofs.YtmojcnlddfijjaaDoor
