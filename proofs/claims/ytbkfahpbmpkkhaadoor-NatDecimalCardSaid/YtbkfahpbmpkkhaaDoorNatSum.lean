/-
  The walk of NatSum.
-/
import Derived.Test.YtbkfahpbmpkkhaaDoorNatRing
import Derived.Test.YtbkfahpbmpkkhaaDoorNatRefAdd
namespace Go.Proofs.YtbkfahpbmpkkhaaDoor
open Go.RowKit NatMath

theorem val_lt_two {X : List Int} (h : Ok X) {n k : Nat} (hl : X.length = n) (hk : n ≤ k) : val X < 2 ^ (32 * k) := by
  have h1 := val_lt h
  have h2 : 4294967296 ^ X.length ≤ 4294967296 ^ k := Nat.pow_le_pow_right (by omega) (by omega)
  rw [Nat.pow_mul, show (2 ^ 32 : Nat) = 4294967296 by decide]
  omega
theorem OwnT.bound {B : Nat} {w : World} {ao : Option Addr} {n c v k : Nat} (h : OwnT B w ao n c (bitsN v)) (hv : v < 2 ^ k) : n ≤ k := by
  have h1 := bitsN_length v k hv
  have h2 := h.len
  omega

theorem two_add {a b k : Nat} (ha : a < 2 ^ k) (hb : b < 2 ^ k) : a + b < 2 ^ (k + 1) := by rw [Nat.pow_succ]; omega

theorem sum_bound {a b k : Nat} (ha : a < 2 ^ k) (hb : b < 2 ^ k) : ∃ K, K ≤ k + 1 ∧ Hid (a + b < 2 ^ K) := ⟨k + 1, Nat.le_refl _, two_add ha hb⟩

set_option maxHeartbeats 3200000 in
set_option maxRecDepth 100000 in
theorem sum_c (ao : Option Addr) (n c : Nat) (xs : List Int) (bo : Option Addr) (m d : Nat) (ys : List Int) (w : World)
    (h : Lst .u32 w ao n c xs) (k : Lst .u32 w bo m d ys) (htab : Tab w) :
    Calls Tryd.prog 3 #[.slice ao n c, .slice bo m d] w fun e w' => e = .returned (.bool true) ∧ Below w.heap.size w w' := by
  have HT := Lib.hid htab; clear htab
  go_enter Tryd.func3, Tryd.ntmps3
  go_wp2_with fail
  refine (short_c _ _ _ xs 8 _ h).mono ?_
  rintro e w' ⟨rfl, n1, hn1, rfl, La⟩
  go_wp2_with fail
  refine (short_c _ _ _ ys 8 _ k).mono ?_
  rintro e w' ⟨rfl, n2, hn2, rfl, Lb⟩
  clear h k
  obtain ⟨X, hX⟩ : ∃ X, Hid (X = xs.take 8) := ⟨_, rfl⟩
  obtain ⟨Y, hY⟩ : ∃ Y, Hid (Y = ys.take 8) := ⟨_, rfl⟩
  rw [← hX.out] at La
  rw [← hY.out] at Lb
  have BX := Lib.hid (val_lt_two La.ok La.len hn1)
  have BY := Lib.hid (val_lt_two Lb.ok Lb.len hn2)
  go_wp2_with fail
  refine (from_c _ _ _ X _ La (by omega)).mono ?_
  rintro e w1 ⟨a1, l1, c1, rfl, o1, b1⟩
  have T1 := o1.lst
  have hl1 := o1.bound BX.out
  have A1 := La.below b1; have B1 := Lb.below b1
  have bb1 := b1
  clear o1 b1 La Lb
  go_wp2_with fail
  refine (from_c _ _ _ Y _ B1 (by omega)).mono ?_
  rintro e w2 ⟨a2, l2, c2, rfl, o2, b2⟩
  have U2 := o2.lst
  have hl2 := o2.bound BY.out
  have A2 := A1.below b2; have B2 := B1.below b2; have T2 := T1.below b2
  have bb2 := Below.on bb1 b2 bb1.size
  clear o2 b2 A1 B1 T1 bb1
  obtain ⟨K, hK, BXY⟩ := sum_bound BX.out BY.out
  have BSUB : Hid (val X - val Y < 2 ^ (32 * 8)) := Nat.lt_of_le_of_lt (Nat.sub_le _ _) BX.out
  by_cases hlt : val X < val Y
  · have hc : cmpI (val X : Int) (val Y : Int) = -1 := by unfold cmpI; rw [if_pos (by omega)]
    have HC := Lib.hid hc
    have HS := Lib.hid (sub_lt_c _ _ _ _ _ _ X Y _ A2 B2 hlt)
    clear hc hlt
    go_wp2_with fail
    refine HS.out.mono ?_
    rintro e w' ⟨rfl, q, rfl⟩
    have A3 := A2.drewN q; have B3 := B2.drewN q; have T3 := T2.drewN q; have U3 := U2.drewN q
    have bb3 := below_drewN bb2 q
    clear A2 B2 T2 U2 bb2 HS
    have hk := cmpT_c _ _ _ _ _ _ _ _ _ T3 U3
    rw [bval_bitsN, bval_bitsN, HC.out] at hk
    have HK := Lib.hid hk
    clear hk
    go_wp2_with fail
    refine HK.out.mono ?_
    rintro e w' ⟨rfl, rfl⟩
    generalize w2.drewN q = w3 at *
    have ht3 : Tab w3 := HT.out.below bb3
    have HA := Lib.hid (awake_c w3 ht3)
    clear ht3
    go_wp2_with fail
    refine HA.out.mono ?_
    rintro e w4 ⟨rfl, b4⟩
    have A4 := A3.below b4; have B4 := B3.below b4; have T4 := T3.below b4; have U4 := U3.below b4
    have bb4 := Below.on bb3 b4 bb3.size
    clear b4 A3 B3 T3 U3 bb3 HA
    go_wp2_with fail
    refine (add_c _ _ _ _ _ _ X Y _ A4 B4 (by omega) (by omega)).mono ?_
    rintro e w5 ⟨a5, l5, c5, rfl, hl5, o5, b5⟩
    have S5 := o5.lst
    have A5 := A4.below b5; have B5 := B4.below b5; have T5 := T4.below b5; have U5 := U4.below b5
    have bb5 := Below.on bb4 b5 bb4.size
    clear o5 b5 A4 B4 T4 U4 bb4
    have hra := addT_c _ _ _ _ _ _ _ _ _ T5 U5 (by omega) (by omega)
    rw [bval_bitsN, bval_bitsN] at hra
    have HRA := Lib.hid hra
    clear hra
    go_wp2_with fail
    refine HRA.out.mono ?_
    rintro e w6 ⟨a6, l6, c6, rfl, o6, b6⟩
    have R6 := o6.lst
    have hl6 := o6.bound BXY.out
    have S6 := S5.below b6
    have A6 := A5.below b6; have B6 := B5.below b6; have T6 := T5.below b6; have U6 := U5.below b6
    have bb6 := Below.on bb5 b6 bb5.size
    clear o6 b6 A5 B5 T5 U5 S5 bb5 HRA
    have HI := Lib.hid (is_c _ _ _ _ _ _ _ _ _ S6 R6 (by omega) (bval_bitsN _))
    go_wp2_with fail
    refine HI.out.mono ?_
    rintro e w7 ⟨rfl, b7⟩
    have A7 := A6.below b7; have B7 := B6.below b7; have T7 := T6.below b7; have U7 := U6.below b7
    have bb7 := Below.on bb6 b7 bb6.size
    clear b7 A6 B6 T6 U6 S6 R6 bb6 HI
    go_wp2_with fail
    refine (cmp_c _ _ _ _ _ _ X Y _ A7 B7).mono ?_
    rintro e w' ⟨rfl, q7, rfl⟩
    have T8 := T7.drewN q7; have U8 := U7.drewN q7
    have bb8 := below_drewN bb7 q7
    clear A7 B7 T7 U7 bb7
    have hk := cmpT_c _ _ _ _ _ _ _ _ _ T8 U8
    rw [bval_bitsN, bval_bitsN] at hk
    have HK2 := Lib.hid hk
    clear hk
    go_wp2_with fail
    refine HK2.out.mono ?_
    rintro e w' ⟨rfl, rfl⟩
    go_wp2_with fail
    go_ret
    exact ⟨by simp, bb8⟩
  · have hge : val Y ≤ val X := by omega
    have hc : 0 ≤ cmpI (val X : Int) (val Y : Int) := by unfold cmpI; rw [if_neg (by omega)]; split <;> omega
    obtain ⟨g, hg⟩ : ∃ g, Hid (g = cmpI (val X) (val Y)) := ⟨_, rfl⟩
    rw [← hg.out] at hc
    have HGE := Lib.hid hge
    have HS := Lib.hid (sub_ge_c _ _ _ _ _ _ X Y _ A2 B2 (by omega) hge)
    have hgd : decide (g < 0) = false := by simpa using hc
    clear hge hlt
    go_wp2_with fail
    refine HS.out.mono ?_
    rintro e w2b ⟨a3, l3, c3, hl3, rfl, o3, b3⟩
    have S3 := o3.lst
    have A3 := A2.below b3; have B3 := B2.below b3; have T3 := T2.below b3; have U3 := U2.below b3
    have bb3 := Below.on bb2 b3 bb2.size
    clear o3 b3 A2 B2 T2 U2 bb2 HS
    have hk := cmpT_c _ _ _ _ _ _ _ _ _ T3 U3
    rw [bval_bitsN, bval_bitsN, ← hg.out] at hk
    have HK := Lib.hid hk
    clear hk
    go_wp2_with fail
    refine HK.out.mono ?_
    rintro e w' ⟨rfl, rfl⟩
    have hrs := subT_c _ _ _ _ _ _ _ _ _ T3 U3 (by omega) (by rw [bval_bitsN, bval_bitsN]; exact HGE.out)
    rw [bval_bitsN, bval_bitsN] at hrs
    have HRS := Lib.hid hrs
    clear hrs
    go_wp2_with fail
    refine HRS.out.mono ?_
    rintro e w2c ⟨a6, l6, c6, rfl, o6, b6⟩
    have hl6 := o6.bound BSUB.out
    have R6 := o6.lst
    have S6 := S3.below b6
    have A6 := A3.below b6; have B6 := B3.below b6; have T6 := T3.below b6; have U6 := U3.below b6
    have bb6 := Below.on bb3 b6 bb3.size
    clear o6 b6 A3 B3 T3 U3 S3 bb3 HRS
    have HI := Lib.hid (is_c _ _ _ _ _ _ _ _ _ S6 R6 (by omega) (bval_bitsN _))
    go_wp2_with fail
    refine HI.out.mono ?_
    rintro e w2d ⟨rfl, b7⟩
    have A3 := A6.below b7; have B3 := B6.below b7; have T3 := T6.below b7; have U3 := U6.below b7
    have bb3 := Below.on bb6 b7 bb6.size
    clear b7 A6 B6 T6 U6 S6 R6 bb6 HI
    obtain ⟨w3, rfl⟩ : ∃ x, x = w2d := ⟨_, rfl⟩
    have ht3 : Tab w3 := HT.out.below bb3
    have HA := Lib.hid (awake_c w3 ht3)
    clear ht3
    go_wp2_with fail
    refine HA.out.mono ?_
    rintro e w4 ⟨rfl, b4⟩
    have A4 := A3.below b4; have B4 := B3.below b4; have T4 := T3.below b4; have U4 := U3.below b4
    have bb4 := Below.on bb3 b4 bb3.size
    clear b4 A3 B3 T3 U3 bb3 HA
    go_wp2_with fail
    refine (add_c _ _ _ _ _ _ X Y _ A4 B4 (by omega) (by omega)).mono ?_
    rintro e w5 ⟨a5, l5, c5, rfl, hl5, o5, b5⟩
    have S5 := o5.lst
    have A5 := A4.below b5; have B5 := B4.below b5; have T5 := T4.below b5; have U5 := U4.below b5
    have bb5 := Below.on bb4 b5 bb4.size
    clear o5 b5 A4 B4 T4 U4 bb4
    have hra := addT_c _ _ _ _ _ _ _ _ _ T5 U5 (by omega) (by omega)
    rw [bval_bitsN, bval_bitsN] at hra
    have HRA := Lib.hid hra
    clear hra
    go_wp2_with fail
    refine HRA.out.mono ?_
    rintro e w6 ⟨a6, l6, c6, rfl, o6, b6⟩
    have R6 := o6.lst
    have hl6 := o6.bound BXY.out
    have S6 := S5.below b6
    have A6 := A5.below b6; have B6 := B5.below b6; have T6 := T5.below b6; have U6 := U5.below b6
    have bb6 := Below.on bb5 b6 bb5.size
    clear o6 b6 A5 B5 T5 U5 S5 bb5 HRA
    have HI := Lib.hid (is_c _ _ _ _ _ _ _ _ _ S6 R6 (by omega) (bval_bitsN _))
    go_wp2_with fail
    refine HI.out.mono ?_
    rintro e w7 ⟨rfl, b7⟩
    have A7 := A6.below b7; have B7 := B6.below b7; have T7 := T6.below b7; have U7 := U6.below b7
    have bb7 := Below.on bb6 b7 bb6.size
    clear b7 A6 B6 T6 U6 S6 R6 bb6 HI
    go_wp2_with fail
    refine (cmp_c _ _ _ _ _ _ X Y _ A7 B7).mono ?_
    rintro e w' ⟨rfl, q7, rfl⟩
    have T8 := T7.drewN q7; have U8 := U7.drewN q7
    have bb8 := below_drewN bb7 q7
    clear A7 B7 T7 U7 bb7
    have hk := cmpT_c _ _ _ _ _ _ _ _ _ T8 U8
    rw [bval_bitsN, bval_bitsN] at hk
    have HK2 := Lib.hid hk
    clear hk
    go_wp2_with fail
    refine HK2.out.mono ?_
    rintro e w' ⟨rfl, rfl⟩
    go_wp2_with fail
    go_ret
    exact ⟨by simp, bb8⟩
end Go.Proofs.YtbkfahpbmpkkhaaDoor
