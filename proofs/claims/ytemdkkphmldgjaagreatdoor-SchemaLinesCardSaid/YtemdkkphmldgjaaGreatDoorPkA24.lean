/-
  Texts of the proof, put together: SchEqS SchEqC SchBoxL SchEqF.
-/
import Derived.BigQuiet
import Derived.Test.YtemdkkphmldgjaaGreatDoorPkA11
import Derived.Test.YtemdkkphmldgjaaGreatDoorPkA18
import Derived.Test.YtemdkkphmldgjaaGreatDoorPkA21
import Derived.Test.YtemdkkphmldgjaaGreatDoorPkA23
set_option maxRecDepth 100000
set_option maxHeartbeats 25600000
namespace Go.Proofs.YtemdkkphmldgjaaGreatDoor
open Go.RowKit Lx
theorem sEqS_c {S1 S2 : World -> Nat -> Prop} (xs ys : List (List UInt8)) (ao bo : Option Addr) (n c m d : Nat) (w : World) (h : StrL S1 w ao n c xs) (k : StrL S2 w bo m d ys) :
    Calls Tryz.prog 49 #[.slice ao n c, .slice bo m d] w fun e w' => e = .returned (.bool (decide (xs = ys))) /\ Below w.heap.size w w' := by
 have hc1 := Row.cap h
 have hr1 := Row.room h
 have hc2 := Row.cap k
 have hr2 := Row.room k
 have l1 := StrL.len h
 have l2 := StrL.len k
 have H1 := Lib.hid (Row.low (Row.mono h any_of))
 have H2 := Lib.hid (Row.low (Row.mono k any_of))
 clear h k
 by_cases hnm : n = m
 . have hnb : ((n : Int) != (m : Int)) = false := by rw [hnm]; simp
   subst hnm
   have hl1 := Lib.hid l1
   have hl2 := Lib.hid l2
   clear l1 l2
   go_enter Tryz.func49, Tryz.ntmps49
   go_wp2_with fail
   go_loopw [13] (fun i wr => ∃ j : Nat, j <= n /\ i = .int .i64 (j : Int) /\ Hid (xs.take j = ys.take j) /\ Hid (Below w.heap.size w wr)) (fun i _ => n - (intOf i).toNat)
   case atStart => exact ⟨0, Nat.zero_le _, rfl, rfl, Below.refl _ _⟩
   case round =>
    obtain ⟨w1, hw1⟩ : ∃ x, x = wr := ⟨_, rfl⟩
    subst hw1
    obtain ⟨j, hj, rfl, HE, B⟩ := hrel
    by_cases hlt : j < n
    . have hlt' : (j : Int) < (n : Int) := by omega
      obtain ⟨x, a, hx, i1, c1⟩ := StrL.get (Row.keep H1.out (stable_low _) (keeps_low B.out)) j hlt
      obtain ⟨y, b, hy, i2, c2⟩ := StrL.get (Row.keep H2.out (stable_low _) (keeps_low B.out)) j hlt
      have hx := Lib.hid hx
      have hy := Lib.hid hy
      obtain ⟨KX, hKX⟩ : ∃ K, Hid (stg x = K) := ⟨_, rfl⟩
      obtain ⟨KY, hKY⟩ : ∃ K, Hid (stg y = K) := ⟨_, rfl⟩
      have hq := str_eq x y
      rw [hKX.out, hKY.out] at hq
      rw [hKX.out] at c1
      rw [hKY.out] at c2
      by_cases hxy : x = y
      . rw [decide_eq_true hxy] at hq
        have hq2 : (KX.toList != KY.toList) = false := by unfold bne; rw [hq]; rfl
        have HE2 : Hid (xs.take (j + 1) = ys.take (j + 1)) := by
         show _ = _
         rw [take_snoc hx.out, take_snoc hy.out, HE.out, hxy]
        clear hxy HE
        go_wp2_with fail
        go_quiet (fail)
        go_wp2_with fail
        go_roundw
        case rel => exact ⟨j + 1, by omega, by go_num, HE2, below_drewN B.out _⟩
        case measure => simp [intOf]; omega
      . rw [decide_eq_false hxy] at hq
        have hq2 : (KX.toList != KY.toList) = true := by unfold bne; rw [hq]; rfl
        have hD : Hid (decide (xs = ys) = false) := decide_eq_false (fun e => by
         rw [e, hy.out] at hx
         have h3 := hx.out
         injection h3 with h3
         exact hxy h3.symm)
        clear hxy HE
        go_wp2_with fail
        go_quiet (fail)
        go_wp2_with fail
        go_ret
        exact ⟨by rw [hD.out]; rfl, below_drewN B.out _⟩
    . have hlt' : ¬ (j : Int) < (n : Int) := by omega
      have hD : Hid (decide (xs = ys) = true) := decide_eq_true (by
       have h3 := HE.out
       rw [List.take_of_length_le (by have := hl1.out; omega), List.take_of_length_le (by have := hl2.out; omega)] at h3
       exact h3)
      clear HE
      go_wp2_with fail
      go_ret
      exact ⟨by rw [hD.out]; rfl, B.out⟩
 . have hnb : ((n : Int) != (m : Int)) = true := by simp; omega
   have hD : Hid (decide (xs = ys) = false) := decide_eq_false (fun e => hnm (by rw [<- l1, <- l2, e]))
   rw [hD.out]
   clear l1 l2 hnm
   go_enter Tryz.func49, Tryz.ntmps49
   go_wp2_with fail
   go_ret
   exact ⟨rfl, Below.refl _ _⟩
theorem sEqI_c {S1 S2 : World -> Nat -> Prop} (xs ys : List Int) (ao bo : Option Addr) (n c m d : Nat) (w : World) (h : IntL .i64 S1 w ao n c xs) (k : IntL .i64 S2 w bo m d ys) :
    Calls Tryz.prog 105 #[.slice ao n c, .slice bo m d] w fun e w' => e = .returned (.bool (decide (xs = ys))) /\ Below w.heap.size w w' := by
 have hc1 := Row.cap h
 have hr1 := Row.room h
 have hc2 := Row.cap k
 have hr2 := Row.room k
 have l1 := IntL.len h
 have l2 := IntL.len k
 have H1 := Lib.hid (Row.low (Row.mono h any_of))
 have H2 := Lib.hid (Row.low (Row.mono k any_of))
 clear h k
 by_cases hnm : n = m
 . have hnb : ((n : Int) != (m : Int)) = false := by rw [hnm]; simp
   subst hnm
   have hl1 := Lib.hid l1
   have hl2 := Lib.hid l2
   clear l1 l2
   go_enter Tryz.func105, Tryz.ntmps105
   go_wp2_with fail
   go_loopw [13] (fun i wr => ∃ j : Nat, j <= n /\ i = .int .i64 (j : Int) /\ Hid (xs.take j = ys.take j) /\ Hid (Below w.heap.size w wr)) (fun i _ => n - (intOf i).toNat)
   case atStart => exact ⟨0, Nat.zero_le _, rfl, rfl, Below.refl _ _⟩
   case round =>
    obtain ⟨w1, hw1⟩ : ∃ x, x = wr := ⟨_, rfl⟩
    subst hw1
    obtain ⟨j, hj, rfl, HE, B⟩ := hrel
    by_cases hlt : j < n
    . have hlt' : (j : Int) < (n : Int) := by omega
      obtain ⟨x, a, hx, i1, c1⟩ := IntL.get Tryz.underlying58 (show (Tryz.prog.info? 3).map (·.size) = some 1 by kernel_rfl) (Row.keep H1.out (stable_low _) (keeps_low B.out)) j hlt
      obtain ⟨y, b, hy, i2, c2⟩ := IntL.get Tryz.underlying58 (show (Tryz.prog.info? 3).map (·.size) = some 1 by kernel_rfl) (Row.keep H2.out (stable_low _) (keeps_low B.out)) j hlt
      have hx := Lib.hid hx
      have hy := Lib.hid hy
      have hq : (x == y) = decide (x = y) := by by_cases e : x = y <;> simp [e]
      by_cases hxy : x = y
      . rw [decide_eq_true hxy] at hq
        have hq2 : (x != y) = false := by unfold bne; rw [hq]; rfl
        have HE2 : Hid (xs.take (j + 1) = ys.take (j + 1)) := by
         show _ = _
         rw [take_snoc hx.out, take_snoc hy.out, HE.out, hxy]
        clear hxy HE
        go_wp2_with fail
        go_quiet (fail)
        go_wp2_with fail
        go_roundw
        case rel => exact ⟨j + 1, by omega, by go_num, HE2, below_drewN B.out _⟩
        case measure => simp [intOf]; omega
      . rw [decide_eq_false hxy] at hq
        have hq2 : (x != y) = true := by unfold bne; rw [hq]; rfl
        have hD : Hid (decide (xs = ys) = false) := decide_eq_false (fun e => by
         rw [e, hy.out] at hx
         have h3 := hx.out
         injection h3 with h3
         exact hxy h3.symm)
        clear hxy HE
        go_wp2_with fail
        go_quiet (fail)
        go_wp2_with fail
        go_ret
        exact ⟨by rw [hD.out]; rfl, below_drewN B.out _⟩
    . have hlt' : ¬ (j : Int) < (n : Int) := by omega
      have hD : Hid (decide (xs = ys) = true) := decide_eq_true (by
       have h3 := HE.out
       rw [List.take_of_length_le (by have := hl1.out; omega), List.take_of_length_le (by have := hl2.out; omega)] at h3
       exact h3)
      clear HE
      go_wp2_with fail
      go_ret
      exact ⟨by rw [hD.out]; rfl, B.out⟩
 . have hnb : ((n : Int) != (m : Int)) = true := by simp; omega
   have hD : Hid (decide (xs = ys) = false) := decide_eq_false (fun e => hnm (by rw [<- l1, <- l2, e]))
   rw [hD.out]
   clear l1 l2 hnm
   go_enter Tryz.func105, Tryz.ntmps105
   go_wp2_with fail
   go_ret
   exact ⟨rfl, Below.refl _ _⟩
end Go.Proofs.YtemdkkphmldgjaaGreatDoor
namespace Go.Proofs.YtemdkkphmldgjaaGreatDoor
open Go.RowKit Lx
theorem eqCstB_c (B0 B1 B2 B3 B4 B5 B6 B7 B8 : Bool) (x0 y0 : ByteArray) (x2 x3 x4 x5 x6 x7 x8 y2 y3 y4 y5 y6 y7 y8 : Int) (xo1 yo1 : Option Addr) (xn1 xc1 yn1 yc1 : Nat) (w : World)
    (t0 : (x0.toList == y0.toList) = B0)
    (H1 : Hid (∀ W, Below w.heap.size w W -> Calls Tryz.prog 49 #[.slice xo1 xn1 xc1, .slice yo1 yn1 yc1] W fun e w' => e = .returned (.bool B1) /\ Below W.heap.size W w')) (t2 : (x2 == y2) = B2) (t3 : (x3 == y3) = B3) (t4 : (x4 == y4) = B4) (t5 : (x5 == y5) = B5) (t6 : (x6 == y6) = B6) (t7 : (x7 == y7) = B7) (t8 : (x8 == y8) = B8) :
    Calls Tryz.prog 51 #[.agg #[.string x0, .slice xo1 xn1 xc1, .int .i64 x2, .int .i64 x3, .int .i64 x4, .int .i64 x5, .int .i64 x6, .int .i64 x7, .int .i64 x8], .agg #[.string y0, .slice yo1 yn1 yc1, .int .i64 y2, .int .i64 y3, .int .i64 y4, .int .i64 y5, .int .i64 y6, .int .i64 y7, .int .i64 y8]] w fun e w' => e = .returned (.bool (B0 && B1 && B2 && B3 && B4 && B5 && B6 && B7 && B8)) /\ Below w.heap.size w w' := by
 obtain ⟨V, e1, AV, BV, hz⟩ := new_box w 76 [.string x0, .slice xo1 xn1 xc1, .int .i64 x2, .int .i64 x3, .int .i64 x4, .int .i64 x5, .int .i64 x6, .int .i64 x7, .int .i64 x8]
 obtain ⟨U, e2, AU, BU, hz2⟩ := new_box V 76 [.string y0, .slice yo1 yn1 yc1, .int .i64 y2, .int .i64 y3, .int .i64 y4, .int .i64 y5, .int .i64 y6, .int .i64 y7, .int .i64 y8]
 have A0 := AV.kept BU
 have u0 : U.cell? ⟨w.heap.size, 0, none⟩ = some (.string x0) := A0.cell 0
 have v0 : U.cell? ⟨V.heap.size, 0, none⟩ = some (.string y0) := AU.cell 0
 have u1 : U.cell? ⟨w.heap.size, 1, none⟩ = some (.slice xo1 xn1 xc1) := A0.cell 1
 have v1 : U.cell? ⟨V.heap.size, 1, none⟩ = some (.slice yo1 yn1 yc1) := AU.cell 1
 have u2 : U.cell? ⟨w.heap.size, 2, none⟩ = some (.int .i64 x2) := A0.cell 2
 have v2 : U.cell? ⟨V.heap.size, 2, none⟩ = some (.int .i64 y2) := AU.cell 2
 have u3 : U.cell? ⟨w.heap.size, 3, none⟩ = some (.int .i64 x3) := A0.cell 3
 have v3 : U.cell? ⟨V.heap.size, 3, none⟩ = some (.int .i64 y3) := AU.cell 3
 have u4 : U.cell? ⟨w.heap.size, 4, none⟩ = some (.int .i64 x4) := A0.cell 4
 have v4 : U.cell? ⟨V.heap.size, 4, none⟩ = some (.int .i64 y4) := AU.cell 4
 have u5 : U.cell? ⟨w.heap.size, 5, none⟩ = some (.int .i64 x5) := A0.cell 5
 have v5 : U.cell? ⟨V.heap.size, 5, none⟩ = some (.int .i64 y5) := AU.cell 5
 have u6 : U.cell? ⟨w.heap.size, 6, none⟩ = some (.int .i64 x6) := A0.cell 6
 have v6 : U.cell? ⟨V.heap.size, 6, none⟩ = some (.int .i64 y6) := AU.cell 6
 have u7 : U.cell? ⟨w.heap.size, 7, none⟩ = some (.int .i64 x7) := A0.cell 7
 have v7 : U.cell? ⟨V.heap.size, 7, none⟩ = some (.int .i64 y7) := AU.cell 7
 have u8 : U.cell? ⟨w.heap.size, 8, none⟩ = some (.int .i64 x8) := A0.cell 8
 have v8 : U.cell? ⟨V.heap.size, 8, none⟩ = some (.int .i64 y8) := AU.cell 8
 have HB : Hid (Below w.heap.size w U) := BV.trans (BU.mono BV.size)
 clear A0 AV AU BV BU hz hz2
 go_enter Tryz.func51, Tryz.ntmps51
 iterate 10 all_goals
   (try (first | cases ‹B0 = true› | cases ‹B1 = true› | cases ‹B2 = true› | cases ‹B3 = true› | cases ‹B4 = true› | cases ‹B5 = true› | cases ‹B6 = true› | cases ‹B7 = true› | cases ‹B8 = true›)
    go_wp2_with (first
     | (go_at_call 49; (with_reducible refine (H1.out U HB.out).mono ?_); rintro e w0 ⟨rfl, D0⟩; have au2 := cell_keep u2 D0; have av2 := cell_keep v2 D0; have au3 := cell_keep u3 D0; have av3 := cell_keep v3 D0; have au4 := cell_keep u4 D0; have av4 := cell_keep v4 D0; have au5 := cell_keep u5 D0; have av5 := cell_keep v5 D0; have au6 := cell_keep u6 D0; have av6 := cell_keep v6 D0; have au7 := cell_keep u7 D0; have av7 := cell_keep v7 D0; have au8 := cell_keep u8 D0; have av8 := cell_keep v8 D0; have C0 := Lib.hid (HB.out.trans (D0.mono HB.out.size)))
     | fail))
 all_goals
   go_ret
   refine ⟨?_, by first | exact C0.out | exact HB.out⟩
   first
     | rfl
     | (obtain rfl := eq_false_of_ne_true ‹¬B0 = true›; rfl)
     | (obtain rfl := eq_false_of_ne_true ‹¬B1 = true›; rfl)
     | (obtain rfl := eq_false_of_ne_true ‹¬B2 = true›; rfl)
     | (obtain rfl := eq_false_of_ne_true ‹¬B3 = true›; rfl)
     | (obtain rfl := eq_false_of_ne_true ‹¬B4 = true›; rfl)
     | (obtain rfl := eq_false_of_ne_true ‹¬B5 = true›; rfl)
     | (obtain rfl := eq_false_of_ne_true ‹¬B6 = true›; rfl)
     | (obtain rfl := eq_false_of_ne_true ‹¬B7 = true›; rfl)
     | (obtain rfl := eq_false_of_ne_true ‹¬B8 = true›; rfl)
theorem eqStyB_c (B0 B1 B2 : Bool) (x0 y0 : ByteArray) (xo1 xo2 yo1 yo2 : Option Addr) (xn1 xc1 xn2 xc2 yn1 yc1 yn2 yc2 : Nat) (w : World)
    (t0 : (x0.toList == y0.toList) = B0)
    (H1 : Hid (∀ W, Below w.heap.size w W -> Calls Tryz.prog 105 #[.slice xo1 xn1 xc1, .slice yo1 yn1 yc1] W fun e w' => e = .returned (.bool B1) /\ Below W.heap.size W w'))
    (H2 : Hid (∀ W, Below w.heap.size w W -> Calls Tryz.prog 105 #[.slice xo2 xn2 xc2, .slice yo2 yn2 yc2] W fun e w' => e = .returned (.bool B2) /\ Below W.heap.size W w')) :
    Calls Tryz.prog 53 #[.agg #[.string x0, .slice xo1 xn1 xc1, .slice xo2 xn2 xc2], .agg #[.string y0, .slice yo1 yn1 yc1, .slice yo2 yn2 yc2]] w fun e w' => e = .returned (.bool (B0 && B1 && B2)) /\ Below w.heap.size w w' := by
 obtain ⟨V, e1, AV, BV, hz⟩ := new_box w 60 [.string x0, .slice xo1 xn1 xc1, .slice xo2 xn2 xc2]
 obtain ⟨U, e2, AU, BU, hz2⟩ := new_box V 60 [.string y0, .slice yo1 yn1 yc1, .slice yo2 yn2 yc2]
 have A0 := AV.kept BU
 have u0 : U.cell? ⟨w.heap.size, 0, none⟩ = some (.string x0) := A0.cell 0
 have v0 : U.cell? ⟨V.heap.size, 0, none⟩ = some (.string y0) := AU.cell 0
 have u1 : U.cell? ⟨w.heap.size, 1, none⟩ = some (.slice xo1 xn1 xc1) := A0.cell 1
 have v1 : U.cell? ⟨V.heap.size, 1, none⟩ = some (.slice yo1 yn1 yc1) := AU.cell 1
 have u2 : U.cell? ⟨w.heap.size, 2, none⟩ = some (.slice xo2 xn2 xc2) := A0.cell 2
 have v2 : U.cell? ⟨V.heap.size, 2, none⟩ = some (.slice yo2 yn2 yc2) := AU.cell 2
 have HB : Hid (Below w.heap.size w U) := BV.trans (BU.mono BV.size)
 clear A0 AV AU BV BU hz hz2
 go_enter Tryz.func53, Tryz.ntmps53
 iterate 4 all_goals
   (try (first | cases ‹B0 = true› | cases ‹B1 = true› | cases ‹B2 = true›)
    go_wp2_with (first
     | (go_at_call 105; (with_reducible refine (H1.out U HB.out).mono ?_); rintro e w0 ⟨rfl, D0⟩; have au2 := cell_keep u2 D0; have av2 := cell_keep v2 D0; have C0 := Lib.hid (HB.out.trans (D0.mono HB.out.size)))
     | (go_at_call 105; (with_reducible refine (H2.out w0 C0.out).mono ?_); rintro e w1 ⟨rfl, D1⟩; have C1 := Lib.hid (C0.out.trans (D1.mono C0.out.size)))
     | fail))
 all_goals
   go_ret
   refine ⟨?_, by first | exact C1.out | exact C0.out | exact HB.out⟩
   first
     | rfl
     | (obtain rfl := eq_false_of_ne_true ‹¬B0 = true›; rfl)
     | (obtain rfl := eq_false_of_ne_true ‹¬B1 = true›; rfl)
     | (obtain rfl := eq_false_of_ne_true ‹¬B2 = true›; rfl)
theorem eqCst_c (x y : Cst) (uo zo : Option Addr) (un uc zn zc : Nat) (w : World) (h : StrL anyF w uo un uc x.cands) (k : StrL anyF w zo zn zc y.cands) :
    Calls Tryz.prog 51 #[.agg #[.string (stg x.name), .slice uo un uc, .int .i64 x.method, .int .i64 x.seats, .int .i64 x.ranks, .int .i64 x.digits, .int .i64 x.ties, .int .i64 x.over, .int .i64 x.skip], .agg #[.string (stg y.name), .slice zo zn zc, .int .i64 y.method, .int .i64 y.seats, .int .i64 y.ranks, .int .i64 y.digits, .int .i64 y.ties, .int .i64 y.over, .int .i64 y.skip]] w fun e w' => e = .returned (.bool (decide (x.name = y.name) && decide (x.cands = y.cands) && decide (x.method = y.method) && decide (x.seats = y.seats) && decide (x.ranks = y.ranks) && decide (x.digits = y.digits) && decide (x.ties = y.ties) && decide (x.over = y.over) && decide (x.skip = y.skip))) /\ Below w.heap.size w w' :=
 eqCstB_c _ _ _ _ _ _ _ _ _ _ _ _ _ _ _ _ _ _ _ _ _ _ _ _ _ _ _ _ _ _ _ w (str_eq x.name y.name) (fun W hb => sEqS_c x.cands y.cands uo zo un uc zn zc W (StrL.below h hb) (StrL.below k hb)) rfl rfl rfl rfl rfl rfl rfl
theorem eqSty_c (x y : Sty) (uo zo po qo : Option Addr) (un uc zn zc pn pc qn qc : Nat) (w : World) (h : IntL .i64 anyF w uo un uc x.precs) (k : IntL .i64 anyF w zo zn zc y.precs) (h2 : IntL .i64 anyF w po pn pc x.conts) (k2 : IntL .i64 anyF w qo qn qc y.conts) :
    Calls Tryz.prog 53 #[.agg #[.string (stg x.name), .slice uo un uc, .slice po pn pc], .agg #[.string (stg y.name), .slice zo zn zc, .slice qo qn qc]] w fun e w' => e = .returned (.bool (decide (x.name = y.name) && decide (x.precs = y.precs) && decide (x.conts = y.conts))) /\ Below w.heap.size w w' :=
 eqStyB_c _ _ _ _ _ _ _ _ _ _ _ _ _ _ _ _ _ w (str_eq x.name y.name) (fun W hb => sEqI_c x.precs y.precs uo zo un uc zn zc W (Row.keep h stable_any (keeps_below _ hb)) (Row.keep k stable_any (keeps_below _ hb))) (fun W hb => sEqI_c x.conts y.conts po qo pn pc qn qc W (Row.keep h2 stable_any (keeps_below _ hb)) (Row.keep k2 stable_any (keeps_below _ hb)))
end Go.Proofs.YtemdkkphmldgjaaGreatDoor
namespace Go.Proofs.YtemdkkphmldgjaaGreatDoor
open Go.RowKit Lx
theorem box_let9 {w : World} {g : Nat} {t : TypeId} {v0 v1 v2 v3 v4 v5 v6 v7 v8 : Value} (h : Arr w g t [v0, v1, v2, v3, v4, v5, v6, v7, v8]) (u0 u1 u2 u3 u4 u5 u6 u7 u8 : Value) : ∃ Z0 Z1 Z2 Z3 Z4 Z5 Z6 Z7 Z8, w.setCell ⟨g, 0, none⟩ u0 = Z0 /\ Z0.setCell ⟨g, 1, none⟩ u1 = Z1 /\ Z1.setCell ⟨g, 2, none⟩ u2 = Z2 /\ Z2.setCell ⟨g, 3, none⟩ u3 = Z3 /\ Z3.setCell ⟨g, 4, none⟩ u4 = Z4 /\ Z4.setCell ⟨g, 5, none⟩ u5 = Z5 /\ Z5.setCell ⟨g, 6, none⟩ u6 = Z6 /\ Z6.setCell ⟨g, 7, none⟩ u7 = Z7 /\ Z7.setCell ⟨g, 8, none⟩ u8 = Z8 /\ Arr Z8 g t [u0, u1, u2, u3, u4, u5, u6, u7, u8] /\ w.grownBy Z8 (some g) /\ (∀ (B : Nat) (a : World), Below B a w -> B <= g -> Below B a Z8) /\ w.cell? ⟨g, 0, none⟩ = some v0 /\ w.frozen? ⟨g, 0, none⟩ = false /\ Z0.cell? ⟨g, 1, none⟩ = some v1 /\ Z0.frozen? ⟨g, 1, none⟩ = false /\ Z1.cell? ⟨g, 2, none⟩ = some v2 /\ Z1.frozen? ⟨g, 2, none⟩ = false /\ Z2.cell? ⟨g, 3, none⟩ = some v3 /\ Z2.frozen? ⟨g, 3, none⟩ = false /\ Z3.cell? ⟨g, 4, none⟩ = some v4 /\ Z3.frozen? ⟨g, 4, none⟩ = false /\ Z4.cell? ⟨g, 5, none⟩ = some v5 /\ Z4.frozen? ⟨g, 5, none⟩ = false /\ Z5.cell? ⟨g, 6, none⟩ = some v6 /\ Z5.frozen? ⟨g, 6, none⟩ = false /\ Z6.cell? ⟨g, 7, none⟩ = some v7 /\ Z6.frozen? ⟨g, 7, none⟩ = false /\ Z7.cell? ⟨g, 8, none⟩ = some v8 /\ Z7.frozen? ⟨g, 8, none⟩ = false := by
 obtain ⟨V, e, A, G, L, r⟩ := put_box9 h u0 u1 u2 u3 u4 u5 u6 u7 u8
 subst e
 exact ⟨_, _, _, _, _, _, _, _, _, rfl, rfl, rfl, rfl, rfl, rfl, rfl, rfl, rfl, A, G, L, r⟩
theorem box_let14 {w : World} {g : Nat} {t : TypeId} {v0 v1 v2 v3 v4 v5 v6 v7 v8 v9 v10 v11 v12 v13 : Value} (h : Arr w g t [v0, v1, v2, v3, v4, v5, v6, v7, v8, v9, v10, v11, v12, v13]) (u0 u1 u2 u3 u4 u5 u6 u7 u8 u9 u10 u11 u12 u13 : Value) : ∃ Z0 Z1 Z2 Z3 Z4 Z5 Z6 Z7 Z8 Z9 Z10 Z11 Z12 Z13, w.setCell ⟨g, 0, none⟩ u0 = Z0 /\ Z0.setCell ⟨g, 1, none⟩ u1 = Z1 /\ Z1.setCell ⟨g, 2, none⟩ u2 = Z2 /\ Z2.setCell ⟨g, 3, none⟩ u3 = Z3 /\ Z3.setCell ⟨g, 4, none⟩ u4 = Z4 /\ Z4.setCell ⟨g, 5, none⟩ u5 = Z5 /\ Z5.setCell ⟨g, 6, none⟩ u6 = Z6 /\ Z6.setCell ⟨g, 7, none⟩ u7 = Z7 /\ Z7.setCell ⟨g, 8, none⟩ u8 = Z8 /\ Z8.setCell ⟨g, 9, none⟩ u9 = Z9 /\ Z9.setCell ⟨g, 10, none⟩ u10 = Z10 /\ Z10.setCell ⟨g, 11, none⟩ u11 = Z11 /\ Z11.setCell ⟨g, 12, none⟩ u12 = Z12 /\ Z12.setCell ⟨g, 13, none⟩ u13 = Z13 /\ Arr Z13 g t [u0, u1, u2, u3, u4, u5, u6, u7, u8, u9, u10, u11, u12, u13] /\ w.grownBy Z13 (some g) /\ (∀ (B : Nat) (a : World), Below B a w -> B <= g -> Below B a Z13) /\ w.cell? ⟨g, 0, none⟩ = some v0 /\ w.frozen? ⟨g, 0, none⟩ = false /\ Z0.cell? ⟨g, 1, none⟩ = some v1 /\ Z0.frozen? ⟨g, 1, none⟩ = false /\ Z1.cell? ⟨g, 2, none⟩ = some v2 /\ Z1.frozen? ⟨g, 2, none⟩ = false /\ Z2.cell? ⟨g, 3, none⟩ = some v3 /\ Z2.frozen? ⟨g, 3, none⟩ = false /\ Z3.cell? ⟨g, 4, none⟩ = some v4 /\ Z3.frozen? ⟨g, 4, none⟩ = false /\ Z4.cell? ⟨g, 5, none⟩ = some v5 /\ Z4.frozen? ⟨g, 5, none⟩ = false /\ Z5.cell? ⟨g, 6, none⟩ = some v6 /\ Z5.frozen? ⟨g, 6, none⟩ = false /\ Z6.cell? ⟨g, 7, none⟩ = some v7 /\ Z6.frozen? ⟨g, 7, none⟩ = false /\ Z7.cell? ⟨g, 8, none⟩ = some v8 /\ Z7.frozen? ⟨g, 8, none⟩ = false /\ Z8.cell? ⟨g, 9, none⟩ = some v9 /\ Z8.frozen? ⟨g, 9, none⟩ = false /\ Z9.cell? ⟨g, 10, none⟩ = some v10 /\ Z9.frozen? ⟨g, 10, none⟩ = false /\ Z10.cell? ⟨g, 11, none⟩ = some v11 /\ Z10.frozen? ⟨g, 11, none⟩ = false /\ Z11.cell? ⟨g, 12, none⟩ = some v12 /\ Z11.frozen? ⟨g, 12, none⟩ = false /\ Z12.cell? ⟨g, 13, none⟩ = some v13 /\ Z12.frozen? ⟨g, 13, none⟩ = false := by
 obtain ⟨V, e, A, G, L, r⟩ := put_box14 h u0 u1 u2 u3 u4 u5 u6 u7 u8 u9 u10 u11 u12 u13
 subst e
 exact ⟨_, _, _, _, _, _, _, _, _, _, _, _, _, _, rfl, rfl, rfl, rfl, rfl, rfl, rfl, rfl, rfl, rfl, rfl, rfl, rfl, rfl, A, G, L, r⟩
end Go.Proofs.YtemdkkphmldgjaaGreatDoor
namespace Go.Proofs.YtemdkkphmldgjaaGreatDoor
open Go.RowKit Lx
namespace Lx
def eqC (x y : Cst) : Bool := decide (x.name = y.name) && decide (x.cands = y.cands) && decide (x.method = y.method) && decide (x.seats = y.seats) && decide (x.ranks = y.ranks) && decide (x.digits = y.digits) && decide (x.ties = y.ties) && decide (x.over = y.over) && decide (x.skip = y.skip)
def eqT (x y : Sty) : Bool := decide (x.name = y.name) && decide (x.precs = y.precs) && decide (x.conts = y.conts)
def allE {α : Type} (f : α -> α -> Bool) : List α -> List α -> Bool
  | [], [] => true
  | x :: xs, y :: ys => f x y && allE f xs ys
  | _, _ => false
theorem allE_len {α : Type} {f : α -> α -> Bool} : ∀ {xs ys : List α}, xs.length ≠ ys.length -> allE f xs ys = false
  | [], [], h => absurd rfl h
  | [], _ :: _, _ => rfl
  | _ :: _, [], _ => rfl
  | x :: xs, y :: ys, h => by
   rw [allE, allE_len (by simpa using h), Bool.and_false]
theorem allE_snoc {α : Type} {f : α -> α -> Bool} (x y : α) : ∀ (xs ys : List α), xs.length = ys.length -> allE f (xs ++ [x]) (ys ++ [y]) = (allE f xs ys && f x y)
  | [], [], _ => by simp [allE]
  | [], _ :: _, h => absurd h (by simp)
  | _ :: _, [], h => absurd h (by simp)
  | a :: xs, b :: ys, h => by
   rw [List.cons_append, List.cons_append, allE, allE, allE_snoc x y xs ys (by simpa using h), Bool.and_assoc]
theorem allE_no {α : Type} {f : α -> α -> Bool} : ∀ {xs ys : List α} {j : Nat} {x y : α}, xs[j]? = some x -> ys[j]? = some y -> f x y = false -> allE f xs ys = false
  | [], _, _, _, _, h, _, _ => by simp at h
  | _ :: _, [], _, _, _, _, h, _ => by simp at h
  | a :: xs, b :: ys, 0, x, y, h, k, e => by
   have h1 : a = x := by simpa using h
   have h2 : b = y := by simpa using k
   subst h1 h2
   rw [allE, e, Bool.false_and]
  | a :: xs, b :: ys, j + 1, x, y, h, k, e => by
   rw [allE, allE_no (by simpa using h) (by simpa using k) e, Bool.and_false]
def eqCL (xs ys : List Cst) : Bool := allE eqC xs ys
def eqTL (xs ys : List Sty) : Bool := allE eqT xs ys
theorem eqCL_len {xs ys : List Cst} (h : xs.length ≠ ys.length) : eqCL xs ys = false := allE_len h
theorem eqTL_len {xs ys : List Sty} (h : xs.length ≠ ys.length) : eqTL xs ys = false := allE_len h
theorem eqCL_snoc (xs ys : List Cst) (x y : Cst) (h : xs.length = ys.length) : eqCL (xs ++ [x]) (ys ++ [y]) = (eqCL xs ys && eqC x y) := allE_snoc x y xs ys h
theorem eqTL_snoc (xs ys : List Sty) (x y : Sty) (h : xs.length = ys.length) : eqTL (xs ++ [x]) (ys ++ [y]) = (eqTL xs ys && eqT x y) := allE_snoc x y xs ys h
theorem eqCL_no {xs ys : List Cst} {j : Nat} {x y : Cst} (h : xs[j]? = some x) (k : ys[j]? = some y) (_ : xs.length = ys.length) (e : eqC x y = false) : eqCL xs ys = false := allE_no h k e
theorem eqTL_no {xs ys : List Sty} {j : Nat} {x y : Sty} (h : xs[j]? = some x) (k : ys[j]? = some y) (_ : xs.length = ys.length) (e : eqT x y = false) : eqTL xs ys = false := allE_no h k e
end Lx
theorem box_let3 {w : World} {g : Nat} {t : TypeId} {v0 v1 v2 : Value} (h : Arr w g t [v0, v1, v2]) (u0 u1 u2 : Value) : ∃ Z0 Z1 Z2, w.setCell ⟨g, 0, none⟩ u0 = Z0 /\ Z0.setCell ⟨g, 1, none⟩ u1 = Z1 /\ Z1.setCell ⟨g, 2, none⟩ u2 = Z2 /\ Arr Z2 g t [u0, u1, u2] /\ w.grownBy Z2 (some g) /\ (∀ (B : Nat) (a : World), Below B a w -> B <= g -> Below B a Z2) /\ w.cell? ⟨g, 0, none⟩ = some v0 /\ w.frozen? ⟨g, 0, none⟩ = false /\ Z0.cell? ⟨g, 1, none⟩ = some v1 /\ Z0.frozen? ⟨g, 1, none⟩ = false /\ Z1.cell? ⟨g, 2, none⟩ = some v2 /\ Z1.frozen? ⟨g, 2, none⟩ = false := by
 have h0 := h.set 0 u0
 have h1 := h0.set 1 u1
 have h2 := h1.set 2 u2
 refine ⟨_, _, _, rfl, rfl, rfl, h2, grown_trans (grown_trans (set_grown w g 0 u0) (set_grown _ g 1 u1)) (set_grown _ g 2 u2), fun B a hb hB => ((hb.setCell (p := ⟨_, 0, none⟩) hB _).setCell (p := ⟨_, 1, none⟩) hB _).setCell (p := ⟨_, 2, none⟩) hB _, h.cell 0, h.frozen 0, h0.cell 1, h0.frozen 1, h1.cell 2, h1.frozen 2⟩
theorem eqFC_c (xs ys : List Cst) (ao bo : Option Addr) (n c m d : Nat) (w : World) (h : CstS anyF w ao n c xs) (k : CstS anyF w bo m d ys) :
    Calls Tryz.prog 50 #[.slice ao n c, .slice bo m d, .func (.func 51) #[] #[]] w fun e w' => e = .returned (.bool (eqCL xs ys)) /\ Below w.heap.size w w' := by
 obtain ⟨hc1, hr1⟩ := h.caps
 obtain ⟨hc2, hr2⟩ := k.caps
 have l1 := h.len
 have l2 := k.len
 have H1 := Lib.hid h
 have H2 := Lib.hid k
 clear h k
 by_cases hnm : n = m
 . have hnb : ((n : Int) != (m : Int)) = false := by rw [hnm]; simp
   subst hnm
   have hl1 := Lib.hid l1
   have hl2 := Lib.hid l2
   clear l1 l2
   go_enter Tryz.func50, Tryz.ntmps50
   go_wp2_with fail
   go_loopw [17] (fun i wr => ∃ j : Nat, j <= n /\ i = .int .i64 (j : Int) /\ Hid (eqCL (xs.take j) (ys.take j) = true) /\ Hid (Below w.heap.size w wr)) (fun i _ => n - (intOf i).toNat)
   case atStart => exact ⟨0, Nat.zero_le _, rfl, rfl, Below.refl _ _⟩
   case round =>
    obtain ⟨w1, hw1⟩ : ∃ x, x = wr := ⟨_, rfl⟩
    subst hw1
    obtain ⟨j, hj, rfl, HE, B⟩ := hrel
    by_cases hlt : j < n
    . have hlt' : (j : Int) < (n : Int) := by omega
      obtain ⟨x, a, vo, vn, vc, hx, i1, c0, c1, c2, c3, c4, c5, c6, c7, c8, SX⟩ := (CstS.keep H1.out stable_any (keeps_below _ B.out)).get j hlt
      obtain ⟨y, b, uo, un, uc, hy, i2, d0, d1, d2, d3, d4, d5, d6, d7, d8, SY⟩ := (CstS.keep H2.out stable_any (keeps_below _ B.out)).get j hlt
      have hx := Lib.hid hx
      have hy := Lib.hid hy
      obtain ⟨KX, hKX⟩ : ∃ K, Hid (stg x.name = K) := ⟨_, rfl⟩
      obtain ⟨KY, hKY⟩ : ∃ K, Hid (stg y.name = K) := ⟨_, rfl⟩
      rw [hKX.out] at c0
      rw [hKY.out] at d0
      obtain ⟨V1, f1, A1, B1, z1⟩ := new_box w1 76 [.string ⟨#[]⟩, .slice none 0 0, .int .i64 0, .int .i64 0, .int .i64 0, .int .i64 0, .int .i64 0, .int .i64 0, .int .i64 0]
      obtain ⟨p, hp⟩ : ∃ p, w1.heap.size = p := ⟨_, rfl⟩
      rw [hp] at A1
      obtain ⟨Pw0, Pw1, Pw2, Pw3, Pw4, Pw5, Pw6, Pw7, Pw8, Pe0, Pe1, Pe2, Pe3, Pe4, Pe5, Pe6, Pe7, Pe8, PA, PG, PL, Pq0, Pr0, Pq1, Pr1, Pq2, Pr2, Pq3, Pr3, Pq4, Pr4, Pq5, Pr5, Pq6, Pr6, Pq7, Pr7, Pq8, Pr8⟩ := box_let9 A1 (.string KX) (.slice vo vn vc) (.int .i64 x.method) (.int .i64 x.seats) (.int .i64 x.ranks) (.int .i64 x.digits) (.int .i64 x.ties) (.int .i64 x.over) (.int .i64 x.skip)
      have BW1 : Below w1.heap.size w1 Pw8 := PL _ _ B1 (by omega)
      have d0' := cell_keep d0 BW1
      have d1' := cell_keep d1 BW1
      have d2' := cell_keep d2 BW1
      have d3' := cell_keep d3 BW1
      have d4' := cell_keep d4 BW1
      have d5' := cell_keep d5 BW1
      have d6' := cell_keep d6 BW1
      have d7' := cell_keep d7 BW1
      have d8' := cell_keep d8 BW1
      obtain ⟨V2, f2, A2, B2, z2⟩ := new_box Pw8 76 [.string ⟨#[]⟩, .slice none 0 0, .int .i64 0, .int .i64 0, .int .i64 0, .int .i64 0, .int .i64 0, .int .i64 0, .int .i64 0]
      obtain ⟨q, hq⟩ : ∃ q, Pw8.heap.size = q := ⟨_, rfl⟩
      rw [hq] at A2
      obtain ⟨Qw0, Qw1, Qw2, Qw3, Qw4, Qw5, Qw6, Qw7, Qw8, Qe0, Qe1, Qe2, Qe3, Qe4, Qe5, Qe6, Qe7, Qe8, QA, QG, QL, Qq0, Qr0, Qq1, Qr1, Qq2, Qr2, Qq3, Qr3, Qq4, Qr4, Qq5, Qr5, Qq6, Qr6, Qq7, Qr7, Qq8, Qr8⟩ := box_let9 A2 (.string KY) (.slice uo un uc) (.int .i64 y.method) (.int .i64 y.seats) (.int .i64 y.ranks) (.int .i64 y.digits) (.int .i64 y.ties) (.int .i64 y.over) (.int .i64 y.skip)
      have BW2 : Below Pw8.heap.size Pw8 Qw8 := QL _ _ B2 (by omega)
      have B12 : Below w1.heap.size w1 Qw8 := BW1.trans (BW2.mono BW1.size)
      have PA2 := PA.kept BW2
      have s0 : Qw8.cell? ⟨p, 0, none⟩ = some (.string KX) := PA2.cell 0
      have t0 : Qw8.cell? ⟨q, 0, none⟩ = some (.string KY) := QA.cell 0
      have s1 : Qw8.cell? ⟨p, 1, none⟩ = some (.slice vo vn vc) := PA2.cell 1
      have t1 : Qw8.cell? ⟨q, 1, none⟩ = some (.slice uo un uc) := QA.cell 1
      have s2 : Qw8.cell? ⟨p, 2, none⟩ = some (.int .i64 x.method) := PA2.cell 2
      have t2 : Qw8.cell? ⟨q, 2, none⟩ = some (.int .i64 y.method) := QA.cell 2
      have s3 : Qw8.cell? ⟨p, 3, none⟩ = some (.int .i64 x.seats) := PA2.cell 3
      have t3 : Qw8.cell? ⟨q, 3, none⟩ = some (.int .i64 y.seats) := QA.cell 3
      have s4 : Qw8.cell? ⟨p, 4, none⟩ = some (.int .i64 x.ranks) := PA2.cell 4
      have t4 : Qw8.cell? ⟨q, 4, none⟩ = some (.int .i64 y.ranks) := QA.cell 4
      have s5 : Qw8.cell? ⟨p, 5, none⟩ = some (.int .i64 x.digits) := PA2.cell 5
      have t5 : Qw8.cell? ⟨q, 5, none⟩ = some (.int .i64 y.digits) := QA.cell 5
      have s6 : Qw8.cell? ⟨p, 6, none⟩ = some (.int .i64 x.ties) := PA2.cell 6
      have t6 : Qw8.cell? ⟨q, 6, none⟩ = some (.int .i64 y.ties) := QA.cell 6
      have s7 : Qw8.cell? ⟨p, 7, none⟩ = some (.int .i64 x.over) := PA2.cell 7
      have t7 : Qw8.cell? ⟨q, 7, none⟩ = some (.int .i64 y.over) := QA.cell 7
      have s8 : Qw8.cell? ⟨p, 8, none⟩ = some (.int .i64 x.skip) := PA2.cell 8
      have t8 : Qw8.cell? ⟨q, 8, none⟩ = some (.int .i64 y.skip) := QA.cell 8
      have HC := eqCst_c x y vo uo vn vc un uc Qw8 (StrL.below SX B12) (StrL.below SY B12)
      obtain ⟨R, hR⟩ : ∃ R, (eqC x y) = R := ⟨_, rfl⟩
      have hR2 : (decide (x.name = y.name) && decide (x.cands = y.cands) && decide (x.method = y.method) && decide (x.seats = y.seats) && decide (x.ranks = y.ranks) && decide (x.digits = y.digits) && decide (x.ties = y.ties) && decide (x.over = y.over) && decide (x.skip = y.skip)) = R := hR
      rw [hR2, hKX.out, hKY.out] at HC
      replace HC := Lib.hid HC
      have BQ : Hid (Below w.heap.size w Qw8) := B.out.trans (B12.mono B.out.size)
      clear PA PG PL PA2 QA QG QL A1 A2 B1 B2 z1 z2 BW1 BW2 B12 SX SY
      clear hR2
      cases R with
      | true =>
       have HE2 : Hid (eqCL (xs.take (j + 1)) (ys.take (j + 1)) = true) := by
        show _ = _
        rw [take_snoc hx.out, take_snoc hy.out, eqCL_snoc _ _ _ _ (by rw [List.length_take, List.length_take, hl1.out, hl2.out]), HE.out, hR]; rfl
       clear HE hR
       go_wp2_with fail
       refine HC.out.mono ?_
       rintro e w3 ⟨rfl, B3⟩
       have BZ : Hid (Below w.heap.size w w3) := BQ.out.trans (B3.mono BQ.out.size)
       clear HC B3 BQ
       go_wp2_with fail
       go_roundw
       case rel => exact ⟨j + 1, by omega, by go_num, HE2, BZ⟩
       case measure => simp [intOf]; omega
      | false =>
       have hD : Hid (eqCL xs ys = false) := eqCL_no hx.out hy.out (by rw [hl1.out, hl2.out]) hR
       clear HE hR
       go_wp2_with fail
       refine HC.out.mono ?_
       rintro e w3 ⟨rfl, B3⟩
       have BZ : Hid (Below w.heap.size w w3) := BQ.out.trans (B3.mono BQ.out.size)
       clear HC B3 BQ
       go_wp2_with fail
       go_ret
       exact ⟨by rw [hD.out]; rfl, BZ.out⟩
    . have hlt' : ¬ (j : Int) < (n : Int) := by omega
      have hD : Hid (eqCL xs ys = true) := by
       have h3 := HE.out
       rw [List.take_of_length_le (by have := hl1.out; omega), List.take_of_length_le (by have := hl2.out; omega)] at h3
       exact h3
      clear HE
      go_wp2_with fail
      go_ret
      exact ⟨by rw [hD.out]; rfl, B.out⟩
 . have hnb : ((n : Int) != (m : Int)) = true := by simp; omega
   have hD : Hid (eqCL xs ys = false) := eqCL_len (by omega)
   rw [hD.out]
   clear l1 l2 hnm
   go_enter Tryz.func50, Tryz.ntmps50
   go_wp2_with fail
   go_ret
   exact ⟨rfl, Below.refl _ _⟩
theorem eqFT_c (xs ys : List Sty) (ao bo : Option Addr) (n c m d : Nat) (w : World) (h : StyS anyF w ao n c xs) (k : StyS anyF w bo m d ys) :
    Calls Tryz.prog 52 #[.slice ao n c, .slice bo m d, .func (.func 53) #[] #[]] w fun e w' => e = .returned (.bool (eqTL xs ys)) /\ Below w.heap.size w w' := by
 obtain ⟨hc1, hr1⟩ := h.caps
 obtain ⟨hc2, hr2⟩ := k.caps
 have l1 := h.len
 have l2 := k.len
 have H1 := Lib.hid h
 have H2 := Lib.hid k
 clear h k
 by_cases hnm : n = m
 . have hnb : ((n : Int) != (m : Int)) = false := by rw [hnm]; simp
   subst hnm
   have hl1 := Lib.hid l1
   have hl2 := Lib.hid l2
   clear l1 l2
   go_enter Tryz.func52, Tryz.ntmps52
   go_wp2_with fail
   go_loopw [17] (fun i wr => ∃ j : Nat, j <= n /\ i = .int .i64 (j : Int) /\ Hid (eqTL (xs.take j) (ys.take j) = true) /\ Hid (Below w.heap.size w wr)) (fun i _ => n - (intOf i).toNat)
   case atStart => exact ⟨0, Nat.zero_le _, rfl, rfl, Below.refl _ _⟩
   case round =>
    obtain ⟨w1, hw1⟩ : ∃ x, x = wr := ⟨_, rfl⟩
    subst hw1
    obtain ⟨j, hj, rfl, HE, B⟩ := hrel
    by_cases hlt : j < n
    . have hlt' : (j : Int) < (n : Int) := by omega
      obtain ⟨x, a, vo, vO, vn, vc, vN, vC, hx, i1, c0, c1, c2, SX, TX⟩ := (StyS.keep H1.out stable_any (keeps_below _ B.out)).get j hlt
      obtain ⟨y, b, uo, uO, un, uc, uN, uC, hy, i2, d0, d1, d2, SY, TY⟩ := (StyS.keep H2.out stable_any (keeps_below _ B.out)).get j hlt
      have hx := Lib.hid hx
      have hy := Lib.hid hy
      obtain ⟨KX, hKX⟩ : ∃ K, Hid (stg x.name = K) := ⟨_, rfl⟩
      obtain ⟨KY, hKY⟩ : ∃ K, Hid (stg y.name = K) := ⟨_, rfl⟩
      rw [hKX.out] at c0
      rw [hKY.out] at d0
      obtain ⟨V1, f1, A1, B1, z1⟩ := new_box w1 60 [.string ⟨#[]⟩, .slice none 0 0, .slice none 0 0]
      obtain ⟨p, hp⟩ : ∃ p, w1.heap.size = p := ⟨_, rfl⟩
      rw [hp] at A1
      obtain ⟨Pw0, Pw1, Pw2, Pe0, Pe1, Pe2, PA, PG, PL, Pq0, Pr0, Pq1, Pr1, Pq2, Pr2⟩ := box_let3 A1 (.string KX) (.slice vo vn vc) (.slice vO vN vC)
      have BW1 : Below w1.heap.size w1 Pw2 := PL _ _ B1 (by omega)
      have d0' := cell_keep d0 BW1
      have d1' := cell_keep d1 BW1
      have d2' := cell_keep d2 BW1
      obtain ⟨V2, f2, A2, B2, z2⟩ := new_box Pw2 60 [.string ⟨#[]⟩, .slice none 0 0, .slice none 0 0]
      obtain ⟨q, hq⟩ : ∃ q, Pw2.heap.size = q := ⟨_, rfl⟩
      rw [hq] at A2
      obtain ⟨Qw0, Qw1, Qw2, Qe0, Qe1, Qe2, QA, QG, QL, Qq0, Qr0, Qq1, Qr1, Qq2, Qr2⟩ := box_let3 A2 (.string KY) (.slice uo un uc) (.slice uO uN uC)
      have BW2 : Below Pw2.heap.size Pw2 Qw2 := QL _ _ B2 (by omega)
      have B12 : Below w1.heap.size w1 Qw2 := BW1.trans (BW2.mono BW1.size)
      have PA2 := PA.kept BW2
      have s0 : Qw2.cell? ⟨p, 0, none⟩ = some (.string KX) := PA2.cell 0
      have t0 : Qw2.cell? ⟨q, 0, none⟩ = some (.string KY) := QA.cell 0
      have s1 : Qw2.cell? ⟨p, 1, none⟩ = some (.slice vo vn vc) := PA2.cell 1
      have t1 : Qw2.cell? ⟨q, 1, none⟩ = some (.slice uo un uc) := QA.cell 1
      have s2 : Qw2.cell? ⟨p, 2, none⟩ = some (.slice vO vN vC) := PA2.cell 2
      have t2 : Qw2.cell? ⟨q, 2, none⟩ = some (.slice uO uN uC) := QA.cell 2
      have HC := eqSty_c x y vo uo vO uO vn vc un uc vN vC uN uC Qw2 (Row.keep SX stable_any (keeps_below _ B12)) (Row.keep SY stable_any (keeps_below _ B12)) (Row.keep TX stable_any (keeps_below _ B12)) (Row.keep TY stable_any (keeps_below _ B12))
      obtain ⟨R, hR⟩ : ∃ R, (eqT x y) = R := ⟨_, rfl⟩
      have hR2 : (decide (x.name = y.name) && decide (x.precs = y.precs) && decide (x.conts = y.conts)) = R := hR
      rw [hR2, hKX.out, hKY.out] at HC
      replace HC := Lib.hid HC
      have BQ : Hid (Below w.heap.size w Qw2) := B.out.trans (B12.mono B.out.size)
      clear PA PG PL PA2 QA QG QL A1 A2 B1 B2 z1 z2 BW1 BW2 B12 SX TX SY TY
      clear hR2
      cases R with
      | true =>
       have HE2 : Hid (eqTL (xs.take (j + 1)) (ys.take (j + 1)) = true) := by
        show _ = _
        rw [take_snoc hx.out, take_snoc hy.out, eqTL_snoc _ _ _ _ (by rw [List.length_take, List.length_take, hl1.out, hl2.out]), HE.out, hR]; rfl
       clear HE hR
       go_wp2_with fail
       refine HC.out.mono ?_
       rintro e w3 ⟨rfl, B3⟩
       have BZ : Hid (Below w.heap.size w w3) := BQ.out.trans (B3.mono BQ.out.size)
       clear HC B3 BQ
       go_wp2_with fail
       go_roundw
       case rel => exact ⟨j + 1, by omega, by go_num, HE2, BZ⟩
       case measure => simp [intOf]; omega
      | false =>
       have hD : Hid (eqTL xs ys = false) := eqTL_no hx.out hy.out (by rw [hl1.out, hl2.out]) hR
       clear HE hR
       go_wp2_with fail
       refine HC.out.mono ?_
       rintro e w3 ⟨rfl, B3⟩
       have BZ : Hid (Below w.heap.size w w3) := BQ.out.trans (B3.mono BQ.out.size)
       clear HC B3 BQ
       go_wp2_with fail
       go_ret
       exact ⟨by rw [hD.out]; rfl, BZ.out⟩
    . have hlt' : ¬ (j : Int) < (n : Int) := by omega
      have hD : Hid (eqTL xs ys = true) := by
       have h3 := HE.out
       rw [List.take_of_length_le (by have := hl1.out; omega), List.take_of_length_le (by have := hl2.out; omega)] at h3
       exact h3
      clear HE
      go_wp2_with fail
      go_ret
      exact ⟨by rw [hD.out]; rfl, B.out⟩
 . have hnb : ((n : Int) != (m : Int)) = true := by simp; omega
   have hD : Hid (eqTL xs ys = false) := eqTL_len (by omega)
   rw [hD.out]
   clear l1 l2 hnm
   go_enter Tryz.func52, Tryz.ntmps52
   go_wp2_with fail
   go_ret
   exact ⟨rfl, Below.refl _ _⟩
end Go.Proofs.YtemdkkphmldgjaaGreatDoor
