/-
  Texts of the proof, put together: SchEqE.
-/
import Derived.Test.YtemdkkphmldgjaaGreatDoorPkA23
import Derived.Test.YtemdkkphmldgjaaGreatDoorPkA24
import Derived.Test.YtemdkkphmldgjaaGreatDoorPkA29
set_option maxRecDepth 100000
set_option maxHeartbeats 25600000
namespace Go.Proofs.YtemdkkphmldgjaaGreatDoor
open Go.RowKit Lx
namespace Lx
def eqE (x y : Elc) : Bool := decide (x.title = y.title) && decide (x.dots = y.dots) && decide (x.blank = y.blank) && decide (x.marked = y.marked) && decide (x.precs = y.precs) && eqCL x.conts y.conts && eqTL x.stys y.stys && decide (x.scanners = y.scanners) && decide (x.batch = y.batch) && decide (x.cell = y.cell) && decide (x.seed = y.seed) && decide (Q.RatMath.cmp ⟨x.rneg, Q.NatMath.val x.rnum, Q.NatMath.val x.rden⟩ ⟨y.rneg, Q.NatMath.val y.rnum, Q.NatMath.val y.rden⟩ = 0)
end Lx
theorem equalB_c (B0 B1 B2 B3 B4 B5 B6 B7 B8 B9 B10 B11 : Bool) (x0 x13 y0 y13 : ByteArray) (x1 x2 x3 x7 x8 x12 y1 y2 y3 y7 y8 y12 : Int) (x9 y9 : Bool) (xo4 xo5 xo6 xo10 xo11 yo4 yo5 yo6 yo10 yo11 : Option Addr) (xn4 xc4 xn5 xc5 xn6 xc6 xn10 xc10 xn11 xc11 yn4 yc4 yn5 yc5 yn6 yc6 yn10 yc10 yn11 yc11 : Nat) (w : World)
    (t0 : (x0.toList == y0.toList) = B0) (t1 : (x1 == y1) = B1) (t2 : (x2 == y2) = B2) (t3 : (x3 == y3) = B3)
    (H4 : Hid (∀ W, Below w.heap.size w W -> Calls Tryz.prog 49 #[.slice xo4 xn4 xc4, .slice yo4 yn4 yc4] W fun e w' => e = .returned (.bool B4) /\ Below W.heap.size W w'))
    (H5 : Hid (∀ W, Below w.heap.size w W -> Calls Tryz.prog 50 #[.slice xo5 xn5 xc5, .slice yo5 yn5 yc5, .func (.func 51) #[] #[]] W fun e w' => e = .returned (.bool B5) /\ Below W.heap.size W w'))
    (H6 : Hid (∀ W, Below w.heap.size w W -> Calls Tryz.prog 52 #[.slice xo6 xn6 xc6, .slice yo6 yn6 yc6, .func (.func 53) #[] #[]] W fun e w' => e = .returned (.bool B6) /\ Below W.heap.size W w')) (t7 : (x7 == y7) = B7) (t8 : (x8 == y8) = B8) (t9 : (x12 == y12) = B9)
    (t10 : (x13.toList == y13.toList) = B10)
    (CM : Int) (t11 : (CM == 0) = B11) (H11 : Hid (∀ W, Below w.heap.size w W -> Calls Tryz.prog 54 #[.agg #[.bool x9, .slice xo10 xn10 xc10, .slice xo11 xn11 xc11], .agg #[.bool y9, .slice yo10 yn10 yc10, .slice yo11 yn11 yc11]] W fun e w' => e = .returned (.int .i64 CM) /\ Below W.heap.size W w')) :
    Calls Tryz.prog 23 #[.agg #[.string x0, .int .i64 x1, .int .i64 x2, .int .i64 x3, .slice xo4 xn4 xc4, .slice xo5 xn5 xc5, .slice xo6 xn6 xc6, .int .i64 x7, .int .i64 x8, .bool x9, .slice xo10 xn10 xc10, .slice xo11 xn11 xc11, .int .i64 x12, .string x13], .agg #[.string y0, .int .i64 y1, .int .i64 y2, .int .i64 y3, .slice yo4 yn4 yc4, .slice yo5 yn5 yc5, .slice yo6 yn6 yc6, .int .i64 y7, .int .i64 y8, .bool y9, .slice yo10 yn10 yc10, .slice yo11 yn11 yc11, .int .i64 y12, .string y13]] w fun e w' => e = .returned (.bool (B0 && B1 && B2 && B3 && B4 && B5 && B6 && B7 && B8 && B9 && B10 && B11)) /\ Below w.heap.size w w' := by
 obtain ⟨V, e1, AV, BV, hz⟩ := new_box w 34 [.string x0, .int .i64 x1, .int .i64 x2, .int .i64 x3, .slice xo4 xn4 xc4, .slice xo5 xn5 xc5, .slice xo6 xn6 xc6, .int .i64 x7, .int .i64 x8, .bool x9, .slice xo10 xn10 xc10, .slice xo11 xn11 xc11, .int .i64 x12, .string x13]
 obtain ⟨U, e2, AU, BU, hz2⟩ := new_box V 34 [.string y0, .int .i64 y1, .int .i64 y2, .int .i64 y3, .slice yo4 yn4 yc4, .slice yo5 yn5 yc5, .slice yo6 yn6 yc6, .int .i64 y7, .int .i64 y8, .bool y9, .slice yo10 yn10 yc10, .slice yo11 yn11 yc11, .int .i64 y12, .string y13]
 have A0 := AV.kept BU
 have u0 : U.cell? ⟨w.heap.size, 0, none⟩ = some (.string x0) := A0.cell 0
 have v0 : U.cell? ⟨V.heap.size, 0, none⟩ = some (.string y0) := AU.cell 0
 have u1 : U.cell? ⟨w.heap.size, 1, none⟩ = some (.int .i64 x1) := A0.cell 1
 have v1 : U.cell? ⟨V.heap.size, 1, none⟩ = some (.int .i64 y1) := AU.cell 1
 have u2 : U.cell? ⟨w.heap.size, 2, none⟩ = some (.int .i64 x2) := A0.cell 2
 have v2 : U.cell? ⟨V.heap.size, 2, none⟩ = some (.int .i64 y2) := AU.cell 2
 have u3 : U.cell? ⟨w.heap.size, 3, none⟩ = some (.int .i64 x3) := A0.cell 3
 have v3 : U.cell? ⟨V.heap.size, 3, none⟩ = some (.int .i64 y3) := AU.cell 3
 have u4 : U.cell? ⟨w.heap.size, 4, none⟩ = some (.slice xo4 xn4 xc4) := A0.cell 4
 have v4 : U.cell? ⟨V.heap.size, 4, none⟩ = some (.slice yo4 yn4 yc4) := AU.cell 4
 have u5 : U.cell? ⟨w.heap.size, 5, none⟩ = some (.slice xo5 xn5 xc5) := A0.cell 5
 have v5 : U.cell? ⟨V.heap.size, 5, none⟩ = some (.slice yo5 yn5 yc5) := AU.cell 5
 have u6 : U.cell? ⟨w.heap.size, 6, none⟩ = some (.slice xo6 xn6 xc6) := A0.cell 6
 have v6 : U.cell? ⟨V.heap.size, 6, none⟩ = some (.slice yo6 yn6 yc6) := AU.cell 6
 have u7 : U.cell? ⟨w.heap.size, 7, none⟩ = some (.int .i64 x7) := A0.cell 7
 have v7 : U.cell? ⟨V.heap.size, 7, none⟩ = some (.int .i64 y7) := AU.cell 7
 have u8 : U.cell? ⟨w.heap.size, 8, none⟩ = some (.int .i64 x8) := A0.cell 8
 have v8 : U.cell? ⟨V.heap.size, 8, none⟩ = some (.int .i64 y8) := AU.cell 8
 have u9 : U.cell? ⟨w.heap.size, 9, none⟩ = some (.bool x9) := A0.cell 9
 have v9 : U.cell? ⟨V.heap.size, 9, none⟩ = some (.bool y9) := AU.cell 9
 have u10 : U.cell? ⟨w.heap.size, 10, none⟩ = some (.slice xo10 xn10 xc10) := A0.cell 10
 have v10 : U.cell? ⟨V.heap.size, 10, none⟩ = some (.slice yo10 yn10 yc10) := AU.cell 10
 have u11 : U.cell? ⟨w.heap.size, 11, none⟩ = some (.slice xo11 xn11 xc11) := A0.cell 11
 have v11 : U.cell? ⟨V.heap.size, 11, none⟩ = some (.slice yo11 yn11 yc11) := AU.cell 11
 have u12 : U.cell? ⟨w.heap.size, 12, none⟩ = some (.int .i64 x12) := A0.cell 12
 have v12 : U.cell? ⟨V.heap.size, 12, none⟩ = some (.int .i64 y12) := AU.cell 12
 have u13 : U.cell? ⟨w.heap.size, 13, none⟩ = some (.string x13) := A0.cell 13
 have v13 : U.cell? ⟨V.heap.size, 13, none⟩ = some (.string y13) := AU.cell 13
 have HB : Hid (Below w.heap.size w U) := BV.trans (BU.mono BV.size)
 clear A0 AV AU BV BU hz hz2
 go_enter Tryz.func23, Tryz.ntmps23
 iterate 13 all_goals
   (try (first | cases ‹B0 = true› | cases ‹B1 = true› | cases ‹B2 = true› | cases ‹B3 = true› | cases ‹B4 = true› | cases ‹B5 = true› | cases ‹B6 = true› | cases ‹B7 = true› | cases ‹B8 = true› | cases ‹B9 = true› | cases ‹B10 = true› | cases ‹B11 = true›)
    go_wp2_with (first
     | (go_at_call 49; (with_reducible refine (H4.out U HB.out).mono ?_); rintro e w0 ⟨rfl, D0⟩; have au5 := cell_keep u5 D0; have av5 := cell_keep v5 D0; have au6 := cell_keep u6 D0; have av6 := cell_keep v6 D0; have au7 := cell_keep u7 D0; have av7 := cell_keep v7 D0; have au8 := cell_keep u8 D0; have av8 := cell_keep v8 D0; have au12 := cell_keep u12 D0; have av12 := cell_keep v12 D0; have au13 := cell_keep u13 D0; have av13 := cell_keep v13 D0; have au9 := cell_keep u9 D0; have av9 := cell_keep v9 D0; have au10 := cell_keep u10 D0; have av10 := cell_keep v10 D0; have au11 := cell_keep u11 D0; have av11 := cell_keep v11 D0; have C0 := Lib.hid (HB.out.trans (D0.mono HB.out.size)))
     | (go_at_call 50; (with_reducible refine (H5.out w0 C0.out).mono ?_); rintro e w1 ⟨rfl, D1⟩; have bu6 := cell_keep au6 D1; have bv6 := cell_keep av6 D1; have bu7 := cell_keep au7 D1; have bv7 := cell_keep av7 D1; have bu8 := cell_keep au8 D1; have bv8 := cell_keep av8 D1; have bu12 := cell_keep au12 D1; have bv12 := cell_keep av12 D1; have bu13 := cell_keep au13 D1; have bv13 := cell_keep av13 D1; have bu9 := cell_keep au9 D1; have bv9 := cell_keep av9 D1; have bu10 := cell_keep au10 D1; have bv10 := cell_keep av10 D1; have bu11 := cell_keep au11 D1; have bv11 := cell_keep av11 D1; have C1 := Lib.hid (C0.out.trans (D1.mono C0.out.size)))
     | (go_at_call 52; (with_reducible refine (H6.out w1 C1.out).mono ?_); rintro e w2 ⟨rfl, D2⟩; have cu7 := cell_keep bu7 D2; have cv7 := cell_keep bv7 D2; have cu8 := cell_keep bu8 D2; have cv8 := cell_keep bv8 D2; have cu12 := cell_keep bu12 D2; have cv12 := cell_keep bv12 D2; have cu13 := cell_keep bu13 D2; have cv13 := cell_keep bv13 D2; have cu9 := cell_keep bu9 D2; have cv9 := cell_keep bv9 D2; have cu10 := cell_keep bu10 D2; have cv10 := cell_keep bv10 D2; have cu11 := cell_keep bu11 D2; have cv11 := cell_keep bv11 D2; have C2 := Lib.hid (C1.out.trans (D2.mono C1.out.size)))
     | (go_at_call 54; (with_reducible refine (H11.out w2 C2.out).mono ?_); rintro e w3 ⟨rfl, D3⟩; have C3 := Lib.hid (C2.out.trans (D3.mono C2.out.size)))
     | fail))
 all_goals
   go_ret
   refine ⟨?_, by first | exact C3.out | exact C2.out | exact C1.out | exact C0.out | exact HB.out⟩
   first
     | rfl
     | (obtain rfl := eq_false_of_ne_true ‹¬B0 = true›; rfl)
     | (obtain rfl := eq_false_of_ne_true ‹¬B1 = true›; rfl)
     | (obtain rfl := eq_false_of_ne_true ‹¬B2 = true›; rfl)
     | (obtain rfl := eq_false_of_ne_true ‹¬B3 = true›; rfl)
     | (obtain rfl := eq_false_of_ne_true ‹¬B4 = true›; rfl)
     | (obtain rfl := eq_false_of_ne_true ‹¬B5 = true›; rfl)
     | (obtain rfl := eq_false_of_ne_true ‹¬B6 = true›; rfl)
     | (obtain rfl := eq_false_of_ne_true ‹¬B7 = true›; rfl)
     | (obtain rfl := eq_false_of_ne_true ‹¬B8 = true›; rfl)
     | (obtain rfl := eq_false_of_ne_true ‹¬B9 = true›; rfl)
     | (obtain rfl := eq_false_of_ne_true ‹¬B10 = true›; rfl)
     | (obtain rfl := eq_false_of_ne_true ‹¬B11 = true›; rfl)
theorem equal_c (x y : Elc) (sx sy : ESl) (w : World) (h : ElcS anyF w x sx) (k : ElcS anyF w y sy) (hx : RatIn x sx) (hy : RatIn y sy) :
    Calls Tryz.prog 23 #[eV x sx, eV y sy] w fun e w' => e = .returned (.bool (eqE x y)) /\ Below w.heap.size w w' :=
 equalB_c _ _ _ _ _ _ _ _ _ _ _ _ _ _ _ _ _ _ _ _ _ _ _ _ _ _ _ _ _ _ _ _ _ _ _ _ _ _ _ _ _ _ _ _ _ _ _ _ _ _ _ _ _ _ _ _ _ _ _ _ w (str_eq x.title y.title) rfl rfl rfl
   (fun W hb => sEqS_c x.precs y.precs _ _ _ _ _ _ W (Row.keep h.precs stable_any (keeps_below _ hb)) (Row.keep k.precs stable_any (keeps_below _ hb))) (fun W hb => eqFC_c x.conts y.conts _ _ _ _ _ _ W (h.conts.keep stable_any (keeps_below _ hb)) (k.conts.keep stable_any (keeps_below _ hb))) (fun W hb => eqFT_c x.stys y.stys _ _ _ _ _ _ W (h.stys.keep stable_any (keeps_below _ hb)) (k.stys.keep stable_any (keeps_below _ hb)))
   rfl rfl rfl (str_eq x.seed y.seed) (Q.RatMath.cmp ⟨x.rneg, Q.NatMath.val x.rnum, Q.NatMath.val x.rden⟩ ⟨y.rneg, Q.NatMath.val y.rnum, Q.NatMath.val y.rden⟩) rfl
   (fun W hb => Q.rcmp_c x.rneg y.rneg _ _ _ _ _ _ _ _ _ _ _ _ 400000 x.rnum x.rden y.rnum y.rden W (q_lst (Row.keep h.num stable_any (keeps_below _ hb)) hx.num) (q_lst (Row.keep h.den stable_any (keeps_below _ hb)) hx.den) (q_lst (Row.keep k.num stable_any (keeps_below _ hb)) hy.num) (q_lst (Row.keep k.den stable_any (keeps_below _ hb)) hy.den) hx.n hx.d hy.n hy.d (Nat.le_refl _))
end Go.Proofs.YtemdkkphmldgjaaGreatDoor
