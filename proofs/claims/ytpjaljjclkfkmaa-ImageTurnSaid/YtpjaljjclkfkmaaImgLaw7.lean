/-
  The walk of ImageTurn.
-/
import Derived.Test.YtpjaljjclkfkmaaImgTurnMath
namespace Go.Proofs.Ytpjaljjclkfkmaa
open Go.RowKit Im

theorem tmod30 (p : Int) : -2000 ≤ p.tmod 30 ∧ p.tmod 30 ≤ 2000 := by
  by_cases h : 0 ≤ p
  · rw [Int.tmod_eq_emod_of_nonneg h]; omega
  · obtain ⟨m, rfl⟩ : ∃ m, p = -m := ⟨-p, by omega⟩
    rw [Int.neg_tmod, Int.tmod_eq_emod_of_nonneg (by omega)]; omega
set_option maxHeartbeats 6400000 in
set_option maxRecDepth 100000 in
theorem turnLaw_c (x y : Int) (ao : Option Addr) (n c : Nat) (bs : List Int) (p q : Int) (w : World) (h : Lst .u8 w ao n c bs) :
    Calls Try.prog 8 #[.agg #[.int .i64 x, .int .i64 y, .slice ao n c], .int .i64 p, .int .i64 q] w fun e w' => e = .returned (.bool true) ∧ Below w.heap.size w w' := by
  obtain ⟨V, e1, AV, BV, hz⟩ := new_img w x y ao n c
  have k0 : V.cell? ⟨w.heap.size, 0, none⟩ = some (.int .i64 x) := AV.cell 0
  have k1 : V.cell? ⟨w.heap.size, 1, none⟩ = some (.int .i64 y) := AV.cell 1
  have k2 : V.cell? ⟨w.heap.size, 2, none⟩ = some (.slice ao n c) := AV.cell 2
  have HS := Lib.hid (small_c x y ao n c bs V (h.below BV))
  have HB : Hid (Below w.heap.size w V) := BV
  have HA : Hid (∀ W, Calls Try.prog 14 #[] W fun e w' => e = .returned (.bool true) ∧ Below W.heap.size W w') := awake_c
  cases hs : (decide (x ≤ 24) && decide (y ≤ 24) && okB x y bs) with
  | false =>
    rw [hs] at HS
    have HS := Lib.hid HS
    clear hs h BV AV hz
    go_enter Try.func8, Try.ntmps8
    go_wp2_with (first
      | (go_at_call 18; (with_reducible refine HS.out.out.mono ?_); rintro e v1 ⟨rfl, B1⟩; have B1' := Lib.hid (HB.out.trans (B1.mono HB.out.size)); clear B1)
      | (go_at_call 14; (with_reducible refine (HA.out _).mono ?_); rintro e v2 ⟨rfl, B2⟩; have B2' := Lib.hid (B1'.out.trans (B2.mono B1'.out.size)); clear B2))
    go_ret
    exact ⟨rfl, B2'.out⟩
  | true =>
    rw [hs] at HS
    obtain ⟨v, u, rfl, rfl, hv, hu, hO⟩ := small_ok hs
    have HS := Lib.hid HS
    have hbn : bs.length = n := h.len
    have hP1 : 1 ≤ v * u := Nat.mul_pos hO.w1 hO.h1
    have hlen := hO.len
    obtain ⟨a, rfl⟩ := h.isSome (by omega)
    obtain ⟨p1, hp1⟩ : ∃ d, p.tmod 30 = d := ⟨_, rfl⟩
    obtain ⟨q1, hq1⟩ : ∃ d, q.tmod 30 = d := ⟨_, rfl⟩
    have hpb : -2000 ≤ p1 ∧ p1 ≤ 2000 := by rw [← hp1]; exact tmod30 p
    have hqb : -2000 ≤ q1 ∧ q1 ≤ 2000 := by rw [← hq1]; exact tmod30 q
    obtain ⟨np, hnp⟩ : ∃ d, -p1 = d := ⟨_, rfl⟩
    obtain ⟨nq, hnq⟩ : ∃ d, -q1 = d := ⟨_, rfl⟩
    have hnpb : -2000 ≤ np ∧ np ≤ 2000 := by omega
    have hnqb : -2000 ≤ nq ∧ nq ≤ 2000 := by omega
    obtain ⟨T, hT⟩ : ∃ T, packP (tB v u bs) n = T := ⟨_, rfl⟩
    obtain ⟨S, hSe⟩ : ∃ S, packP (shB (bitL bs) (q1 * v + p1) (rectL v u p1 q1 v u)) n = S := ⟨_, rfl⟩
    obtain ⟨U, hU⟩ : ∃ U, packP (tB v u S) n = U := ⟨_, rfl⟩
    have hOT : OkI v u T := by rw [← hT]; exact okTurn hO hbn
    have hOS : OkI v u S := by rw [← hSe]; exact okShift p1 q1 hO hbn
    have hTT : packP (tB v u T) n = bs := by rw [← hT]; exact turn_twice hO hbn h.bytes
    have hTS : packP (shB (bitL T) (nq * v + np) (rectL v u np nq v u)) n = U := by rw [← hU, ← hSe, ← hT, ← hnp, ← hnq]; exact (turn_shift p1 q1 hO hbn).symm
    have hRT : packP (bitsD (pxD v (tnG v u bs) (v * u))) n = T := by rw [← hT]; exact turn_same hO hbn
    have hnM : n = (v * u + 7) / 8 := hbn.symm.trans hlen
    have HLo : Hid (∀ W, Below V.heap.size V W → Lst .u8 W (some a) n c bs) := fun W hb => (h.below BV).below hb
    have HT1 : Hid (∀ (W : World), Below V.heap.size V W → Calls Try.prog 28 #[.agg #[.int .i64 (v : Int), .int .i64 (u : Int), (.slice (some a) n c)]] W fun e w' => (∃ g, e = .returned (.agg #[.int .i64 (v : Int), .int .i64 (u : Int), .slice (some ⟨g, 0, none⟩) n n]) ∧ Lst .u8 w' (some ⟨g, 0, none⟩) n n T) ∧ Below W.heap.size W w') := fun W hb => (turn_c v u (some a) n c bs W (HLo.out W hb) hO).mono fun e w' hh => by
      obtain ⟨g, rfl, Og, Bg⟩ := hh
      have Og : Own 5 .u8 W.heap.size w' (some ⟨g, 0, none⟩) n n (packP (tB v u bs) n) := Og
      rw [hT] at Og
      exact ⟨⟨g, rfl, Og.lst⟩, Bg⟩
    have HR : Hid (∀ (W : World), Below V.heap.size V W → Calls Try.prog 29 #[.agg #[.int .i64 (v : Int), .int .i64 (u : Int), (.slice (some a) n c)]] W fun e w' => (∃ g, e = .returned (.agg #[.int .i64 (v : Int), .int .i64 (u : Int), .slice (some ⟨g, 0, none⟩) n n]) ∧ Lst .u8 w' (some ⟨g, 0, none⟩) n n T) ∧ Below W.heap.size W w') := fun W hb => (refTurn_c v u (some a) n c bs W (HLo.out W hb) hO).mono fun e w' hh => by
      obtain ⟨g, rfl, Og, Bg⟩ := hh
      rw [← hnM] at Og ⊢
      rw [hRT] at Og
      exact ⟨⟨g, rfl, Og.lst⟩, Bg⟩
    have HT2 : Hid (∀ (W : World) (g0 : Nat), Lst .u8 W (some ⟨g0, 0, none⟩) n n T → Calls Try.prog 28 #[.agg #[.int .i64 (v : Int), .int .i64 (u : Int), (.slice (some ⟨g0, 0, none⟩) n n)]] W fun e w' => (∃ g, e = .returned (.agg #[.int .i64 (v : Int), .int .i64 (u : Int), .slice (some ⟨g, 0, none⟩) n n]) ∧ Lst .u8 w' (some ⟨g, 0, none⟩) n n bs) ∧ Below W.heap.size W w') := fun W g0 hl => (turn_c v u (some ⟨g0, 0, none⟩) n n T W hl hOT).mono fun e w' hh => by
      obtain ⟨g, rfl, Og, Bg⟩ := hh
      have Og : Own 5 .u8 W.heap.size w' (some ⟨g, 0, none⟩) n n (packP (tB v u T) n) := Og
      rw [hTT] at Og
      exact ⟨⟨g, rfl, Og.lst⟩, Bg⟩
    have HT3 : Hid (∀ (W : World) (g0 : Nat), Lst .u8 W (some ⟨g0, 0, none⟩) n n S → Calls Try.prog 28 #[.agg #[.int .i64 (v : Int), .int .i64 (u : Int), (.slice (some ⟨g0, 0, none⟩) n n)]] W fun e w' => (∃ g, e = .returned (.agg #[.int .i64 (v : Int), .int .i64 (u : Int), .slice (some ⟨g, 0, none⟩) n n]) ∧ Lst .u8 w' (some ⟨g, 0, none⟩) n n U) ∧ Below W.heap.size W w') := fun W g0 hl => (turn_c v u (some ⟨g0, 0, none⟩) n n S W hl hOS).mono fun e w' hh => by
      obtain ⟨g, rfl, Og, Bg⟩ := hh
      have Og : Own 5 .u8 W.heap.size w' (some ⟨g, 0, none⟩) n n (packP (tB v u S) n) := Og
      rw [hU] at Og
      exact ⟨⟨g, rfl, Og.lst⟩, Bg⟩
    have HS1 : Hid (∀ (W : World), Below V.heap.size V W → Calls Try.prog 26 #[.agg #[.int .i64 (v : Int), .int .i64 (u : Int), (.slice (some a) n c)], .int .i64 p1, .int .i64 q1] W fun e w' => (∃ g, e = .returned (.agg #[.int .i64 (v : Int), .int .i64 (u : Int), .slice (some ⟨g, 0, none⟩) n n]) ∧ Lst .u8 w' (some ⟨g, 0, none⟩) n n S) ∧ Below W.heap.size W w') := fun W hb => (shift_c v u a n c bs p1 q1 W (HLo.out W hb) hO (by omega) (by omega) (by omega) (by omega)).mono fun e w' hh => by
      obtain ⟨g, rfl, Og, Bg⟩ := hh
      rw [hSe] at Og
      exact ⟨⟨g, rfl, Og.lst⟩, Bg⟩
    have HS2 : Hid (∀ (W : World) (g0 : Nat), Lst .u8 W (some ⟨g0, 0, none⟩) n n T → Calls Try.prog 26 #[.agg #[.int .i64 (v : Int), .int .i64 (u : Int), (.slice (some ⟨g0, 0, none⟩) n n)], .int .i64 np, .int .i64 nq] W fun e w' => (∃ g, e = .returned (.agg #[.int .i64 (v : Int), .int .i64 (u : Int), .slice (some ⟨g, 0, none⟩) n n]) ∧ Lst .u8 w' (some ⟨g, 0, none⟩) n n U) ∧ Below W.heap.size W w') := fun W g0 hl => (shift_c v u ⟨g0, 0, none⟩ n n T np nq W hl hOT (by omega) (by omega) (by omega) (by omega)).mono fun e w' hh => by
      obtain ⟨g, rfl, Og, Bg⟩ := hh
      rw [hTS] at Og
      exact ⟨⟨g, rfl, Og.lst⟩, Bg⟩
    have HE1 : Hid (∀ (W : World) (ga gb : Nat), Lst .u8 W (some ⟨ga, 0, none⟩) n n T → Lst .u8 W (some ⟨gb, 0, none⟩) n n T → Calls Try.prog 15 #[.agg #[.int .i64 (v : Int), .int .i64 (u : Int), (.slice (some ⟨ga, 0, none⟩) n n)], .agg #[.int .i64 (v : Int), .int .i64 (u : Int), (.slice (some ⟨gb, 0, none⟩) n n)]] W fun e w' => e = .returned (.bool true) ∧ Below W.heap.size W w') := fun W ga gb h1 h2 => by
      have := eqI_c v u v u (some ⟨ga, 0, none⟩) (some ⟨gb, 0, none⟩) n n n n T T W h1 h2
      rw [decide_eq_true (rfl : (v : Int) = v), decide_eq_true (rfl : (u : Int) = u), decide_eq_true (rfl : T = T)] at this
      exact this
    have HE3 : Hid (∀ (W : World) (ga gb : Nat), Lst .u8 W (some ⟨ga, 0, none⟩) n n U → Lst .u8 W (some ⟨gb, 0, none⟩) n n U → Calls Try.prog 15 #[.agg #[.int .i64 (v : Int), .int .i64 (u : Int), (.slice (some ⟨ga, 0, none⟩) n n)], .agg #[.int .i64 (v : Int), .int .i64 (u : Int), (.slice (some ⟨gb, 0, none⟩) n n)]] W fun e w' => e = .returned (.bool true) ∧ Below W.heap.size W w') := fun W ga gb h1 h2 => by
      have := eqI_c v u v u (some ⟨ga, 0, none⟩) (some ⟨gb, 0, none⟩) n n n n U U W h1 h2
      rw [decide_eq_true (rfl : (v : Int) = v), decide_eq_true (rfl : (u : Int) = u), decide_eq_true (rfl : U = U)] at this
      exact this
    have HE2 : Hid (∀ (W : World) (ga : Nat), Below V.heap.size V W → Lst .u8 W (some ⟨ga, 0, none⟩) n n bs → Calls Try.prog 15 #[.agg #[.int .i64 (v : Int), .int .i64 (u : Int), (.slice (some ⟨ga, 0, none⟩) n n)], .agg #[.int .i64 (v : Int), .int .i64 (u : Int), (.slice (some a) n c)]] W fun e w' => e = .returned (.bool true) ∧ Below W.heap.size W w') := fun W ga hb h1 => by
      have := eqI_c v u v u (some ⟨ga, 0, none⟩) (some a) n n n c bs bs W h1 (HLo.out W hb)
      rw [decide_eq_true (rfl : (v : Int) = v), decide_eq_true (rfl : (u : Int) = u), decide_eq_true (rfl : bs = bs)] at this
      exact this
    have wp1 := wr64i p1 hpb
    have wp2 := i64w2 p1 hpb
    have wq1 := wr64i q1 hqb
    have wq2 := i64w2 q1 hqb
    have wn1 := wr64i np hnpb
    have wn2 := i64w2 np hnpb
    have wm1 := wr64i nq hnqb
    have wm2 := i64w2 nq hnqb
    clear hs h BV AV hz hO hv hu hbn hP1 hlen hpb hqb hnpb hnqb hT hSe hU hOT hOS hTT hTS hRT hnM
    go_enter Try.func8, Try.ntmps8
    go_wp2_with (first
      | (go_at_call 18; (with_reducible refine HS.out.out.mono ?_); rintro e w1 ⟨rfl, B1⟩; have z0 := cell_keep k0 B1; have z1 := cell_keep k1 B1; have z2 := cell_keep k2 B1; have hB1 := Lib.hid B1; clear B1)
      | (go_at_call 28; (with_reducible refine (HT1.out w1 hB1.out).mono ?_); rintro e w3 ⟨⟨gt, rfl, L3⟩, B3⟩; obtain ⟨w4, w5, m4, m5, q0, q1', q2, q3, q4, q5, A5, B5, z5⟩ := new_fill2 w3 (.int .i64 (v : Int)) (.int .i64 (u : Int)) (.slice (some ⟨gt, 0, none⟩) n n); obtain ⟨g, hg⟩ : ∃ g, w3.heap.size = g := ⟨_, rfl⟩; rw [hg] at m5 q0 q1' q2 q3 q4 q5 A5; have hA5 := Lib.hid A5; have LT5 := Lib.hid (L3.below B5); have B35 := Lib.hid (B3.trans (B5.mono B3.size)); clear L3 B3 B5 A5 z5))
    have c5a : w5.drew.cell? ⟨w.heap.size, 0, none⟩ = some (.int .i64 (v : Int)) := cell_keep z0 B35.out.drew
    have c5b : w5.drew.cell? ⟨w.heap.size, 1, none⟩ = some (.int .i64 (u : Int)) := cell_keep z1 B35.out.drew
    have c5c : w5.drew.cell? ⟨w.heap.size, 2, none⟩ = some (.slice (some a) n c) := cell_keep z2 B35.out.drew
    have c5d : w5.drew.cell? ⟨g, 0, none⟩ = some (.int .i64 (v : Int)) := hA5.out.cell 0
    have c5e : w5.drew.cell? ⟨g, 1, none⟩ = some (.int .i64 (u : Int)) := hA5.out.cell 1
    have c5f : w5.drew.cell? ⟨g, 2, none⟩ = some (.slice (some ⟨gt, 0, none⟩) n n) := hA5.out.cell 2
    have C5 : Below V.heap.size V w5.drew := (hB1.out.trans (B35.out.mono hB1.out.size)).drew
    replace LT5 : Hid (Lst .u8 w5.drew (some ⟨gt, 0, none⟩) n n T) := LT5.out.drewN 1
    clear k0 k1 k2 z0 z1 z2 q0 q1' q2 q3 q4 q5 m4 m5
    go_region_held3 (fun w' => w'.cell? ⟨w.heap.size, 0, none⟩ = some (.int .i64 (v : Int)) ∧ w'.cell? ⟨w.heap.size, 1, none⟩ = some (.int .i64 (u : Int)) ∧ w'.cell? ⟨w.heap.size, 2, none⟩ = some (.slice (some a) n c) ∧ w'.cell? ⟨g, 0, none⟩ = some (.int .i64 (v : Int)) ∧ w'.cell? ⟨g, 1, none⟩ = some (.int .i64 (u : Int)) ∧ w'.cell? ⟨g, 2, none⟩ = some (.slice (some ⟨gt, 0, none⟩) n n)) (go_keep) (first
      | (go_at_call 14; (with_reducible refine (HA.out _).mono ?_); rintro e w6 ⟨rfl, B6⟩; have c6a := cell_keep c5a B6; have c6b := cell_keep c5b B6; have c6c := cell_keep c5c B6; have c6d := cell_keep c5d B6; have c6e := cell_keep c5e B6; have c6f := cell_keep c5f B6; have C6 : Below V.heap.size V w6 := C5.trans (B6.mono C5.size); have LT6 := Lib.hid (LT5.out.below B6); clear B6)
      | (go_at_call 29; (with_reducible refine (HR.out w6 C6).mono ?_); rintro e w7 ⟨⟨gr, rfl, LL⟩, B7⟩; have c7a := cell_keep c6a B7; have c7b := cell_keep c6b B7; have c7c := cell_keep c6c B7; have c7d := cell_keep c6d B7; have c7e := cell_keep c6e B7; have c7f := cell_keep c6f B7; have C7 : Below V.heap.size V w7 := C6.trans (B7.mono C6.size); have LR7 := Lib.hid LL; have LT7 := Lib.hid (LT6.out.below B7); clear LL; clear B7)
      | (go_at_call 15; (with_reducible refine (HE1.out w7 gt gr LT7.out LR7.out).mono ?_); rintro e w8 ⟨rfl, B8⟩; have c8a := cell_keep c7a B8; have c8b := cell_keep c7b B8; have c8c := cell_keep c7c B8; have c8d := cell_keep c7d B8; have c8e := cell_keep c7e B8; have c8f := cell_keep c7f B8; have C8 : Below V.heap.size V w8 := C7.trans (B8.mono C7.size); have LT8 := Lib.hid (LT7.out.below B8); clear B8)
      | (go_at_call 28; (with_reducible refine (HT2.out w8 gt LT8.out).mono ?_); rintro e w9 ⟨⟨gb, rfl, LL⟩, B9⟩; have c9a := cell_keep c8a B9; have c9b := cell_keep c8b B9; have c9c := cell_keep c8c B9; have c9d := cell_keep c8d B9; have c9e := cell_keep c8e B9; have c9f := cell_keep c8f B9; have C9 : Below V.heap.size V w9 := C8.trans (B9.mono C8.size); have LB9 := Lib.hid LL; have LT9 := Lib.hid (LT8.out.below B9); clear LL; clear B9)
      | (go_at_call 15; (with_reducible refine (HE2.out w9 gb C9 LB9.out).mono ?_); rintro e w10 ⟨rfl, B10⟩; have c10a := cell_keep c9a B10; have c10b := cell_keep c9b B10; have c10c := cell_keep c9c B10; have c10d := cell_keep c9d B10; have c10e := cell_keep c9e B10; have c10f := cell_keep c9f B10; have C10 : Below V.heap.size V w10 := C9.trans (B10.mono C9.size); have LT10 := Lib.hid (LT9.out.below B10); clear B10)
      | (go_at_call 26; (with_reducible refine (HS1.out w10 C10).mono ?_); rintro e w11 ⟨⟨gs, rfl, LL⟩, B11⟩; have c11a := cell_keep c10a B11; have c11b := cell_keep c10b B11; have c11c := cell_keep c10c B11; have c11d := cell_keep c10d B11; have c11e := cell_keep c10e B11; have c11f := cell_keep c10f B11; have C11 : Below V.heap.size V w11 := C10.trans (B11.mono C10.size); have LS11 := Lib.hid LL; have LT11 := Lib.hid (LT10.out.below B11); clear LL; clear B11)
      | (go_at_call 28; (with_reducible refine (HT3.out w11 gs LS11.out).mono ?_); rintro e w12 ⟨⟨gu, rfl, LL⟩, B12⟩; have c12a := cell_keep c11a B12; have c12b := cell_keep c11b B12; have c12c := cell_keep c11c B12; have c12d := cell_keep c11d B12; have c12e := cell_keep c11e B12; have c12f := cell_keep c11f B12; have C12 : Below V.heap.size V w12 := C11.trans (B12.mono C11.size); have LU12 := Lib.hid LL; have LT12 := Lib.hid (LT11.out.below B12); clear LL; clear B12)
      | (go_at_call 26; (with_reducible refine (HS2.out w12 gt LT12.out).mono ?_); rintro e w13 ⟨⟨gv, rfl, LL⟩, B13⟩; have c13a := cell_keep c12a B13; have c13b := cell_keep c12b B13; have c13c := cell_keep c12c B13; have c13d := cell_keep c12d B13; have c13e := cell_keep c12e B13; have c13f := cell_keep c12f B13; have C13 : Below V.heap.size V w13 := C12.trans (B13.mono C12.size); have LV13 := Lib.hid LL; have LU13 := Lib.hid (LU12.out.below B13); clear LL; clear B13)
      | (go_at_call 15; (with_reducible refine (HE3.out w13 gu gv LU13.out LV13.out).mono ?_); rintro e w14 ⟨rfl, B14⟩; have c14a := cell_keep c13a B14; have c14b := cell_keep c13b B14; have c14c := cell_keep c13c B14; have c14d := cell_keep c13d B14; have c14e := cell_keep c13e B14; have c14f := cell_keep c13f B14; have hC14 := Lib.hid (HB.out.trans ((C13.trans (B14.mono C13.size)).mono HB.out.size)); clear B14))
    all_goals
      go_wp2_with fail
      go_ret
      exact ⟨by rfl, hC14.out⟩
end Go.Proofs.Ytpjaljjclkfkmaa
