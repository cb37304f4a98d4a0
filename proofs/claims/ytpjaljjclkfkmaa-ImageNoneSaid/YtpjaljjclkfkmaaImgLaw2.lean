/-
  The walk of ImageNone.
-/
import Derived.Test.YtpjaljjclkfkmaaImgView
import Derived.Test.YtpjaljjclkfkmaaImgNoP
import Derived.Test.YtpjaljjclkfkmaaImgPEnc
namespace Go.Proofs.Ytpjaljjclkfkmaa
open Go.RowKit Im

set_option maxHeartbeats 6400000 in
set_option maxRecDepth 100000 in
theorem noneLaw_c (x y : Int) (ao : Option Addr) (n c : Nat) (bs : List Int) (p q : Int) (w : World) (h : Lst .u8 w ao n c bs) :
    Calls Try.prog 12 #[.agg #[.int .i64 x, .int .i64 y, .slice ao n c], .int .i64 p, .int .i64 q] w fun e w' => e = .returned (.bool true) ∧ Below w.heap.size w w' := by
  obtain ⟨V, e1, AV, BV, hz⟩ := new_img w x y ao n c
  have y0 : V.cell? ⟨w.heap.size, 0, none⟩ = some (.int .i64 x) := AV.cell 0
  have y1 : V.cell? ⟨w.heap.size, 1, none⟩ = some (.int .i64 y) := AV.cell 1
  have y2 : V.cell? ⟨w.heap.size, 2, none⟩ = some (.slice ao n c) := AV.cell 2
  have HV := Lib.hid (refValid_c x y ao n c bs V (h.below BV))
  have HB : Hid (Below w.heap.size w V) := BV
  cases hs : okB x y bs with
  | true =>
    rw [hs] at HV
    replace HV := Lib.hid HV
    clear hs h BV AV hz
    go_enter Try.func12, Try.ntmps12
    go_wp2_with (first
      | (go_at_call 17; (with_reducible refine HV.out.out.mono ?_); rintro e v1 ⟨rfl, B1⟩; have HA := Lib.hid (awake_c v1); have B1' := Lib.hid (HB.out.trans (B1.mono HB.out.size)); clear B1)
      | (go_at_call 14; (with_reducible refine HA.out.mono ?_); rintro e v2 ⟨rfl, B2⟩; have B2' := Lib.hid (B1'.out.trans (B2.mono B1'.out.size)); clear B2))
    go_ret
    exact ⟨rfl, B2'.out⟩
  | false =>
    rw [hs] at HV
    replace HV := Lib.hid HV
    have HL : Hid (∀ W, Below V.heap.size V W → Lst .u8 W ao n c bs) := fun W hb => (h.below BV).below hb
    have hno := Lib.hid hs
    have HEq : Hid (∀ W, Calls Try.prog 15 #[.agg #[.int .i64 0, .int .i64 0, .slice none 0 0], .agg #[.int .i64 0, .int .i64 0, .slice none 0 0]] W fun e w' => e = .returned (.bool true) ∧ Below W.heap.size W w') := fun W => eqI_c 0 0 0 0 none none 0 0 0 0 [] [] W (Lst.nil _ _) (Lst.nil _ _)
    have HX : Hid (∀ W, Below V.heap.size V W → Calls Try.prog 30 #[.agg #[.int .i64 x, .int .i64 y, .slice ao n c], .agg #[.int .i64 x, .int .i64 y, .slice ao n c]] W fun e w' => e = .returned (.tuple #[.agg #[.int .i64 0, .int .i64 0, .slice none 0 0], .bool false]) ∧ Below W.heap.size W w') := fun W hb => xor_no x y x y ao ao n c n c bs bs W (HL.out W hb) (HL.out W hb) (Or.inl hno.out)
    have HG : Hid (∀ W, Below V.heap.size V W → Calls Try.prog 19 #[.agg #[.int .i64 x, .int .i64 y, .slice ao n c], .int .i64 p, .int .i64 q] W fun e w' => e = .returned (.bool false) ∧ Below W.heap.size W w') := fun W hb => get_no x y p q ao n c bs W (HL.out W hb) hno.out
    have HC : Hid (∀ W, Below V.heap.size V W → Calls Try.prog 22 #[.agg #[.int .i64 x, .int .i64 y, .slice ao n c], .int .i64 p, .int .i64 q, .int .i64 9, .int .i64 9] W fun e w' => e = .returned (.int .i64 0) ∧ Below W.heap.size W w') := fun W hb => count_no x y p q 9 9 ao n c bs W (HL.out W hb) hno.out
    have HF : Hid (∀ W, Below V.heap.size V W → Calls Try.prog 21 #[.agg #[.int .i64 x, .int .i64 y, .slice ao n c], .int .i64 0, .int .i64 0, .int .i64 3, .int .i64 3, .bool true] W fun e w' => e = .returned (.agg #[.int .i64 0, .int .i64 0, .slice none 0 0]) ∧ Below W.heap.size W w') := fun W hb => fill_no x y 0 0 3 3 true ao n c bs W (HL.out W hb) hno.out
    have HS : Hid (∀ W, Below V.heap.size V W → Calls Try.prog 26 #[.agg #[.int .i64 x, .int .i64 y, .slice ao n c], .int .i64 1, .int .i64 1] W fun e w' => e = .returned (.agg #[.int .i64 0, .int .i64 0, .slice none 0 0]) ∧ Below W.heap.size W w') := fun W hb => shift_no x y 1 1 ao n c bs W (HL.out W hb) hno.out
    have HT : Hid (∀ W, Below V.heap.size V W → Calls Try.prog 28 #[.agg #[.int .i64 x, .int .i64 y, .slice ao n c]] W fun e w' => e = .returned (.agg #[.int .i64 0, .int .i64 0, .slice none 0 0]) ∧ Below W.heap.size W w') := fun W hb => turn_no x y ao n c bs W (HL.out W hb) hno.out
    have HN : Hid (∀ W, Below V.heap.size V W → Calls Try.prog 31 #[.agg #[.int .i64 x, .int .i64 y, .slice ao n c]] W fun e w' => e = .returned (.slice none 0 0) ∧ Below W.heap.size W w') := fun W hb => enc_no x y ao n c bs W (HL.out W hb) hno.out
    clear hs h BV AV hz
    go_enter Try.func12, Try.ntmps12
    go_wp2_with (first
      | (go_at_call 17; (with_reducible refine HV.out.out.mono ?_); rintro e w1 ⟨rfl, Cw1⟩; have w1_0 := cell_keep y0 Cw1; have w1_1 := cell_keep y1 Cw1; have w1_2 := cell_keep y2 Cw1)
      | (go_at_call 30; (with_reducible refine (HX.out w1 Cw1).mono ?_); rintro e w2 ⟨rfl, Bw2⟩; obtain ⟨w3, w4, m3, m4, q0, q1, q2, q3, q4, q5, A4, B4, z4⟩ := new_fill2 w2 (.int .i64 0) (.int .i64 0) (.slice none 0 0); obtain ⟨g, hg⟩ : ∃ g, w2.heap.size = g := ⟨_, rfl⟩; rw [hg] at m4 q0 q1 q2 q3 q4 q5 A4; have B14 := Bw2.trans (B4.mono Bw2.size); have w4_0 := cell_keep w1_0 B14; have w4_1 := cell_keep w1_1 B14; have w4_2 := cell_keep w1_2 B14; have u0 : w4.cell? ⟨g, 0, none⟩ = some (.int .i64 0) := A4.cell 0; have u1 : w4.cell? ⟨g, 1, none⟩ = some (.int .i64 0) := A4.cell 1; have u2 : w4.cell? ⟨g, 2, none⟩ = some (.slice none 0 0) := A4.cell 2; have Cw4 : Below V.heap.size V w4 := Cw1.trans (B14.mono Cw1.size); have HA := Lib.hid (awake_c w4); clear Bw2 B4 B14 A4 z4 HX)
      | (go_at_call 14; (with_reducible refine (HA.out).mono ?_); rintro e w5 ⟨rfl, Bw5⟩; have w5_0 := cell_keep w4_0 Bw5; have w5_1 := cell_keep w4_1 Bw5; have w5_2 := cell_keep w4_2 Bw5; have Cw5 : Below V.heap.size V w5 := Cw4.trans (Bw5.mono Cw4.size); have u0 := cell_keep u0 Bw5; have u1 := cell_keep u1 Bw5; have u2 := cell_keep u2 Bw5; clear Bw5)
      | (go_at_call 19; (with_reducible refine (HG.out w5 Cw5).mono ?_); rintro e w6 ⟨rfl, Bw6⟩; have w6_0 := cell_keep w5_0 Bw6; have w6_1 := cell_keep w5_1 Bw6; have w6_2 := cell_keep w5_2 Bw6; have Cw6 : Below V.heap.size V w6 := Cw5.trans (Bw6.mono Cw5.size); have u0 := cell_keep u0 Bw6; have u1 := cell_keep u1 Bw6; have u2 := cell_keep u2 Bw6; clear Bw6)
      | (go_at_call 22; (with_reducible refine (HC.out w6 Cw6).mono ?_); rintro e w7 ⟨rfl, Bw7⟩; have w7_0 := cell_keep w6_0 Bw7; have w7_1 := cell_keep w6_1 Bw7; have w7_2 := cell_keep w6_2 Bw7; have Cw7 : Below V.heap.size V w7 := Cw6.trans (Bw7.mono Cw6.size); have u0 := cell_keep u0 Bw7; have u1 := cell_keep u1 Bw7; have u2 := cell_keep u2 Bw7; clear Bw7)
      | (go_at_call 15; (with_reducible refine (HEq.out w7).mono ?_); rintro e w8 ⟨rfl, Bw8⟩; have w8_0 := cell_keep w7_0 Bw8; have w8_1 := cell_keep w7_1 Bw8; have w8_2 := cell_keep w7_2 Bw8; have Cw8 : Below V.heap.size V w8 := Cw7.trans (Bw8.mono Cw7.size); clear Bw8)
      | (go_at_call 21; (with_reducible refine (HF.out w8 Cw8).mono ?_); rintro e w9 ⟨rfl, Bw9⟩; have w9_0 := cell_keep w8_0 Bw9; have w9_1 := cell_keep w8_1 Bw9; have w9_2 := cell_keep w8_2 Bw9; have Cw9 : Below V.heap.size V w9 := Cw8.trans (Bw9.mono Cw8.size); clear Bw9)
      | (go_at_call 15; (with_reducible refine (HEq.out w9).mono ?_); rintro e w10 ⟨rfl, Bw10⟩; have w10_0 := cell_keep w9_0 Bw10; have w10_1 := cell_keep w9_1 Bw10; have w10_2 := cell_keep w9_2 Bw10; have Cw10 : Below V.heap.size V w10 := Cw9.trans (Bw10.mono Cw9.size); clear Bw10)
      | (go_at_call 26; (with_reducible refine (HS.out w10 Cw10).mono ?_); rintro e w11 ⟨rfl, Bw11⟩; have w11_0 := cell_keep w10_0 Bw11; have w11_1 := cell_keep w10_1 Bw11; have w11_2 := cell_keep w10_2 Bw11; have Cw11 : Below V.heap.size V w11 := Cw10.trans (Bw11.mono Cw10.size); clear Bw11)
      | (go_at_call 15; (with_reducible refine (HEq.out w11).mono ?_); rintro e w12 ⟨rfl, Bw12⟩; have w12_0 := cell_keep w11_0 Bw12; have w12_1 := cell_keep w11_1 Bw12; have w12_2 := cell_keep w11_2 Bw12; have Cw12 : Below V.heap.size V w12 := Cw11.trans (Bw12.mono Cw11.size); clear Bw12)
      | (go_at_call 28; (with_reducible refine (HT.out w12 Cw12).mono ?_); rintro e w13 ⟨rfl, Bw13⟩; have w13_0 := cell_keep w12_0 Bw13; have w13_1 := cell_keep w12_1 Bw13; have w13_2 := cell_keep w12_2 Bw13; have Cw13 : Below V.heap.size V w13 := Cw12.trans (Bw13.mono Cw12.size); clear Bw13)
      | (go_at_call 15; (with_reducible refine (HEq.out w13).mono ?_); rintro e w14 ⟨rfl, Bw14⟩; have w14_0 := cell_keep w13_0 Bw14; have w14_1 := cell_keep w13_1 Bw14; have w14_2 := cell_keep w13_2 Bw14; have Cw14 : Below V.heap.size V w14 := Cw13.trans (Bw14.mono Cw13.size); clear Bw14)
      | (go_at_call 31; (with_reducible refine (HN.out w14 Cw14).mono ?_); rintro e w15 ⟨rfl, Bw15⟩; have w15_0 := cell_keep w14_0 Bw15; have w15_1 := cell_keep w14_1 Bw15; have w15_2 := cell_keep w14_2 Bw15; have Cw15 : Below V.heap.size V w15 := Cw14.trans (Bw15.mono Cw14.size); clear Bw15))
    go_ret
    exact ⟨rfl, HB.out.trans (Cw15.mono HB.out.size)⟩
end Go.Proofs.Ytpjaljjclkfkmaa
