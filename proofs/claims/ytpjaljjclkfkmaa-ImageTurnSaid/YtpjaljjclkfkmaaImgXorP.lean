/-
  The program's Xor and Turn.
-/
import Derived.Test.YtpjaljjclkfkmaaImgAwake
import Derived.Laws.BitsLemmas
namespace Go.Proofs.Ytpjaljjclkfkmaa
open Go.RowKit Im

namespace Im
theorem bit_xor (x y j : Nat) : decide ((x ^^^ y) >>> j % 2 = 1) = (decide (x >>> j % 2 = 1) != decide (y >>> j % 2 = 1)) := by
  have h : ∀ z : Nat, decide (z >>> j % 2 = 1) = Nat.testBit z j := fun z => by
    rw [Nat.testBit_eq_decide_div_mod_eq, Nat.shiftRight_eq_div_pow]
  rw [h, h, h, Nat.testBit_xor]
/-- The bits that differ. -/
def xorB (f g : Nat → Bool) : Nat → Bool := fun k => f k != g k
theorem byteP_xor (f g : Nat → Bool) (k : Nat) : byteP (xorB f g) k = byteP f k ^^^ byteP g k := by
  have hb : ∀ (f : Nat → Bool) (j : Nat), j < 8 → decide (byteP f k >>> (7 - j) % 2 = 1) = f (8 * k + j) := by
    intro f j hj
    have := bit_pack f (k + 1) (8 * k + j) (by omega)
    unfold bitL at this
    rw [packP_get f (k + 1) _ (by omega), show (8 * k + j) / 8 = k by omega, show (8 * k + j) % 8 = j by omega, Int.toNat_natCast] at this
    exact this
  have hx : byteP f k ^^^ byteP g k < 256 := Nat.xor_lt_two_pow (n := 8) (byte8_lt _ _ _ _ _ _ _ _) (byte8_lt _ _ _ _ _ _ _ _)
  rw [← of8 _ hx]
  simp only [bit_xor]
  have e7 := hb f 0 (by omega); have e6 := hb f 1 (by omega); have e5 := hb f 2 (by omega); have e4 := hb f 3 (by omega); have e3 := hb f 4 (by omega); have e2 := hb f 5 (by omega); have e1 := hb f 6 (by omega); have e0 := hb f 7 (by omega)
  have g7 := hb g 0 (by omega); have g6 := hb g 1 (by omega); have g5 := hb g 2 (by omega); have g4 := hb g 3 (by omega); have g3 := hb g 4 (by omega); have g2 := hb g 5 (by omega); have g1 := hb g 6 (by omega); have g0 := hb g 7 (by omega)
  simp only [Nat.sub_zero, Nat.reduceSub, Nat.sub_self, Nat.add_zero] at e7 e6 e5 e4 e3 e2 e1 e0 g7 g6 g5 g4 g3 g2 g1 g0
  rw [e7, e6, e5, e4, e3, e2, e1, e0, g7, g6, g5, g4, g3, g2, g1, g0]
  rfl
theorem bits_xorN (k : IntKind) (j : Nat) (hj : j ≤ k.bits) (hk : ∀ n : Int, 0 ≤ n → n < 2 ^ j → k.wrap n = n) (a b : Nat) (ha : a < 2 ^ j) (hb : b < 2 ^ j) : bits .xor k a b = ((a ^^^ b : Nat) : Int) := by
  have hp : 2 ^ j ≤ 2 ^ k.bits := Nat.pow_le_pow_right (by decide) hj
  have ha' : a % 2 ^ k.bits = a := Nat.mod_eq_of_lt (Nat.lt_of_lt_of_le ha hp)
  have hb' : b % 2 ^ k.bits = b := Nat.mod_eq_of_lt (Nat.lt_of_lt_of_le hb hp)
  simp only [bits, BitVec.ofInt_natCast, BitVec.toNat_xor, BitVec.toNat_ofNat, ha', hb']
  exact hk _ (Int.natCast_nonneg _) (by exact_mod_cast Nat.xor_lt_two_pow ha hb)
theorem xor8 (x y : Nat) (hx : x < 256) (hy : y < 256) : bits BinOp.xor IntKind.u8 (x : Int) (y : Int) = ((x ^^^ y : Nat) : Int) :=
  bits_xorN .u8 8 (by decide) (fun n h0 h1 => by rw [IntKind.wrap_u8]; omega) x y hx hy
/-- The first m bytes written anew. -/
def mixP (f g : Nat → Bool) (i m : Nat) : List Int := (List.range m).map fun k => if k < i then (byteP f k : Int) else (byteP g k : Int)
theorem mixP_zero (f g : Nat → Bool) (m : Nat) : mixP f g 0 m = packP g m := by
  unfold mixP packP
  apply List.map_congr_left
  intro k _
  rw [if_neg (by omega)]
theorem mixP_end (f g : Nat → Bool) (m : Nat) : mixP f g m m = packP f m := by
  unfold mixP packP
  apply List.map_congr_left
  intro k hk
  rw [if_pos (List.mem_range.1 hk)]
theorem mixP_next (f g : Nat → Bool) (i m : Nat) (hi : i < m) : (mixP f g i m).set i (byteP f i : Int) = mixP f g (i + 1) m := by
  apply List.ext_getElem?
  intro k
  unfold mixP
  rw [List.getElem?_set, List.length_map, List.length_range]
  by_cases e : i = k
  · subst e
    rw [if_pos rfl, if_pos hi, List.getElem?_map, List.getElem?_range hi]
    simp
  · rw [if_neg e]
    by_cases hk : k < m
    · rw [List.getElem?_map, List.getElem?_map, List.getElem?_range hk]
      simp only [Option.map_some]
      by_cases h : k < i
      · rw [if_pos h, if_pos (by omega)]
      · rw [if_neg h, if_neg (by omega)]
    · rw [List.getElem?_eq_none (by simp; omega), List.getElem?_eq_none (by simp; omega)]
end Im
theorem new_of {v u n : Nat} {bs : List Int} {B : Nat} {w : World} {e : Ending} (hO : OkI v u bs) (hlen : bs.length = n) (h : NewOut B v u e w) : ∃ gc, e = .returned (.tuple #[.agg #[.int .i64 (v : Int), .int .i64 (u : Int), .slice (some ⟨gc, 0, none⟩) n n], .int .i64 0]) ∧ Own 5 .u8 B w (some ⟨gc, 0, none⟩) n n (packP noB n) := by
  rcases h with ⟨v', u', m, gc, ev, eu, _, _, _, _, hm, rfl, ON⟩ | ⟨hno, _⟩
  · have ev : v = v' := by omega
    have eu : u = u' := by omega
    subst ev eu
    have hmn : m = n := by rw [hm, ← hO.len, hlen]
    subst hmn
    exact ⟨gc, rfl, ON⟩
  · exact absurd ⟨by have := hO.w1; omega, by have := hO.w2; omega, by have := hO.h1; omega, by have := hO.h2; omega⟩ hno
set_option maxHeartbeats 3200000 in
set_option maxRecDepth 100000 in
theorem turn_c (v u : Nat) (ao : Option Addr) (n c : Nat) (bs : List Int) (w : World) (h : Lst .u8 w ao n c bs) (hO : OkI v u bs) :
    Calls Try.prog 28 #[.agg #[.int .i64 (v : Int), .int .i64 (u : Int), .slice ao n c]] w fun e w' => ∃ gc, e = .returned (.agg #[.int .i64 (v : Int), .int .i64 (u : Int), .slice (some ⟨gc, 0, none⟩) n n]) ∧ Own 5 .u8 w.heap.size w' (some ⟨gc, 0, none⟩) n n (packP (fun k => decide (k < v * u) && bitL bs (v * u - 1 - k)) n) ∧ Below w.heap.size w w' := by
  obtain ⟨V1, e1, A1, B1, z1⟩ := new_img w v u ao n c
  obtain ⟨V3, e3, A3, B3, z3⟩ := new_img V1 0 0 none 0 0
  rw [z1] at A3
  have BB : Below w.heap.size w V3 := B1.trans (B3.mono B1.size)
  have HV := Lib.hid (valid_c v u ao n c bs V3 (h.below BB))
  rw [okB_mk hO] at HV
  have A1' := A1.kept B3
  have y0 : V3.cell? ⟨w.heap.size, 0, none⟩ = some (.int .i64 (v : Int)) := A1'.cell 0
  have y1 : V3.cell? ⟨w.heap.size, 1, none⟩ = some (.int .i64 (u : Int)) := A1'.cell 1
  have y2 : V3.cell? ⟨w.heap.size, 2, none⟩ = some (.slice ao n c) := A1'.cell 2
  have HA := Lib.hid (And.intro A1' A3)
  have HB := Lib.hid BB
  have HLL : Hid (∀ W, Below w.heap.size w W → Lst .u8 W ao n c bs) := fun W hb => h.below hb
  have hlen : Hid (bs.length = n) := h.len
  obtain ⟨P, hP0⟩ : ∃ P, Hid (v * u = P) := ⟨_, rfl⟩
  have hPb : P ≤ 262144 := by rw [← hP0.out]; exact area_le hO.w2 hO.h2
  have hP : (v : Int) * (u : Int) = (P : Int) := by rw [← hP0.out]; exact (Int.natCast_mul v u).symm
  have hn8 : P ≤ 8 * n := by have := hO.len; have := hlen.out; have := hP0.out; omega
  have hn : n ≤ 1000000 := by have := hO.len; have := hlen.out; have := hP0.out; omega
  have hn1 : 1 ≤ n := by have := Nat.mul_pos hO.w1 hO.h1; have := hP0.out; omega
  rw [hP0.out]
  have HNW := Lib.hid (fun W => (new_c v u W).mono fun e w' (hh : NewOut W.heap.size v u e w' ∧ Below W.heap.size W w') => And.intro (new_of hO hlen.out hh.1) hh.2)
  clear A1 A1' A3 B1 B3 BB z3 h hO
  go_enter Try.func28, Try.ntmps28
  go_wp2_with (first
    | (go_at_call 16; (with_reducible refine HV.out.mono ?_); rintro e w4 ⟨rfl, B4⟩; have k0 := cell_keep y0 B4; have k1 := cell_keep y1 B4; have k2 := cell_keep y2 B4; have hB4 := Lib.hid B4; clear B4)
    | (go_at_call 13; (with_reducible refine (HNW.out _).mono ?_); rintro e w5 ⟨⟨gc, rfl, ON⟩, B5⟩; obtain ⟨w6, w7, m6, m7, q0, q1, q2, q3, q4, q5, A7, B7, z7⟩ := new_fill2 w5 (.int .i64 (v : Int)) (.int .i64 (u : Int)) (.slice (some ⟨gc, 0, none⟩) n n); have B57 := B5.trans (B7.mono B5.size); have l0 := cell_keep k0 B57; have l1 := cell_keep k1 B57; have l2 := cell_keep k2 B57; obtain ⟨g7, hg7⟩ : ∃ g, w5.heap.size = g := ⟨_, rfl⟩; have hgc := World.ownsRow.lt ON.1 gc rfl; rw [hg7] at m7 q0 q1 q2 q3 q4 q5 A7 hgc; have hF := Lib.hid (And.intro ON (And.intro B7 (And.intro A7 (And.intro B57 hgc)))); clear ON B5 B7 A7 B57 hgc z7))
  obtain ⟨ON, B7, A7, B57, hgc⟩ := hF.out
  have hsz4 : w.heap.size + 1 < w4.heap.size := by have := hB4.out.size; have := HA.out.2.lt; omega
  have B47 : Hid (Below w.heap.size w w7) := (HB.out.trans (hB4.out.mono HB.out.size)).trans (B57.mono (by omega))
  have hg75 : Hid (w4.heap.size ≤ g7) := by show w4.heap.size ≤ g7; have h1 : w4.heap.size ≤ gc := hgc.1; have h2 := hgc.2; omega
  have hgcH : Hid (w4.heap.size ≤ gc ∧ gc < g7) := hgc
  have S0 : Arr w7 w.heap.size 24 [.int .i64 (v : Int), .int .i64 (u : Int), .slice ao n c] := (HA.out.1.kept hB4.out).kept B57
  have S1 : Arr w7 (w.heap.size + 1) 24 [.int .i64 0, .int .i64 0, .slice none 0 0] := (HA.out.2.kept hB4.out).kept B57
  have O7 : Own 5 .u8 w.heap.size w7 (some ⟨gc, 0, none⟩) n n (packP noB n) := by
    have h1 := ON.kept B7
    exact ⟨h1.1.mono (by omega), h1.2⟩
  have hS := Lib.hid (And.intro S0 (And.intro S1 (And.intro A7 O7)))
  have hsz := Lib.hid hsz4
  clear ON B7 A7 B57 hgc S0 S1 O7 hF k0 k1 k2 y0 y1 y2 m6 m7 q0 q1 q2 q3 q4 q5 l0 l1 l2 hsz4
  go_loopw [6, 25] (fun _ iv wr => ∃ i : Nat, i ≤ P ∧ iv = .int .i64 (i : Int) ∧ Hid (Arr wr w.heap.size 24 [.int .i64 (v : Int), .int .i64 (u : Int), .slice ao n c] ∧ Arr wr (w.heap.size + 1) 24 [.int .i64 0, .int .i64 0, .slice none 0 0] ∧ Arr wr g7 24 [.int .i64 (v : Int), .int .i64 (u : Int), .slice (some ⟨gc, 0, none⟩) n n] ∧
      Own 5 .u8 w.heap.size wr (some ⟨gc, 0, none⟩) n n (packP (fun k => decide (P - i ≤ k) && decide (k < P) && bitL bs (P - 1 - k)) n) ∧ Below w.heap.size w wr)) (fun _ iv _ => P - (intOf iv).toNat)
  case atStart =>
    refine ⟨0, Nat.zero_le _, rfl, hS.out.1, hS.out.2.1, hS.out.2.2.1, ?_, B47.out⟩
    have e : (fun k => decide (P - 0 ≤ k) && decide (k < P) && bitL bs (P - 1 - k)) = noB := by
      funext k
      by_cases hk : k < P
      · rw [decide_eq_false (show ¬ P - 0 ≤ k by omega)]; rfl
      · rw [decide_eq_false hk, Bool.and_false]; rfl
    rw [e]
    exact hS.out.2.2.2
  case round =>
    obtain ⟨v1, hv1⟩ : ∃ y, y = wr := ⟨_, rfl⟩
    subst hv1
    clear hS B47
    obtain ⟨i, hi, rfl, hI⟩ := hrel
    by_cases hlt : i < P
    · have hlt' : (i : Int) < (P : Int) := by omega
      obtain ⟨k, hk⟩ : ∃ k, P - 1 - i = k := ⟨_, rfl⟩
      have hk2 : (P : Int) - 1 - (i : Int) = (k : Int) := by omega
      obtain ⟨k1, hk1⟩ : ∃ k1 : Int, (P : Int) - 1 = k1 := ⟨_, rfl⟩
      have hk3 : k1 - (i : Int) = (k : Int) := by omega
      have hw1 : IntKind.i64.wrap k1 = k1 := by rw [IntKind.wrap_i64]; omega
      have hw2 : IntKind.i64.wrap (k : Int) = (k : Int) := by rw [IntKind.wrap_i64]; omega
      have d0 : v1.drew.cell? ⟨w.heap.size, 0, none⟩ = some (.int .i64 (v : Int)) := hI.out.1.cell 0
      have d1 : v1.drew.cell? ⟨w.heap.size, 1, none⟩ = some (.int .i64 (u : Int)) := hI.out.1.cell 1
      have d2 : v1.drew.cell? ⟨w.heap.size, 2, none⟩ = some (.slice ao n c) := hI.out.1.cell 2
      have d3 : v1.drew.cell? ⟨g7, 0, none⟩ = some (.int .i64 (v : Int)) := hI.out.2.2.1.cell 0
      have d4 : v1.drew.cell? ⟨g7, 1, none⟩ = some (.int .i64 (u : Int)) := hI.out.2.2.1.cell 1
      have d5 : v1.drew.cell? ⟨g7, 2, none⟩ = some (.slice (some ⟨gc, 0, none⟩) n n) := hI.out.2.2.1.cell 2
      obtain ⟨b, hb⟩ : ∃ b, bitL bs i = b := ⟨_, rfl⟩
      have H1 := isFilled_c v u ao n c i bs v1.drew (HLL.out _ hI.out.2.2.2.2.drew) (by omega) hn
      rw [hb] at H1
      replace H1 := Lib.hid H1
      obtain ⟨f, hf⟩ : ∃ f, (fun k => decide (P - i ≤ k) && decide (k < P) && bitL bs (P - 1 - k)) = f := ⟨_, rfl⟩
      have H2 : Hid (∀ W, Below v1.drew.heap.size v1.drew W → Calls Try.prog 41 #[.agg #[.int .i64 (v : Int), .int .i64 (u : Int), .slice (some ⟨gc, 0, none⟩) n n], .int .i64 (k : Int), .bool b] W (SetOut w.heap.size W (some ⟨gc, 0, none⟩) n n f k b)) := fun W hw => by
        refine set_c v u w.heap.size (some ⟨gc, 0, none⟩) n n f k b W ?_ (by omega) hn
        rw [← hf]
        exact hI.out.2.2.2.1.kept ((show Below v1.heap.size v1 v1.drew from (Below.refl _ _).drew).trans hw)
      have hend : Hid (∀ W Z, Below v1.drew.heap.size v1.drew W → Own 5 .u8 w.heap.size Z (some ⟨gc, 0, none⟩) n n (packP (upd f k b) n) → W.grownBy Z (some gc) → Arr Z w.heap.size 24 [.int .i64 (v : Int), .int .i64 (u : Int), .slice ao n c] ∧ Arr Z (w.heap.size + 1) 24 [.int .i64 0, .int .i64 0, .slice none 0 0] ∧ Arr Z g7 24 [.int .i64 (v : Int), .int .i64 (u : Int), .slice (some ⟨gc, 0, none⟩) n n] ∧
          Own 5 .u8 w.heap.size Z (some ⟨gc, 0, none⟩) n n (packP (fun k => decide (P - (i + 1) ≤ k) && decide (k < P) && bitL bs (P - 1 - k)) n) ∧ Below w.heap.size w Z) := by
        intro W Z hw OZ GZ
        have hw' : Below v1.heap.size v1 W := (show Below v1.heap.size v1 v1.drew from (Below.refl _ _).drew).trans hw
        obtain ⟨i1, i2, i3, i4, i5⟩ := hI.out
        have hzs := hsz.out
        have hgg := hgcH.out
        refine ⟨(i1.kept hw').grownBy GZ (by omega), (i2.kept hw').grownBy GZ (by omega), (i3.kept hw').grownBy GZ (by omega), ?_, below_grown (i5.trans (hw'.mono i5.size)) GZ (by have := i5.size; have := hw'.size; omega) (by omega)⟩
        have e : (fun k => decide (P - (i + 1) ≤ k) && decide (k < P) && bitL bs (P - 1 - k)) = upd f k b := by
          funext j
          rw [← hf]
          unfold upd
          by_cases hj : j = k
          · rw [if_pos hj, decide_eq_true (show P - (i + 1) ≤ j by omega), decide_eq_true (show j < P by omega), show P - 1 - j = i by omega, hb]
            rfl
          · rw [if_neg hj]
            show _ = (decide (P - i ≤ j) && decide (j < P) && bitL bs (P - 1 - j))
            by_cases hj2 : P - i ≤ j
            · rw [decide_eq_true (show P - (i + 1) ≤ j by omega), decide_eq_true hj2]
            · rw [decide_eq_false (show ¬ P - (i + 1) ≤ j by omega), decide_eq_false hj2]
        rw [e]
        exact OZ
      clear hb hf
      go_wp2_with fail
      go_region_held3 (fun w' => w'.cell? ⟨w.heap.size, 0, none⟩ = some (.int .i64 (v : Int)) ∧ w'.cell? ⟨w.heap.size, 1, none⟩ = some (.int .i64 (u : Int)) ∧ w'.cell? ⟨w.heap.size, 2, none⟩ = some (.slice ao n c) ∧ w'.cell? ⟨g7, 0, none⟩ = some (.int .i64 (v : Int)) ∧ w'.cell? ⟨g7, 1, none⟩ = some (.int .i64 (u : Int)) ∧ w'.cell? ⟨g7, 2, none⟩ = some (.slice (some ⟨gc, 0, none⟩) n n)) (go_keep) (first
        | (go_at_call 38; (with_reducible refine H1.out.mono ?_); rintro e w8 ⟨rfl, B8⟩; have t0 := cell_keep d0 B8; have t1 := cell_keep d1 B8; have t2 := cell_keep d2 B8; have t3 := cell_keep d3 B8; have t4 := cell_keep d4 B8; have t5 := cell_keep d5 B8; have hB8 := Lib.hid B8; clear B8)
        | (go_at_call 41; (with_reducible refine (H2.out _ hB8.out).mono ?_); rintro e Z hZ; obtain ⟨⟨rr, rfl⟩, OZ, GZ⟩ := hZ; have hZ := Lib.hid (hend.out _ _ hB8.out OZ GZ); have t6 : Z.cell? ⟨w.heap.size, 0, none⟩ = some (.int .i64 (v : Int)) := hZ.out.1.cell 0; have t7 : Z.cell? ⟨w.heap.size, 1, none⟩ = some (.int .i64 (u : Int)) := hZ.out.1.cell 1; have t8 : Z.cell? ⟨w.heap.size, 2, none⟩ = some (.slice ao n c) := hZ.out.1.cell 2; have t9 : Z.cell? ⟨g7, 0, none⟩ = some (.int .i64 (v : Int)) := hZ.out.2.2.1.cell 0; have ta : Z.cell? ⟨g7, 1, none⟩ = some (.int .i64 (u : Int)) := hZ.out.2.2.1.cell 1; have tb : Z.cell? ⟨g7, 2, none⟩ = some (.slice (some ⟨gc, 0, none⟩) n n) := hZ.out.2.2.1.cell 2; clear OZ GZ))
      all_goals
        go_wp2_with fail
        go_roundw
        case rel => exact ⟨i + 1, by omega, by go_num, hZ⟩
        case measure => simp [intOf]; omega
    · obtain rfl : i = P := by omega
      have d3 : v1.cell? ⟨g7, 0, none⟩ = some (.int .i64 (v : Int)) := hI.out.2.2.1.cell 0
      have d4 : v1.cell? ⟨g7, 1, none⟩ = some (.int .i64 (u : Int)) := hI.out.2.2.1.cell 1
      have d5 : v1.cell? ⟨g7, 2, none⟩ = some (.slice (some ⟨gc, 0, none⟩) n n) := hI.out.2.2.1.cell 2
      obtain ⟨Z, m7, AZ, GZ, hZz, q0, q1, q2, q3, q4, q5, r0, r1, r2⟩ := put_img hI.out.2.1 (.int .i64 (v : Int)) (.int .i64 (u : Int)) (.slice (some ⟨gc, 0, none⟩) n n)
      have OZ : Hid (Own 5 .u8 w.heap.size Z (some ⟨gc, 0, none⟩) n n (packP (fun k => decide (k < i) && bitL bs (i - 1 - k)) n)) := by
        have e : (fun k => decide (i - i ≤ k) && decide (k < i) && bitL bs (i - 1 - k)) = (fun k => decide (k < i) && bitL bs (i - 1 - k)) := by
          funext k
          rw [decide_eq_true (show i - i ≤ k by omega), Bool.true_and]
        have h1 := hI.out.2.2.2.1
        rw [e] at h1
        have hzs := hsz.out
        have hgg := hgcH.out
        exact ⟨h1.1.kept GZ (Or.inr (fun e => by injection e with e; exact absurd (show gc = w.heap.size + 1 from e) (by omega))), h1.2⟩
      have BZ : Hid (Below w.heap.size w Z) := below_grown hI.out.2.2.2.2 GZ hI.out.2.2.2.2.size (by omega)
      clear AZ GZ hZz
      go_wp2_with fail
      refine bodyPost_ret (v := .agg #[.int .i64 (v : Int), .int .i64 (u : Int), .slice (some ⟨gc, 0, none⟩) n n]) (by simp [results, Try.results28, go_sem, r0, r1, r2]) rfl ?_
      exact ⟨gc, rfl, OZ.out, BZ.out⟩
/-- Two boxes of images. -/
theorem two_img (w : World) (x y x' y' : Int) (ao bo : Option Addr) (n c m d : Nat) : ∃ V U, w.alloc (.cells #[.int .i64 x, .int .i64 y, .slice ao n c] 24) = V ∧ V.alloc (.cells #[.int .i64 x', .int .i64 y', .slice bo m d] 24) = U ∧ V.heap.size = w.heap.size + 1 ∧
    Arr U w.heap.size 24 [.int .i64 x, .int .i64 y, .slice ao n c] ∧ Arr U (w.heap.size + 1) 24 [.int .i64 x', .int .i64 y', .slice bo m d] ∧ Below w.heap.size w U ∧ U.heap.size = w.heap.size + 2 := by
  obtain ⟨V, e1, AV, BV, hz⟩ := new_img w x y ao n c
  obtain ⟨U, e2, AU, BU, hz2⟩ := new_img V x' y' bo m d
  rw [hz] at AU
  exact ⟨V, U, e1, e2, hz, AV.kept BU, AU, BV.trans (BU.mono (by omega)), by omega⟩
set_option maxHeartbeats 3200000 in
set_option maxRecDepth 100000 in
theorem xor_no (x y x' y' : Int) (ao bo : Option Addr) (n c m d : Nat) (az bs : List Int) (w : World) (h : Lst .u8 w ao n c az) (k : Lst .u8 w bo m d bs) (hno : okB x y az = false ∨ okB x' y' bs = false ∨ x ≠ x' ∨ y ≠ y') :
    Calls Try.prog 30 #[.agg #[.int .i64 x, .int .i64 y, .slice ao n c], .agg #[.int .i64 x', .int .i64 y', .slice bo m d]] w fun e w' => e = .returned (.tuple #[.agg #[.int .i64 0, .int .i64 0, .slice none 0 0], .bool false]) ∧ Below w.heap.size w w' := by
  obtain ⟨V1, V2, e1, e2, z1, A1, A2, B2, z2⟩ := two_img w x y x' y' ao bo n c m d
  obtain ⟨V3, e3, A3, B3, z3⟩ := new_img V2 0 0 none 0 0
  rw [z2] at A3
  have BB : Below w.heap.size w V3 := B2.trans (B3.mono B2.size)
  have HV := Lib.hid (valid_c x y ao n c az V3 (h.below BB))
  have HW := Lib.hid (fun W (hb : Below V3.heap.size V3 W) => valid_c x' y' bo m d bs W ((k.below BB).below hb))
  have A1' := A1.kept B3
  have A2' := A2.kept B3
  have y0 : V3.cell? ⟨w.heap.size, 0, none⟩ = some (.int .i64 x) := A1'.cell 0
  have y1 : V3.cell? ⟨w.heap.size, 1, none⟩ = some (.int .i64 y) := A1'.cell 1
  have y2 : V3.cell? ⟨w.heap.size, 2, none⟩ = some (.slice ao n c) := A1'.cell 2
  have u0 : V3.cell? ⟨w.heap.size + 1, 0, none⟩ = some (.int .i64 x') := A2'.cell 0
  have u1 : V3.cell? ⟨w.heap.size + 1, 1, none⟩ = some (.int .i64 y') := A2'.cell 1
  have u2 : V3.cell? ⟨w.heap.size + 1, 2, none⟩ = some (.slice bo m d) := A2'.cell 2
  have HA := Lib.hid A3
  have HB := Lib.hid BB
  have HZ : Hid (∀ W, Below V3.heap.size V3 W → ∃ Z, ((W.setCell ⟨w.heap.size + 2, 0, none⟩ (.int .i64 0)).setCell ⟨w.heap.size + 2, 1, none⟩ (.int .i64 0)).setCell ⟨w.heap.size + 2, 2, none⟩ (.slice none 0 0) = Z ∧
      W.cell? ⟨w.heap.size + 2, 0, none⟩ = some (.int .i64 0) ∧ W.frozen? ⟨w.heap.size + 2, 0, none⟩ = false ∧ (W.setCell ⟨w.heap.size + 2, 0, none⟩ (.int .i64 0)).cell? ⟨w.heap.size + 2, 1, none⟩ = some (.int .i64 0) ∧ (W.setCell ⟨w.heap.size + 2, 0, none⟩ (.int .i64 0)).frozen? ⟨w.heap.size + 2, 1, none⟩ = false ∧
      ((W.setCell ⟨w.heap.size + 2, 0, none⟩ (.int .i64 0)).setCell ⟨w.heap.size + 2, 1, none⟩ (.int .i64 0)).cell? ⟨w.heap.size + 2, 2, none⟩ = some (.slice none 0 0) ∧ ((W.setCell ⟨w.heap.size + 2, 0, none⟩ (.int .i64 0)).setCell ⟨w.heap.size + 2, 1, none⟩ (.int .i64 0)).frozen? ⟨w.heap.size + 2, 2, none⟩ = false ∧
      Z.cell? ⟨w.heap.size + 2, 0, none⟩ = some (.int .i64 0) ∧ Z.cell? ⟨w.heap.size + 2, 1, none⟩ = some (.int .i64 0) ∧ Z.cell? ⟨w.heap.size + 2, 2, none⟩ = some (.slice none 0 0) ∧ Below w.heap.size w Z) := by
    intro W hb
    obtain ⟨Z, m7, AZ, GZ, hZz, q⟩ := put_img (HA.out.kept hb) (.int .i64 0) (.int .i64 0) (.slice none 0 0)
    obtain ⟨q0, q1, q2, q3, q4, q5, r0, r1, r2⟩ := q
    exact ⟨Z, m7, q0, q1, q2, q3, q4, q5, r0, r1, r2, below_grown (HB.out.trans (hb.mono HB.out.size)) GZ (by have := HB.out.size; have := hb.size; omega) (by omega)⟩
  clear A1 A2 A1' A2' A3 B2 B3 BB z3 h k
  cases h1 : okB x y az with
  | false =>
    rw [h1] at HV
    replace HV := Lib.hid HV
    clear hno h1
    go_enter Try.func30, Try.ntmps30
    go_wp2_with (go_at_call 16; (with_reducible refine HV.out.out.mono ?_); rintro e w4 ⟨rfl, B4⟩; obtain ⟨Z, m7, q0, q1, q2, q3, q4, q5, r0, r1, r2, hB⟩ := HZ.out w4 B4; replace hB := Lib.hid hB; clear B4)
    refine bodyPost_ret (v := .tuple #[.agg #[.int .i64 0, .int .i64 0, .slice none 0 0], .bool false]) (by simp [results, Try.results30, go_sem, r0, r1, r2]) rfl ?_
    exact ⟨rfl, hB.out⟩
  | true =>
    rw [h1] at HV
    replace HV := Lib.hid HV
    cases h2 : okB x' y' bs with
    | false =>
      rw [h2] at HW
      replace HW := Lib.hid HW
      clear hno h1 h2
      go_enter Try.func30, Try.ntmps30
      go_wp2_with (first
        | (go_at_call 16; (with_reducible refine HV.out.out.mono ?_); rintro e w4 ⟨rfl, B4⟩; have v0 := cell_keep u0 B4; have v1 := cell_keep u1 B4; have v2 := cell_keep u2 B4; have HW4 := Lib.hid (HW.out.out w4 B4); have hB4 := Lib.hid B4; clear B4 HV)
        | (go_at_call 16; (with_reducible refine HW4.out.mono ?_); rintro e w5 ⟨rfl, B5⟩; obtain ⟨Z, m7, q0, q1, q2, q3, q4, q5, r0, r1, r2, hB⟩ := HZ.out w5 (hB4.out.trans (B5.mono hB4.out.size)); replace hB := Lib.hid hB; clear B5))
      refine bodyPost_ret (v := .tuple #[.agg #[.int .i64 0, .int .i64 0, .slice none 0 0], .bool false]) (by simp [results, Try.results30, go_sem, r0, r1, r2]) rfl ?_
      exact ⟨rfl, hB.out⟩
    | true =>
      rw [h2] at HW
      replace HW := Lib.hid HW
      have hne : x ≠ x' ∨ y ≠ y' := by
        rcases hno with e | e | e | e
        · rw [h1] at e; cases e
        · rw [h2] at e; cases e
        · exact Or.inl e
        · exact Or.inr e
      clear hno h1 h2
      by_cases hx : x = x'
      · subst hx
        have hy : (y != y') = true := by simp; rcases hne with e | e <;> simp_all
        have hxx : (x != x) = false := by simp
        clear hne
        go_enter Try.func30, Try.ntmps30
        go_wp2_with (first
          | (go_at_call 16; (with_reducible refine HV.out.out.mono ?_); rintro e w4 ⟨rfl, B4⟩; have v0 := cell_keep u0 B4; have v1 := cell_keep u1 B4; have v2 := cell_keep u2 B4; have x0 := cell_keep y0 B4; have x1 := cell_keep y1 B4; have x2 := cell_keep y2 B4; have HW4 := Lib.hid (HW.out.out w4 B4); have hB4 := Lib.hid B4; clear B4 HV)
          | (go_at_call 16; (with_reducible refine HW4.out.mono ?_); rintro e w5 ⟨rfl, B5⟩; have a0 := cell_keep v0 B5; have a1 := cell_keep v1 B5; have b0 := cell_keep x0 B5; have b1 := cell_keep x1 B5; obtain ⟨Z, m7, q0, q1, q2, q3, q4, q5, r0, r1, r2, hB⟩ := HZ.out w5 (hB4.out.trans (B5.mono hB4.out.size)); replace hB := Lib.hid hB; clear B5))
        refine bodyPost_ret (v := .tuple #[.agg #[.int .i64 0, .int .i64 0, .slice none 0 0], .bool false]) (by simp [results, Try.results30, go_sem, r0, r1, r2]) rfl ?_
        exact ⟨rfl, hB.out⟩
      · have hxx : (x != x') = true := by simp [hx]
        clear hne hx
        go_enter Try.func30, Try.ntmps30
        go_wp2_with (first
          | (go_at_call 16; (with_reducible refine HV.out.out.mono ?_); rintro e w4 ⟨rfl, B4⟩; have v0 := cell_keep u0 B4; have v1 := cell_keep u1 B4; have v2 := cell_keep u2 B4; have x0 := cell_keep y0 B4; have x1 := cell_keep y1 B4; have x2 := cell_keep y2 B4; have HW4 := Lib.hid (HW.out.out w4 B4); have hB4 := Lib.hid B4; clear B4 HV)
          | (go_at_call 16; (with_reducible refine HW4.out.mono ?_); rintro e w5 ⟨rfl, B5⟩; have a0 := cell_keep v0 B5; have a1 := cell_keep v1 B5; have b0 := cell_keep x0 B5; have b1 := cell_keep x1 B5; obtain ⟨Z, m7, q0, q1, q2, q3, q4, q5, r0, r1, r2, hB⟩ := HZ.out w5 (hB4.out.trans (B5.mono hB4.out.size)); replace hB := Lib.hid hB; clear B5))
        refine bodyPost_ret (v := .tuple #[.agg #[.int .i64 0, .int .i64 0, .slice none 0 0], .bool false]) (by simp [results, Try.results30, go_sem, r0, r1, r2]) rfl ?_
        exact ⟨rfl, hB.out⟩
end Go.Proofs.Ytpjaljjclkfkmaa
