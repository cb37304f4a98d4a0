/-
  The reference's Count.
-/
import Derived.Test.YtcgfoagfoncjiaaImgWithin
import Derived.Test.YtcgfoagfoncjiaaImgCountP
namespace Go.Proofs.Ytcgfoagfoncjiaa
open Go.RowKit Im

namespace Im
/-- The filled ones of the first k pixels, in the rectangle. -/
def cntK (v u : Nat) (bs : List Int) (x y p q : Int) (k : Nat) : Nat := cntB (bitL bs) ((List.range k).filter (rectP v u x y p q))
theorem cntK_step {v u : Nat} {bs : List Int} {x y p q : Int} {r c : Nat} (hc : c < v) (hr : r < u) :
    cntK v u bs x y p q (r * v + c + 1) = if inP c x p && inP r y q && getP v u bs c r then cntK v u bs x y p q (r * v + c) + 1 else cntK v u bs x y p q (r * v + c) := by
  have h1 : rectP v u x y p q (r * v + c) = (inP c x p && inP r y q) := by
    unfold rectP
    rw [spot_mod hc, spot_div hc, decide_eq_true (spot_lt hc hr), Bool.true_and]
  have h2 : getP v u bs c r = bitL bs (r * v + c) := by
    unfold getP
    rw [Int.toNat_natCast, Int.toNat_natCast, decide_eq_true (show (0 : Int) ≤ (c : Int) by omega), decide_eq_true (show (c : Int) < (v : Int) by omega), decide_eq_true (show (0 : Int) ≤ (r : Int) by omega), decide_eq_true (show (r : Int) < (u : Int) by omega)]
    rfl
  rw [h2]
  unfold cntK
  rw [List.range_succ, List.filter_append]
  cases hR : (inP c x p && inP r y q) with
  | false =>
    rw [Bool.false_and, if_neg (by decide), List.filter_cons, h1, hR]
    simp
  | true =>
    rw [Bool.true_and, List.filter_cons, h1, hR, if_pos rfl, List.filter_nil, cntB_snoc]
theorem cntK_le (v u : Nat) (bs : List Int) (x y p q : Int) (k : Nat) : cntK v u bs x y p q k ≤ k := by
  have h1 := cntB_le (bitL bs) ((List.range k).filter (rectP v u x y p q))
  have h2 := List.length_filter_le (rectP v u x y p q) (List.range k)
  rw [List.length_range] at h2
  exact Nat.le_trans h1 h2
end Im
set_option maxHeartbeats 6400000 in
set_option maxRecDepth 100000 in
theorem refCount_c (v u : Nat) (ao : Option Addr) (n c : Nat) (bs : List Int) (x y p q : Int) (w : World) (h : Lst .u8 w ao n c bs) (hO : OkI v u bs) (x1 : -9223372036854775808 ≤ x) (x2 : x ≤ 9223372036854775807) (y1 : -9223372036854775808 ≤ y) (y2 : y ≤ 9223372036854775807) (a1 : -9223372036854775808 ≤ p) (a2 : p ≤ 9223372036854775807) (b1 : -9223372036854775808 ≤ q) (b2 : q ≤ 9223372036854775807) :
    Calls Try.prog 11 #[.agg #[.int .i64 (v : Int), .int .i64 (u : Int), .slice ao n c], .int .i64 x, .int .i64 y, .int .i64 p, .int .i64 q] w fun e w' => e = .returned (.int .i64 (cntB (bitL bs) (rectL v u x y p q) : Int)) ∧ Below w.heap.size w w' := by
  obtain ⟨V, e1, AV, BV, hz⟩ := new_img w v u ao n c
  have y0 : V.cell? ⟨w.heap.size, 0, none⟩ = some (.int .i64 (v : Int)) := AV.cell 0
  have yy : V.cell? ⟨w.heap.size, 1, none⟩ = some (.int .i64 (u : Int)) := AV.cell 1
  have y3 : V.cell? ⟨w.heap.size, 2, none⟩ = some (.slice ao n c) := AV.cell 2
  have HB : Hid (Below w.heap.size w V) := BV
  have HL : Hid (∀ W, Below V.heap.size V W → Lst .u8 W ao n c bs) := fun W hb => (h.below BV).below hb
  have hv := hO.w2
  have hu := hO.h2
  have HG : Hid (∀ (W : World) (r cc : Nat), Below V.heap.size V W → Calls Try.prog 23 #[.agg #[.int .i64 (v : Int), .int .i64 (u : Int), .slice ao n c], .int .i64 (cc : Int), .int .i64 (r : Int)] W fun e w' => e = .returned (.bool (getP v u bs cc r)) ∧ Below W.heap.size W w') := fun W r cc hb => refGet_c v u cc r ao n c bs W (HL.out W hb) hO
  have HW1 : Hid (∀ (W : World) (cc : Nat), cc ≤ 1000 → Calls Try.prog 21 #[.int .i64 (cc : Int), .int .i64 x, .int .i64 p] W fun e w' => e = .returned (.bool (inP cc x p)) ∧ W = w') := fun W cc hc => within_c cc x p W hc x1 x2 a1 a2
  have HW2 : Hid (∀ (W : World) (r : Nat), r ≤ 1000 → Calls Try.prog 21 #[.int .i64 (r : Int), .int .i64 y, .int .i64 q] W fun e w' => e = .returned (.bool (inP r y q)) ∧ W = w') := fun W r hc => within_c r y q W hc y1 y2 b1 b2
  obtain ⟨K, hK⟩ : ∃ K, cntK v u bs x y p q = K := ⟨_, rfl⟩
  have hK0 : Hid (K 0 = 0) := by show _ = _; rw [← hK]; rfl
  have hKs : Hid (∀ r cc : Nat, cc < v → r < u → K (r * v + cc + 1) = if inP cc x p && inP r y q && getP v u bs cc r then K (r * v + cc) + 1 else K (r * v + cc)) := fun r cc h1 h2 => by rw [← hK]; exact cntK_step h1 h2
  have hKe : Hid (K (u * v) = cntB (bitL bs) (rectL v u x y p q)) := by show _ = _; rw [← hK, Nat.mul_comm]; rfl
  have hKb : Hid (∀ r cc : Nat, cc < v → r < u → K (r * v + cc) < 262144) := fun r cc h1 h2 => by
    have e1 := cntK_le v u bs x y p q (r * v + cc)
    have e2 := spot_lt h1 h2
    have e3 := area_le hv hu
    rw [← hK]
    omega
  obtain ⟨R, hR⟩ : ∃ R, cntB (bitL bs) (rectL v u x y p q) = R := ⟨_, rfl⟩
  rw [hR] at hKe ⊢
  clear h AV BV hz hK hR hO x1 x2 y1 y2 a1 a2 b1 b2
  go_enter Try.func11, Try.ntmps11
  go_wp2_with fail
  go_loopw [11, 12] (fun nv rv wr => ∃ r N : Nat, r ≤ u ∧ rv = .int .i64 (r : Int) ∧ nv = .int .i64 (N : Int) ∧ Hid (N = K (r * v)) ∧ Hid (Below V.heap.size V wr)) (fun _ rv _ => u - (intOf rv).toNat)
  case atStart => exact ⟨0, 0, Nat.zero_le _, rfl, rfl, by show _ = _; rw [Nat.zero_mul]; exact hK0.out.symm, Below.refl _ _⟩
  case round =>
    obtain ⟨v1, hv1⟩ : ∃ y, y = wr := ⟨_, rfl⟩
    subst hv1
    obtain ⟨r, N, hr, rfl, rfl, hN, hB⟩ := hrel
    have b1 := cell_keep yy hB.out
    by_cases hru : r < u
    · have hru' : (r : Int) < (u : Int) := by omega
      go_wp2_with fail
      go_loopw [11, 13] (fun nv cv wx => ∃ cc M : Nat, cc ≤ v ∧ cv = .int .i64 (cc : Int) ∧ nv = .int .i64 (M : Int) ∧ Hid (M = K (r * v + cc)) ∧ Hid (Below V.heap.size V wx)) (fun _ cv _ => v - (intOf cv).toNat)
      case atStart => exact ⟨0, N, Nat.zero_le _, rfl, rfl, hN, hB⟩
      case round =>
        obtain ⟨v2, hv2⟩ : ∃ y, y = wr := ⟨_, rfl⟩
        subst hv2
        clear hB b1
        obtain ⟨cc, M, hcc, rfl, rfl, hM, hB⟩ := hrel
        have a0 := cell_keep y0 hB.out
        have a1 := cell_keep yy hB.out
        have a2 := cell_keep y3 hB.out
        by_cases hcv : cc < v
        · have hcv' : (cc : Int) < (v : Int) := by omega
          have H1 := HW1.out v2 cc (by omega)
          have H2 := HW2.out v2 r (by omega)
          have H3 := HG.out v2 r cc hB.out
          have hst := hKs.out r cc hcv hru
          have hMb : M < 262144 := by rw [hM.out]; exact hKb.out r cc hcv hru
          obtain ⟨R1, hR1⟩ : ∃ R, inP cc x p = R := ⟨_, rfl⟩
          obtain ⟨R2, hR2⟩ : ∃ R, inP r y q = R := ⟨_, rfl⟩
          obtain ⟨R3, hR3⟩ : ∃ R, getP v u bs cc r = R := ⟨_, rfl⟩
          rw [hR1] at H1 hst
          rw [hR2] at H2 hst
          rw [hR3] at H3 hst
          rw [← hM.out] at hst
          replace H1 := Lib.hid H1
          replace H2 := Lib.hid H2
          replace H3 := Lib.hid H3
          have hsz := Lib.hid hB.out.size
          clear hR1 hR2 hR3
          cases R1 with
          | false =>
            have hst2 : Hid (M = K (r * v + (cc + 1))) := hst.symm
            clear hst
            go_wp2_with (go_at_call 21; (with_reducible refine H1.out.mono ?_); rintro e w1 ⟨rfl, rfl⟩)
            go_roundw
            case rel => exact ⟨cc + 1, M, by omega, by go_num, by first | rfl | go_num, hst2, hB⟩
            case measure => simp [intOf]; omega
          | true =>
            cases R2 with
            | false =>
              have hst2 : Hid (M = K (r * v + (cc + 1))) := hst.symm
              clear hst
              go_wp2_with (first
                | (go_at_call 21; (with_reducible refine H1.out.mono ?_); clear H1; rintro e w1 ⟨rfl, rfl⟩)
                | (go_at_call 21; (with_reducible refine H2.out.mono ?_); clear H2; rintro e w1 ⟨rfl, rfl⟩))
              go_roundw
              case rel => exact ⟨cc + 1, M, by omega, by go_num, by first | rfl | go_num, hst2, hB⟩
              case measure => simp [intOf]; omega
            | true =>
              cases R3 with
              | false =>
                have hst2 : Hid (M = K (r * v + (cc + 1))) := hst.symm
                clear hst
                go_wp2_with (first
                  | (go_at_call 21; (with_reducible refine H1.out.mono ?_); clear H1; rintro e w1 ⟨rfl, rfl⟩)
                  | (go_at_call 21; (with_reducible refine H2.out.mono ?_); clear H2; rintro e w1 ⟨rfl, rfl⟩)
                  | (go_at_call 23; (with_reducible refine H3.out.mono ?_); clear H3; rintro e w3 ⟨rfl, B3⟩; have hB3 := Lib.hid (hB.out.trans (B3.mono hsz.out)); clear B3))
                go_roundw
                case rel => exact ⟨cc + 1, M, by omega, by go_num, by first | rfl | go_num, hst2, hB3⟩
                case measure => simp [intOf]; omega
              | true =>
                have hst2 : Hid (M + 1 = K (r * v + (cc + 1))) := hst.symm
                clear hst
                go_wp2_with (first
                  | (go_at_call 21; (with_reducible refine H1.out.mono ?_); clear H1; rintro e w1 ⟨rfl, rfl⟩)
                  | (go_at_call 21; (with_reducible refine H2.out.mono ?_); clear H2; rintro e w1 ⟨rfl, rfl⟩)
                  | (go_at_call 23; (with_reducible refine H3.out.mono ?_); clear H3; rintro e w3 ⟨rfl, B3⟩; have hB3 := Lib.hid (hB.out.trans (B3.mono hsz.out)); clear B3))
                go_roundw
                case rel => exact ⟨cc + 1, M + 1, by omega, by go_num, by go_num, hst2, hB3⟩
                case measure => simp [intOf]; omega
        · obtain rfl : cc = v := by omega
          have hM2 : Hid (M = K ((r + 1) * cc)) := by show _ = _; rw [Nat.add_mul, Nat.one_mul]; exact hM.out
          clear hM
          go_wp2_with fail
          go_roundw
          case rel => exact ⟨r + 1, M, by omega, by go_num, by first | rfl | go_num, hM2, hB⟩
          case measure => simp [intOf]; omega
    · obtain rfl : r = u := by omega
      have hfin : Hid (N = R) := hN.out.trans hKe.out
      have hB2 := Lib.hid (HB.out.trans (hB.out.mono HB.out.size))
      clear hN hKe hKs hKb
      go_wp2_with fail
      go_ret
      exact ⟨by have e := hfin.out; subst e; rfl, hB2.out⟩
end Go.Proofs.Ytcgfoagfoncjiaa
