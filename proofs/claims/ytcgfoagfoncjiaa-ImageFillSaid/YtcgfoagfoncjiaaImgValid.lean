/-
  The reference's Valid and Get.
-/
import Derived.Test.YtcgfoagfoncjiaaImgBit
import Derived.Test.YtcgfoagfoncjiaaImgEq
namespace Go.Proofs.Ytcgfoagfoncjiaa
open Go.RowKit Im

namespace Im
/-- Is there an image of x columns and y rows with these bytes? -/
def okB (x y : Int) (bs : List Int) : Bool := decide (1 ≤ x) && decide (x ≤ 512) && decide (1 ≤ y) && decide (y ≤ 512) && decide (bs.length = (x.toNat * y.toNat + 7) / 8) && (List.range (8 * bs.length)).all fun n => decide (n < x.toNat * y.toNat) || !bitL bs n
/-- What a valid image is. -/
structure OkI (w h : Nat) (bs : List Int) : Prop where
  w1 : 1 ≤ w
  w2 : w ≤ 512
  h1 : 1 ≤ h
  h2 : h ≤ 512
  len : bs.length = (w * h + 7) / 8
  rest : ∀ n, w * h ≤ n → n < 8 * bs.length → bitL bs n = false
theorem okB_yes {x y : Int} {bs : List Int} (h : okB x y bs = true) : ∃ v u : Nat, x = v ∧ y = u ∧ OkI v u bs := by
  unfold okB at h
  simp only [Bool.and_eq_true, decide_eq_true_eq, List.all_eq_true, List.mem_range, Bool.or_eq_true, Bool.not_eq_true'] at h
  obtain ⟨⟨⟨⟨⟨a, b⟩, c⟩, d⟩, e⟩, f⟩ := h
  refine ⟨x.toNat, y.toNat, by omega, by omega, by omega, by omega, by omega, by omega, e, fun n h1 h2 => ?_⟩
  rcases f n h2 with g | g
  · omega
  · exact g
theorem okB_mk {v u : Nat} {bs : List Int} (h : OkI v u bs) : okB v u bs = true := by
  unfold okB
  simp only [Bool.and_eq_true, decide_eq_true_eq, List.all_eq_true, List.mem_range, Bool.or_eq_true, Bool.not_eq_true', Int.toNat_natCast]
  refine ⟨⟨⟨⟨⟨by have := h.w1; omega, by have := h.w2; omega⟩, by have := h.h1; omega⟩, by have := h.h2; omega⟩, h.len⟩, fun n hn => ?_⟩
  by_cases hl : n < v * u
  · exact Or.inl hl
  · exact Or.inr (h.rest n (by omega) hn)
theorem okB_no {x y : Int} {bs : List Int} (h : ¬ (1 ≤ x ∧ x ≤ 512 ∧ 1 ≤ y ∧ y ≤ 512 ∧ bs.length = (x.toNat * y.toNat + 7) / 8)) : okB x y bs = false := by
  cases hb : okB x y bs with
  | false => rfl
  | true =>
    obtain ⟨v, u, rfl, rfl, O⟩ := okB_yes hb
    exact absurd ⟨by have := O.w1; omega, by have := O.w2; omega, by have := O.h1; omega, by have := O.h2; omega, O.len⟩ h
theorem okB_bit {v u n : Nat} {bs : List Int} (h1 : v * u ≤ n) (h2 : n < 8 * bs.length) (h : bitL bs n = true) : okB v u bs = false := by
  cases hb : okB v u bs with
  | false => rfl
  | true =>
    obtain ⟨v', u', e1, e2, O⟩ := okB_yes hb
    have e1 : v = v' := by omega
    have e2 : u = u' := by omega
    subst e1 e2
    rw [O.rest n h1 h2] at h
    cases h
theorem area_le {v u : Nat} (h1 : v ≤ 512) (h2 : u ≤ 512) : v * u ≤ 262144 := Nat.mul_le_mul h1 h2
end Im
set_option maxHeartbeats 3200000 in
set_option maxRecDepth 100000 in
theorem refValid_c (x y : Int) (ao : Option Addr) (n c : Nat) (bs : List Int) (w : World) (h : Lst .u8 w ao n c bs) :
    Calls Try.prog 12 #[.agg #[.int .i64 x, .int .i64 y, .slice ao n c]] w fun e w' => e = .returned (.bool (okB x y bs)) ∧ Below w.heap.size w w' := by
  obtain ⟨V, e1, AV, BV, hz⟩ := new_img w x y ao n c
  have y0 : V.cell? ⟨w.heap.size, 0, none⟩ = some (.int .i64 x) := AV.cell 0
  have y1 : V.cell? ⟨w.heap.size, 1, none⟩ = some (.int .i64 y) := AV.cell 1
  have y2 : V.cell? ⟨w.heap.size, 2, none⟩ = some (.slice ao n c) := AV.cell 2
  have HL := Lib.hid (h.below BV)
  have HB := Lib.hid BV
  have hlen : Hid (bs.length = n) := h.len
  have hcap := h.cap
  have hroom := h.room
  clear h BV hz AV
  by_cases a1 : x < 1
  · have b1 : decide (x < 1) = true := decide_eq_true a1
    rw [show okB x y bs = false from okB_no (fun e => by omega)]
    go_enter Try.func12, Try.ntmps12
    go_wp2_with fail
    go_ret
    exact ⟨rfl, HB.out⟩
  by_cases a2 : 512 < x
  · have b1 : decide (x < 1) = false := decide_eq_false a1
    have b2 : decide (x > 512) = true := decide_eq_true a2
    rw [show okB x y bs = false from okB_no (fun e => by omega)]
    go_enter Try.func12, Try.ntmps12
    go_wp2_with fail
    go_ret
    exact ⟨rfl, HB.out⟩
  by_cases a3 : y < 1
  · have b1 : decide (x < 1) = false := decide_eq_false a1
    have b2 : decide (x > 512) = false := decide_eq_false a2
    rw [show okB x y bs = false from okB_no (fun e => by omega)]
    go_enter Try.func12, Try.ntmps12
    go_wp2_with fail
    go_ret
    exact ⟨rfl, HB.out⟩
  by_cases a4 : 512 < y
  · have b1 : decide (x < 1) = false := decide_eq_false a1
    have b2 : decide (x > 512) = false := decide_eq_false a2
    have b3 : decide (y < 1) = false := decide_eq_false a3
    rw [show okB x y bs = false from okB_no (fun e => by omega)]
    go_enter Try.func12, Try.ntmps12
    go_wp2_with fail
    go_ret
    exact ⟨rfl, HB.out⟩
  obtain ⟨v, rfl⟩ : ∃ v : Nat, x = v := ⟨x.toNat, by omega⟩
  obtain ⟨u, rfl⟩ : ∃ u : Nat, y = u := ⟨y.toNat, by omega⟩
  obtain ⟨P, hP0⟩ : ∃ P, Hid (v * u = P) := ⟨_, rfl⟩
  have hPb : P ≤ 262144 := by rw [← hP0.out]; exact area_le (by omega) (by omega)
  have hP : (v : Int) * (u : Int) = (P : Int) := by rw [← hP0.out]; exact (Int.natCast_mul v u).symm
  obtain ⟨m, hm⟩ : ∃ m, Hid ((P + 7) / 8 = m) := ⟨_, rfl⟩
  have hmb : m ≤ 32768 := by rw [← hm.out]; omega
  have d1 : ((P : Int) + 7).tdiv 8 = (m : Int) := by rw [Int.tdiv_eq_ediv_of_nonneg (by omega)]; have := hm.out; omega
  have w1 : wrap64 (m : Int) = (m : Int) := by unfold wrap64; omega
  by_cases a5 : n = m
  · subst a5
    have hnn : ((n : Int) != (n : Int)) = false := by simp
    have hPn : P ≤ 8 * n := by have := hm.out; omega
    obtain ⟨R, hR⟩ : ∃ R, Hid (okB v u bs = R) := ⟨_, rfl⟩
    rw [hR.out]
    go_enter Try.func12, Try.ntmps12
    go_wp2_with fail
    clear e1 y0 y1
    go_loopw [2, 3] (fun _ iv wr => ∃ i : Nat, P ≤ i ∧ i ≤ 8 * n ∧ iv = .int .i64 (i : Int) ∧ Hid (∀ j, P ≤ j → j < i → bitL bs j = false) ∧ wr = V) (fun _ iv _ => 8 * n - (intOf iv).toNat)
    case atStart => exact ⟨P, Nat.le_refl _, hPn, rfl, fun j h1 h2 => absurd h1 (by omega), rfl⟩
    case round =>
      obtain ⟨i, hi1, hi2, rfl, hall, rfl⟩ := hrel
      by_cases hlt : i < 8 * n
      · have hlt' : (i : Int) < 8 * (n : Int) := by omega
        have HC := refBit_c ao n c i bs wr HL.out hlt (by omega)
        cases hb : bitL bs i with
        | true =>
          rw [hb] at HC
          have HC := Lib.hid HC
          have hRf : Hid (R = false) := by show _ = _; rw [← hR.out]; exact okB_bit (by rw [hP0.out]; exact hi1) (by rw [hlen.out]; exact hlt) hb
          clear hb
          go_wp2_with fail
          refine HC.out.mono ?_
          rintro e w5 ⟨rfl, rfl⟩
          go_wp2_with fail
          go_ret
          exact ⟨by rw [hRf.out]; rfl, HB.out⟩
        | false =>
          rw [hb] at HC
          have HC := Lib.hid HC
          have hall2 : Hid (∀ j, P ≤ j → j < i + 1 → bitL bs j = false) := by
            intro j h1 h2
            by_cases e : j = i
            · rw [e]; exact hb
            · exact hall.out j h1 (by omega)
          clear hb
          go_wp2_with fail
          refine HC.out.mono ?_
          rintro e w5 ⟨rfl, rfl⟩
          go_wp2_with fail
          go_roundw
          case rel => exact ⟨i + 1, by omega, by omega, by go_num, hall2.out, by trivial⟩
          case measure => simp [intOf]; omega
      · have hge : ¬ (i : Int) < 8 * (n : Int) := by omega
        have hok : Hid (okB v u bs = true) := okB_mk ⟨by omega, by omega, by omega, by omega, by rw [hlen.out, hP0.out, hm.out], fun j h1 h2 => hall.out j (by rw [← hP0.out]; exact h1) (by have := hlen.out; omega)⟩
        have hRt : Hid (R = true) := by show _ = _; rw [← hR.out]; exact hok.out
        go_wp2_with fail
        go_ret
        exact ⟨by rw [hRt.out]; rfl, HB.out⟩
  · have hnm : ((n : Int) != (m : Int)) = true := by simp; omega
    rw [show okB v u bs = false from okB_no (fun e => a5 (by rw [← hlen.out, e.2.2.2.2, Int.toNat_natCast, Int.toNat_natCast, hP0.out, hm.out]))]
    go_enter Try.func12, Try.ntmps12
    go_wp2_with fail
    go_ret
    exact ⟨rfl, HB.out⟩
namespace Im
/-- The pixel of a valid image. -/
def getP (v u : Nat) (bs : List Int) (x y : Int) : Bool := decide (0 ≤ x) && decide (x < v) && decide (0 ≤ y) && decide (y < u) && bitL bs (y.toNat * v + x.toNat)
theorem spot_lt {v u x y : Nat} (hx : x < v) (hy : y < u) : y * v + x < v * u := by
  have h1 : (y + 1) * v ≤ u * v := Nat.mul_le_mul (by omega) (Nat.le_refl _)
  rw [Nat.add_mul, Nat.one_mul, Nat.mul_comm u v] at h1
  omega
end Im
set_option maxHeartbeats 3200000 in
set_option maxRecDepth 100000 in
theorem refGet_c (v u : Nat) (x y : Int) (ao : Option Addr) (n c : Nat) (bs : List Int) (w : World) (h : Lst .u8 w ao n c bs) (hO : OkI v u bs) :
    Calls Try.prog 23 #[.agg #[.int .i64 (v : Int), .int .i64 (u : Int), .slice ao n c], .int .i64 x, .int .i64 y] w fun e w' => e = .returned (.bool (getP v u bs x y)) ∧ Below w.heap.size w w' := by
  obtain ⟨V, e1, AV, BV, hz⟩ := new_img w v u ao n c
  have y0 : V.cell? ⟨w.heap.size, 0, none⟩ = some (.int .i64 (v : Int)) := AV.cell 0
  have y1 : V.cell? ⟨w.heap.size, 1, none⟩ = some (.int .i64 (u : Int)) := AV.cell 1
  have y2 : V.cell? ⟨w.heap.size, 2, none⟩ = some (.slice ao n c) := AV.cell 2
  have HL := Lib.hid (h.below BV)
  have HB := Lib.hid BV
  have hlen : Hid (bs.length = n) := h.len
  have q1 := hO.w2
  have q2 := hO.h2
  have ha := area_le q1 q2
  have hl := hO.len
  unfold getP
  by_cases a1 : 0 ≤ x
  · have b1 : decide (x ≥ 0) = true := decide_eq_true a1
    rw [decide_eq_true a1]
    by_cases a2 : x < v
    · have b2 : decide (x < (v : Int)) = true := decide_eq_true a2
      rw [b2]
      by_cases a3 : 0 ≤ y
      · have b3 : decide (y ≥ 0) = true := decide_eq_true a3
        rw [decide_eq_true a3]
        by_cases a4 : y < u
        · have b4 : decide (y < (u : Int)) = true := decide_eq_true a4
          rw [b4]
          obtain ⟨k, rfl⟩ : ∃ k : Nat, x = k := ⟨x.toNat, by omega⟩
          obtain ⟨j, rfl⟩ : ∃ k : Nat, y = k := ⟨y.toNat, by omega⟩
          rw [Int.toNat_natCast, Int.toNat_natCast]
          have hs := spot_lt (v := v) (u := u) (x := k) (y := j) (by omega) (by omega)
          obtain ⟨Q, hQ0⟩ : ∃ Q, Hid (j * v = Q) := ⟨_, rfl⟩
          have hQ : (j : Int) * (v : Int) = (Q : Int) := by rw [← hQ0.out]; exact (Int.natCast_mul j v).symm
          rw [hQ0.out] at hs ⊢
          have HC := refBit_c ao n c (Q + k) bs V HL.out (by have := hlen.out; omega) (by have := hlen.out; omega)
          rw [Int.natCast_add] at HC
          have HC := Lib.hid HC
          have hQb : Q + k ≤ 262144 := by omega
          clear hl ha h BV hz AV hO hs
          go_enter Try.func23, Try.ntmps23
          go_wp2_with fail
          refine HC.out.mono ?_
          rintro e w5 ⟨rfl, rfl⟩
          go_wp2_with fail
          go_ret
          exact ⟨by rfl, HB.out⟩
        · have b4 : decide (y < (u : Int)) = false := decide_eq_false a4
          rw [b4]
          clear hl ha h BV hz AV hO
          go_enter Try.func23, Try.ntmps23
          go_wp2_with fail
          go_ret
          exact ⟨by rfl, HB.out⟩
      · have b3 : decide (y ≥ 0) = false := decide_eq_false a3
        rw [decide_eq_false a3]
        clear hl ha h BV hz AV hO
        go_enter Try.func23, Try.ntmps23
        go_wp2_with fail
        go_ret
        exact ⟨by rfl, HB.out⟩
    · have b2 : decide (x < (v : Int)) = false := decide_eq_false a2
      rw [b2]
      clear hl ha h BV hz AV hO
      go_enter Try.func23, Try.ntmps23
      go_wp2_with fail
      go_ret
      exact ⟨by rfl, HB.out⟩
  · have b1 : decide (x ≥ 0) = false := decide_eq_false a1
    rw [decide_eq_false a1]
    clear hl ha h BV hz AV hO
    go_enter Try.func23, Try.ntmps23
    go_wp2_with fail
    go_ret
    exact ⟨by rfl, HB.out⟩
end Go.Proofs.Ytcgfoagfoncjiaa
