/-
  The walk of ImageShift.
-/
import Derived.Test.YtpjaljjclkfkmaaImgView
import Derived.Test.YtpjaljjclkfkmaaImgShiftP
import Derived.Test.YtpjaljjclkfkmaaImgRShift
namespace Go.Proofs.Ytpjaljjclkfkmaa
open Go.RowKit Im

theorem shift_same {v u : Nat} {bs : List Int} {x y : Int} (hv : 1 ≤ v) (k : Nat) : shB (bitL bs) (y * v + x) (rectL v u x y v u) k = bitsD (pxD v (shG v u bs x y) (v * u)) k := by
  rw [pxD_bit]
  unfold shB shG getP
  by_cases hk : k < v * u
  · have hrc : k / v * v + k % v = k := by rw [Nat.mul_comm]; exact Nat.div_add_mod k v
    have hcv := Nat.mod_lt k hv
    obtain ⟨r, hr⟩ : ∃ r, k / v = r := ⟨_, rfl⟩
    obtain ⟨c, hc⟩ : ∃ c, k % v = c := ⟨_, rfl⟩
    have hm : k ∈ rectL v u x y v u ↔ (inP c x v && inP r y u) = true := by
      unfold rectL
      rw [List.mem_filter, List.mem_range]
      unfold rectP
      rw [hr, hc, decide_eq_true hk, Bool.true_and]
      exact ⟨fun h => h.2, fun h => ⟨hk, h⟩⟩
    rw [hr, hc] at hrc ⊢
    rw [decide_eq_true hk, Bool.true_and]
    have hin : (inP c x v && inP r y u) = (decide ((0 : Int) ≤ (c : Int) - x) && decide ((c : Int) - x < v) && decide ((0 : Int) ≤ (r : Int) - y) && decide ((r : Int) - y < u)) := by
      unfold inP
      rw [show decide (x ≤ (c : Int)) = decide ((0 : Int) ≤ (c : Int) - x) from by rw [Bool.eq_iff_iff, decide_eq_true_eq, decide_eq_true_eq]; omega,
        show decide ((c : Int) < x + v) = decide ((c : Int) - x < v) from by rw [Bool.eq_iff_iff, decide_eq_true_eq, decide_eq_true_eq]; omega,
        show decide (y ≤ (r : Int)) = decide ((0 : Int) ≤ (r : Int) - y) from by rw [Bool.eq_iff_iff, decide_eq_true_eq, decide_eq_true_eq]; omega,
        show decide ((r : Int) < y + u) = decide ((r : Int) - y < u) from by rw [Bool.eq_iff_iff, decide_eq_true_eq, decide_eq_true_eq]; omega]
      rw [Bool.and_assoc (decide _ && decide _)]
    by_cases hmem : k ∈ rectL v u x y v u
    · rw [if_pos hmem]
      have h1 := hm.1 hmem
      rw [hin] at h1
      rw [h1, Bool.true_and]
      simp only [Bool.and_eq_true, decide_eq_true_eq] at h1
      obtain ⟨⟨⟨g1, g2⟩, g3⟩, g4⟩ := h1
      obtain ⟨X, hX⟩ : ∃ X : Nat, (c : Int) - x = X := ⟨((c : Int) - x).toNat, by omega⟩
      obtain ⟨Y, hY⟩ : ∃ Y : Nat, (r : Int) - y = Y := ⟨((r : Int) - y).toNat, by omega⟩
      rw [hX, hY, Int.toNat_natCast, Int.toNat_natCast]
      congr 1
      have e1 : (k : Int) = (r : Int) * v + c := by rw [← hrc]; simp
      have e2 : (r : Int) * v = (Y : Int) * v + y * v := by rw [← Int.add_mul]; congr 1; omega
      have e3 : ((Y * v + X : Nat) : Int) = (Y : Int) * v + X := by simp
      have e4 : (k : Int) - (y * v + x) = ((Y * v + X : Nat) : Int) := by rw [e3, e1, e2]; omega
      rw [e4, Int.toNat_natCast]
    · rw [if_neg hmem]
      have h1 : (inP c x v && inP r y u) = false := by
        cases hb : (inP c x v && inP r y u) with
        | false => rfl
        | true => exact absurd (hm.2 hb) hmem
      rw [hin] at h1
      rw [h1, Bool.false_and]
  · rw [decide_eq_false hk, Bool.false_and, if_neg]
    intro h
    unfold rectL at h
    rw [List.mem_filter, List.mem_range] at h
    exact hk h.1
set_option maxHeartbeats 3200000 in
set_option maxRecDepth 100000 in
theorem shiftLaw_c (x y : Int) (ao : Option Addr) (n c : Nat) (bs : List Int) (p q : Int) (w : World) (h : Lst .u8 w ao n c bs) (x1 : -9223372036854775808 ≤ p) (x2 : p ≤ 9223372036854775807) (y1 : -9223372036854775808 ≤ q) (y2 : q ≤ 9223372036854775807) :
    Calls Try.prog 7 #[.agg #[.int .i64 x, .int .i64 y, .slice ao n c], .int .i64 p, .int .i64 q] w fun e w' => e = .returned (.bool true) ∧ Below w.heap.size w w' := by
  obtain ⟨V, e1, AV, BV, hz⟩ := new_img w x y ao n c
  have k0 : V.cell? ⟨w.heap.size, 0, none⟩ = some (.int .i64 x) := AV.cell 0
  have k1 : V.cell? ⟨w.heap.size, 1, none⟩ = some (.int .i64 y) := AV.cell 1
  have k2 : V.cell? ⟨w.heap.size, 2, none⟩ = some (.slice ao n c) := AV.cell 2
  have HS := Lib.hid (small_c x y ao n c bs V (h.below BV))
  have HB : Hid (Below w.heap.size w V) := BV
  cases hs : (decide (x ≤ 24) && decide (y ≤ 24) && okB x y bs) with
  | false =>
    rw [hs] at HS
    have HS := Lib.hid HS
    clear hs h BV AV hz x1 x2 y1 y2
    go_enter Try.func7, Try.ntmps7
    go_wp2_with (first
      | (go_at_call 18; (with_reducible refine HS.out.out.mono ?_); rintro e v1 ⟨rfl, B1⟩; have HA := Lib.hid (awake_c v1); have B1' := Lib.hid (HB.out.trans (B1.mono HB.out.size)); clear B1)
      | (go_at_call 14; (with_reducible refine HA.out.mono ?_); rintro e v2 ⟨rfl, B2⟩; have B2' := Lib.hid (B1'.out.trans (B2.mono B1'.out.size)); clear B2))
    go_ret
    exact ⟨rfl, B2'.out⟩
  | true =>
    rw [hs] at HS
    obtain ⟨v, u, rfl, rfl, hv, hu, hO⟩ := small_ok hs
    have HS := Lib.hid HS
    have hn : n = (v * u + 7) / 8 := by rw [← h.len, hO.len]
    have hP1 : 1 ≤ v * u := Nat.mul_pos hO.w1 hO.h1
    obtain ⟨a, rfl⟩ := h.isSome (by omega)
    have hsame : packP (bitsD (pxD v (shG v u bs p q) (v * u))) n = packP (shB (bitL bs) (q * v + p) (rectL v u p q v u)) n := packP_congr (fun k _ => (shift_same hO.w1 k).symm)
    obtain ⟨X, hX⟩ : ∃ X, packP (shB (bitL bs) (q * v + p) (rectL v u p q v u)) n = X := ⟨_, rfl⟩
    have H1 : Hid (∀ W, Below V.heap.size V W → Calls Try.prog 26 #[.agg #[.int .i64 (v : Int), .int .i64 (u : Int), .slice (some a) n c], .int .i64 p, .int .i64 q] W fun e w' => (∃ gc, e = .returned (.agg #[.int .i64 (v : Int), .int .i64 (u : Int), .slice (some ⟨gc, 0, none⟩) n n]) ∧ Lst .u8 w' (some ⟨gc, 0, none⟩) n n X) ∧ Below W.heap.size W w') := fun W hb => by
      refine (shift_c v u a n c bs p q W ((h.below BV).below hb) hO x1 x2 y1 y2).mono ?_
      rintro e w' ⟨gc, rfl, O, hB⟩
      rw [hX] at O
      exact ⟨⟨gc, rfl, O.lst⟩, hB⟩
    have H2 : Hid (∀ W, Below V.heap.size V W → Calls Try.prog 27 #[.agg #[.int .i64 (v : Int), .int .i64 (u : Int), .slice (some a) n c], .int .i64 p, .int .i64 q] W fun e w' => (∃ gc, e = .returned (.agg #[.int .i64 (v : Int), .int .i64 (u : Int), .slice (some ⟨gc, 0, none⟩) n n]) ∧ Lst .u8 w' (some ⟨gc, 0, none⟩) n n X) ∧ Below W.heap.size W w') := fun W hb => by
      refine (refShift_c v u (some a) n c bs p q W ((h.below BV).below hb) hO).mono ?_
      rintro e w' ⟨gc, rfl, O, hB⟩
      rw [← hn] at O ⊢
      rw [hsame, hX] at O
      exact ⟨⟨gc, rfl, O.lst⟩, hB⟩
    have HEq : Hid (∀ (W : World) (ga gb : Nat), Lst .u8 W (some ⟨ga, 0, none⟩) n n X → Lst .u8 W (some ⟨gb, 0, none⟩) n n X → Calls Try.prog 15 #[.agg #[.int .i64 (v : Int), .int .i64 (u : Int), .slice (some ⟨ga, 0, none⟩) n n], .agg #[.int .i64 (v : Int), .int .i64 (u : Int), .slice (some ⟨gb, 0, none⟩) n n]] W fun e w' => e = .returned (.bool true) ∧ Below W.heap.size W w') := fun W ga gb h1 h2 => by
      have := eqI_c v u v u (some ⟨ga, 0, none⟩) (some ⟨gb, 0, none⟩) n n n n X X W h1 h2
      rw [decide_eq_true (rfl : (v : Int) = v), decide_eq_true (rfl : (u : Int) = u), decide_eq_true (rfl : X = X)] at this
      exact this
    clear hs h BV AV hz hO hv hu hX hsame hn hP1 x1 x2 y1 y2
    go_enter Try.func7, Try.ntmps7
    go_wp2_with (first
      | (go_at_call 18; (with_reducible refine HS.out.out.mono ?_); rintro e v1 ⟨rfl, B1⟩; have z0 := cell_keep k0 B1; have z1 := cell_keep k1 B1; have z2 := cell_keep k2 B1; have HB1 := Lib.hid B1; clear B1))
    have z0' : v1.drew.cell? ⟨w.heap.size, 0, none⟩ = some (.int .i64 (v : Int)) := z0
    have z1' : v1.drew.cell? ⟨w.heap.size, 1, none⟩ = some (.int .i64 (u : Int)) := z1
    have z2' : v1.drew.cell? ⟨w.heap.size, 2, none⟩ = some (.slice (some a) n c) := z2
    have hBD : Below V.heap.size V v1.drew := HB1.out.drew
    have HA := Lib.hid (awake_c v1.drew)
    clear k0 k1 k2 z0 z1 z2
    go_region_held3 (fun w' => w'.cell? ⟨w.heap.size, 0, none⟩ = some (.int .i64 (v : Int)) ∧ w'.cell? ⟨w.heap.size, 1, none⟩ = some (.int .i64 (u : Int)) ∧ w'.cell? ⟨w.heap.size, 2, none⟩ = some (.slice (some a) n c)) (go_keep) (first
      | (go_at_call 14; (with_reducible refine HA.out.mono ?_); rintro e v2 ⟨rfl, B2⟩; have a0 := cell_keep z0' B2; have a1 := cell_keep z1' B2; have a2 := cell_keep z2' B2; have C2 : Below V.heap.size V v2 := hBD.trans (B2.mono hBD.size); clear B2)
      | (go_at_call 26; (with_reducible refine (H1.out _ C2).mono ?_); rintro e v3 ⟨⟨ga, rfl, L3⟩, B3⟩; have b0 := cell_keep a0 B3; have b1 := cell_keep a1 B3; have b2 := cell_keep a2 B3; have hL3 := Lib.hid L3; have C3 : Below V.heap.size V v3 := C2.trans (B3.mono C2.size); clear B3 L3)
      | (go_at_call 27; (with_reducible refine (H2.out _ C3).mono ?_); rintro e v4 ⟨⟨gb, rfl, L4⟩, B4⟩; have c0 := cell_keep b0 B4; have c1 := cell_keep b1 B4; have c2 := cell_keep b2 B4; have hL4 := Lib.hid L4; have hL34 := Lib.hid (hL3.out.below B4); have C4 : Below V.heap.size V v4 := C3.trans (B4.mono C3.size); clear B4 L4)
      | (go_at_call 15; (with_reducible refine (HEq.out v4 ga gb hL34.out hL4.out).mono ?_); rintro e v5 ⟨rfl, B5⟩; have d0 := cell_keep c0 B5; have d1 := cell_keep c1 B5; have d2 := cell_keep c2 B5; have C5 := Lib.hid (HB.out.trans ((C4.trans (B5.mono C4.size)).mono HB.out.size)); clear B5))
    all_goals
      go_wp2_with fail
      go_ret
      exact ⟨by rfl, C5.out⟩
end Go.Proofs.Ytpjaljjclkfkmaa
