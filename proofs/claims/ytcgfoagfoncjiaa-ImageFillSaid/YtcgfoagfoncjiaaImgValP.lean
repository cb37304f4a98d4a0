/-
  The program's Valid and Get.
-/
import Derived.Test.YtcgfoagfoncjiaaImgNew
namespace Go.Proofs.Ytcgfoagfoncjiaa
open Go.RowKit Im

namespace Im
def lastB (z u : Nat) : Bool := (List.range u).all fun j => !(decide (z >>> j % 2 = 1))
set_option maxRecDepth 100000 in
theorem last_forms : ∀ z : Nat, z < 256 → ∀ u : Nat, u < 8 → (bits BinOp.and IntKind.u8 (z : Int) (((2 : Int) ^ u - 1) % 256) == 0) = lastB z u := by decide +kernel
theorem okB_last {v u n P : Nat} {bs : List Int} (h1 : 1 ≤ v) (h2 : v ≤ 512) (h3 : 1 ≤ u) (h4 : u ≤ 512) (hP : v * u = P) (hlen : bs.length = n) (hn : n = (P + 7) / 8) (hP1 : 1 ≤ P) : okB v u bs = lastB (bs.getD (n - 1) 0).toNat (8 * n - P) := by
  have hbit : ∀ j, j < 8 * n - P → bitL bs (8 * n - 1 - j) = decide ((bs.getD (n - 1) 0).toNat >>> j % 2 = 1) := by
    intro j hj
    unfold bitL
    rw [show (8 * n - 1 - j) / 8 = n - 1 by omega, show 7 - (8 * n - 1 - j) % 8 = j by omega]
  rw [Bool.eq_iff_iff]
  unfold okB lastB
  simp only [Bool.and_eq_true, decide_eq_true_eq, List.all_eq_true, List.mem_range, Bool.or_eq_true, Bool.not_eq_true', Int.toNat_natCast, hP]
  constructor
  · intro h j hj
    rw [← hbit j hj]
    rcases h.2 (8 * n - 1 - j) (by rw [hlen]; omega) with h' | h'
    · omega
    · exact h'
  · intro h
    refine ⟨⟨⟨⟨⟨by omega, by omega⟩, by omega⟩, by omega⟩, by rw [hlen]; exact hn⟩, fun k hk => ?_⟩
    rw [hlen] at hk
    by_cases hl : k < P
    · exact Or.inl hl
    · right
      have := h (8 * n - 1 - k) (by omega)
      rw [← hbit _ (by omega), show 8 * n - 1 - (8 * n - 1 - k) = k by omega] at this
      exact this
end Im
set_option maxHeartbeats 3200000 in
set_option maxRecDepth 100000 in
theorem valid_c (x y : Int) (ao : Option Addr) (n c : Nat) (bs : List Int) (w : World) (h : Lst .u8 w ao n c bs) :
    Calls Try.prog 14 #[.agg #[.int .i64 x, .int .i64 y, .slice ao n c]] w fun e w' => e = .returned (.bool (okB x y bs)) ∧ Below w.heap.size w w' := by
  obtain ⟨V, e1, AV, BV, hz⟩ := new_img w x y ao n c
  have y0 : V.cell? ⟨w.heap.size, 0, none⟩ = some (.int .i64 x) := AV.cell 0
  have y1 : V.cell? ⟨w.heap.size, 1, none⟩ = some (.int .i64 y) := AV.cell 1
  have y2 : V.cell? ⟨w.heap.size, 2, none⟩ = some (.slice ao n c) := AV.cell 2
  have HL := Lib.hid (h.below BV)
  have HB := Lib.hid BV
  have hlen : Hid (bs.length = n) := h.len
  have hcap := h.cap
  have hroom := h.room
  clear h BV hz AV
  by_cases hx : 1 ≤ x ∧ x ≤ 512
  · have s1 : Hid (∀ w, Calls Try.prog 25 #[.int .i64 x] w fun e w' => e = .returned (.bool true) ∧ w = w') := fun w => (isSide_c x w).mono fun e w' h => by
      rw [decide_eq_true hx.1, decide_eq_true hx.2] at h; exact h
    by_cases hy : 1 ≤ y ∧ y ≤ 512
    · have s2 : Hid (∀ w, Calls Try.prog 25 #[.int .i64 y] w fun e w' => e = .returned (.bool true) ∧ w = w') := fun w => (isSide_c y w).mono fun e w' h => by
        rw [decide_eq_true hy.1, decide_eq_true hy.2] at h; exact h
      obtain ⟨v, rfl⟩ : ∃ v : Nat, x = v := ⟨x.toNat, by omega⟩
      obtain ⟨u, rfl⟩ : ∃ u : Nat, y = u := ⟨y.toNat, by omega⟩
      obtain ⟨P, hP0⟩ : ∃ P, Hid (v * u = P) := ⟨_, rfl⟩
      have hPb : P ≤ 262144 := by rw [← hP0.out]; exact area_le (by omega) (by omega)
      have hP1 : 1 ≤ P := by rw [← hP0.out]; exact Nat.mul_pos (by omega) (by omega)
      have hP : (v : Int) * (u : Int) = (P : Int) := by rw [← hP0.out]; exact (Int.natCast_mul v u).symm
      have hwP : IntKind.i64.wrap (P : Int) = (P : Int) := by rw [IntKind.wrap_i64]; omega
      obtain ⟨m, hm⟩ : ∃ m, Hid ((P + 7) / 8 = m) := ⟨_, rfl⟩
      have hmb : m ≤ 32768 := by rw [← hm.out]; omega
      have s3 : Hid (∀ w, Calls Try.prog 26 #[.int .i64 (P : Int)] w fun e w' => e = .returned (.int .i64 (m : Int)) ∧ w = w') := fun w => by have := byteCount_c P w (by omega); rw [hm.out] at this; exact this
      by_cases a5 : n = m
      · subst a5
        have hnn : ((n : Int) != (n : Int)) = false := by simp
        have hn1 : 1 ≤ n := by have := hm.out; omega
        obtain ⟨q, hq⟩ : ∃ q, Hid (n - 1 = q) := ⟨_, rfl⟩
        obtain ⟨t, ht⟩ : ∃ t, Hid (8 * n - P = t) := ⟨_, rfl⟩
        have ht8 : t < 8 := by have := hm.out; have := ht.out; omega
        have hs1 : (8 : Int) * (n : Int) - (P : Int) = (t : Int) := by have := hm.out; have := ht.out; omega
        have hs2 : (n : Int) - 1 = (q : Int) := by have := hq.out; omega
        have hR : Hid (okB v u bs = lastB (bs.getD q 0).toNat t) := by
          show _ = _
          rw [okB_last (by omega) (by omega) (by omega) (by omega) hP0.out hlen.out hm.out.symm hP1, hq.out, ht.out]
        have i1 := ix8 HL.out q (q : Int) rfl (by have := hq.out; omega)
        obtain ⟨z, hz1, hz2, c1⟩ := HL.out.at8 q (by have := hq.out; omega)
        have hlf := last_forms z (by omega) t ht8
        obtain ⟨R, hR2⟩ : ∃ R, Hid (lastB z t = R) := ⟨_, rfl⟩
        rw [hR2.out] at hlf
        rw [hz1.out, hR2.out] at hR
        rw [hR.out]
        go_enter Try.func14, Try.ntmps14
        go_wp2_with fail
        go_quiet (first
          | (go_at_call 25; (with_reducible exact quiet_same (s1.out _)))
          | (go_at_call 25; (with_reducible exact quiet_same (s2.out _)))
          | (go_at_call 26; (with_reducible exact quiet_same (s3.out _))))
        go_wp2_with fail
        go_ret
        exact ⟨by rw [← hlf]; rfl, below_drewN HB.out _⟩
      · have hnm : ((n : Int) != (m : Int)) = true := by simp; omega
        rw [show okB v u bs = false from okB_no (fun e => a5 (by rw [← hlen.out, e.2.2.2.2, Int.toNat_natCast, Int.toNat_natCast, hP0.out, hm.out]))]
        go_enter Try.func14, Try.ntmps14
        go_wp2_with fail
        go_quiet (first
          | (go_at_call 25; (with_reducible exact quiet_same (s1.out _)))
          | (go_at_call 25; (with_reducible exact quiet_same (s2.out _)))
          | (go_at_call 26; (with_reducible exact quiet_same (s3.out _))))
        go_wp2_with fail
        go_ret
        exact ⟨rfl, below_drewN HB.out _⟩
    · have hy2 : (decide (1 ≤ y) && decide (y ≤ 512)) = false := by
        rw [Bool.and_eq_false_iff, decide_eq_false_iff_not, decide_eq_false_iff_not]
        omega
      have s2 : Hid (∀ w, Calls Try.prog 25 #[.int .i64 y] w fun e w' => e = .returned (.bool false) ∧ w = w') := fun w => (isSide_c y w).mono fun e w' h => by
        rw [hy2] at h; exact h
      rw [show okB x y bs = false from okB_no (fun e => by omega)]
      clear hy2 hy hx
      go_enter Try.func14, Try.ntmps14
      go_wp2_with fail
      go_quiet (first
        | (go_at_call 25; (with_reducible exact quiet_same (s1.out _)))
        | (go_at_call 25; (with_reducible exact quiet_same (s2.out _))))
      go_wp2_with fail
      go_ret
      exact ⟨rfl, below_drewN HB.out _⟩
  · have hx2 : (decide (1 ≤ x) && decide (x ≤ 512)) = false := by
      rw [Bool.and_eq_false_iff, decide_eq_false_iff_not, decide_eq_false_iff_not]
      omega
    have s1 : Hid (∀ w, Calls Try.prog 25 #[.int .i64 x] w fun e w' => e = .returned (.bool false) ∧ w = w') := fun w => (isSide_c x w).mono fun e w' h => by
      rw [hx2] at h; exact h
    rw [show okB x y bs = false from okB_no (fun e => by omega)]
    clear hx2 hx
    go_enter Try.func14, Try.ntmps14
    go_wp2_with fail
    go_quiet (first
      | (go_at_call 25; (with_reducible exact quiet_same (s1.out _))))
    go_wp2_with fail
    go_ret
    exact ⟨rfl, below_drewN HB.out _⟩
/-- Four cells of a box, kept by a call. -/
theorem cell_keep {w w' : World} {p : Addr} {v : Value} (h : w.cell? p = some v) (hb : Below w.heap.size w w') : w'.cell? p = some v := (World.cell?_of_block (hb.block _ (World.block_lt_of_cell? w _ h))).trans h
set_option maxHeartbeats 3200000 in
set_option maxRecDepth 100000 in
theorem get_no (x y a b : Int) (ao : Option Addr) (n c : Nat) (bs : List Int) (w : World) (h : Lst .u8 w ao n c bs) (hno : okB x y bs = false) :
    Calls Try.prog 15 #[.agg #[.int .i64 x, .int .i64 y, .slice ao n c], .int .i64 a, .int .i64 b] w fun e w' => e = .returned (.bool false) ∧ Below w.heap.size w w' := by
  obtain ⟨V, e1, AV, BV, hz⟩ := new_img w x y ao n c
  have y0 : V.cell? ⟨w.heap.size, 0, none⟩ = some (.int .i64 x) := AV.cell 0
  have y1 : V.cell? ⟨w.heap.size, 1, none⟩ = some (.int .i64 y) := AV.cell 1
  have y2 : V.cell? ⟨w.heap.size, 2, none⟩ = some (.slice ao n c) := AV.cell 2
  have HV := Lib.hid (valid_c x y ao n c bs V (h.below BV))
  rw [hno] at HV
  have HB := Lib.hid BV
  clear h BV hz AV hno
  go_enter Try.func15, Try.ntmps15
  go_wp2_with (go_at_call 14; refine HV.out.mono ?_; rintro e w1 ⟨rfl, B1⟩)
  go_ret
  exact ⟨rfl, HB.out.trans (B1.mono HB.out.size)⟩
set_option maxHeartbeats 3200000 in
set_option maxRecDepth 100000 in
theorem get_c (v u : Nat) (a b : Int) (ao : Option Addr) (n c : Nat) (bs : List Int) (w : World) (h : Lst .u8 w ao n c bs) (hO : OkI v u bs) :
    Calls Try.prog 15 #[.agg #[.int .i64 (v : Int), .int .i64 (u : Int), .slice ao n c], .int .i64 a, .int .i64 b] w fun e w' => e = .returned (.bool (getP v u bs a b)) ∧ Below w.heap.size w w' := by
  obtain ⟨V, e1, AV, BV, hz⟩ := new_img w v u ao n c
  have y0 : V.cell? ⟨w.heap.size, 0, none⟩ = some (.int .i64 (v : Int)) := AV.cell 0
  have y1 : V.cell? ⟨w.heap.size, 1, none⟩ = some (.int .i64 (u : Int)) := AV.cell 1
  have y2 : V.cell? ⟨w.heap.size, 2, none⟩ = some (.slice ao n c) := AV.cell 2
  have HV := Lib.hid (valid_c v u ao n c bs V (h.below BV))
  rw [okB_mk hO] at HV
  have HL := Lib.hid (h.below BV)
  have HB := Lib.hid BV
  have hlen : Hid (bs.length = n) := h.len
  have q1 := hO.w2
  have q2 := hO.h2
  have ha := area_le q1 q2
  have hl := hO.len
  clear h BV hz AV
  unfold getP
  by_cases a1 : 0 ≤ a
  · have b1 : decide (a ≥ 0) = true := decide_eq_true a1
    rw [decide_eq_true a1]
    by_cases a2 : a < v
    · have b2 : decide (a < (v : Int)) = true := decide_eq_true a2
      rw [b2]
      by_cases a3 : 0 ≤ b
      · have b3 : decide (b ≥ 0) = true := decide_eq_true a3
        rw [decide_eq_true a3]
        by_cases a4 : b < u
        · have b4 : decide (b < (u : Int)) = true := decide_eq_true a4
          rw [b4]
          obtain ⟨k, rfl⟩ : ∃ k : Nat, a = k := ⟨a.toNat, by omega⟩
          obtain ⟨j, rfl⟩ : ∃ k : Nat, b = k := ⟨b.toNat, by omega⟩
          rw [Int.toNat_natCast, Int.toNat_natCast]
          have hs := spot_lt (v := v) (u := u) (x := k) (y := j) (by omega) (by omega)
          obtain ⟨Q, hQ0⟩ : ∃ Q, Hid (j * v = Q) := ⟨_, rfl⟩
          have hQ : (j : Int) * (v : Int) = (Q : Int) := by rw [← hQ0.out]; exact (Int.natCast_mul j v).symm
          rw [hQ0.out] at hs ⊢
          have HC : Hid (∀ w1, Below V.heap.size V w1 → Calls Try.prog 19 #[.agg #[.int .i64 (v : Int), .int .i64 (u : Int), .slice ao n c], .int .i64 ((Q : Int) + (k : Int))] w1 fun e w' => e = .returned (.bool (bitL bs (Q + k))) ∧ Below w1.heap.size w1 w') := fun w1 b1 => by
            have := isFilled_c v u ao n c (Q + k) bs w1 (HL.out.below b1) (by have := hlen.out; omega) (by have := hlen.out; omega)
            rw [Int.natCast_add] at this
            exact this
          have hQb : Q + k ≤ 262144 := by omega
          clear hl ha hO hs
          go_enter Try.func15, Try.ntmps15
          go_wp2_with (first
            | (go_at_call 14; refine HV.out.mono ?_; rintro e w1 ⟨rfl, B1⟩; have z0 := cell_keep y0 B1; have z1 := cell_keep y1 B1; have z2 := cell_keep y2 B1; have HC1 := Lib.hid (HC.out w1 B1); have HB1 := Lib.hid (HB.out.trans (B1.mono HB.out.size)); clear B1)
            | (go_at_call 19; refine HC1.out.mono ?_; rintro e w2 ⟨rfl, B2⟩; have HB2 := Lib.hid (HB1.out.trans (B2.mono HB1.out.size)); clear B2))
          go_ret
          exact ⟨by rfl, HB2.out⟩
        · have b4 : decide (b < (u : Int)) = false := decide_eq_false a4
          rw [b4]
          clear hl ha hO
          go_enter Try.func15, Try.ntmps15
          go_wp2_with (go_at_call 14; refine HV.out.mono ?_; rintro e w1 ⟨rfl, B1⟩; have z0 := cell_keep y0 B1; have z1 := cell_keep y1 B1; have z2 := cell_keep y2 B1; have HB1 := Lib.hid (HB.out.trans (B1.mono HB.out.size)); clear B1)
          go_ret
          exact ⟨by rfl, HB1.out⟩
      · have b3 : decide (b ≥ 0) = false := decide_eq_false a3
        rw [decide_eq_false a3]
        clear hl ha hO
        go_enter Try.func15, Try.ntmps15
        go_wp2_with (go_at_call 14; refine HV.out.mono ?_; rintro e w1 ⟨rfl, B1⟩; have z0 := cell_keep y0 B1; have z1 := cell_keep y1 B1; have z2 := cell_keep y2 B1; have HB1 := Lib.hid (HB.out.trans (B1.mono HB.out.size)); clear B1)
        go_ret
        exact ⟨by rfl, HB1.out⟩
    · have b2 : decide (a < (v : Int)) = false := decide_eq_false a2
      rw [b2]
      clear hl ha hO
      go_enter Try.func15, Try.ntmps15
      go_wp2_with (go_at_call 14; refine HV.out.mono ?_; rintro e w1 ⟨rfl, B1⟩; have z0 := cell_keep y0 B1; have z1 := cell_keep y1 B1; have z2 := cell_keep y2 B1; have HB1 := Lib.hid (HB.out.trans (B1.mono HB.out.size)); clear B1)
      go_ret
      exact ⟨by rfl, HB1.out⟩
  · have b1 : decide (a ≥ 0) = false := decide_eq_false a1
    rw [decide_eq_false a1]
    clear hl ha hO
    go_enter Try.func15, Try.ntmps15
    go_wp2_with (go_at_call 14; refine HV.out.mono ?_; rintro e w1 ⟨rfl, B1⟩; have z0 := cell_keep y0 B1; have z1 := cell_keep y1 B1; have z2 := cell_keep y2 B1; have HB1 := Lib.hid (HB.out.trans (B1.mono HB.out.size)); clear B1)
    go_ret
    exact ⟨by rfl, HB1.out⟩
end Go.Proofs.Ytcgfoagfoncjiaa
