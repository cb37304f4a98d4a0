/-
  The walk of ImageXor.
-/
import Derived.Test.YtpjaljjclkfkmaaImgView
import Derived.Test.YtpjaljjclkfkmaaImgXor2
namespace Go.Proofs.Ytpjaljjclkfkmaa
open Go.RowKit Im

theorem okXor {v u n : Nat} {az bs : List Int} (hO : OkI v u az) (hQ : OkI v u bs) (hn : az.length = n) : OkI v u (packP (xorB (bitL az) (bitL bs)) n) := by
  have h1 := hO.len
  have h2 := hQ.len
  refine ⟨hO.w1, hO.w2, hO.h1, hO.h2, by rw [packP_len]; omega, fun k h3 h4 => ?_⟩
  rw [packP_len] at h4
  rw [bit_pack _ _ _ h4]
  unfold xorB
  rw [hO.rest k h3 (by omega), hQ.rest k h3 (by omega)]
  rfl
theorem xor_twice {v u n : Nat} {az bs : List Int} (_ : OkI v u az) (_ : OkI v u bs) (hn : az.length = n) (hb : ∀ x ∈ az, 0 ≤ x ∧ x ≤ 255) : packP (xorB (bitL (packP (xorB (bitL az) (bitL bs)) n)) (bitL bs)) n = az := by
  have h := pack_bits az hb
  rw [hn] at h
  have e : packP (xorB (bitL (packP (xorB (bitL az) (bitL bs)) n)) (bitL bs)) n = packP (bitL az) n := by
    apply packP_congr
    intro k hk
    unfold xorB
    rw [bit_pack _ _ _ hk]
    cases bitL az k <;> cases bitL bs k <;> rfl
  rw [e, h]
theorem getP_xor {v u n : Nat} {az bs : List Int} (hO : OkI v u az) (hQ : OkI v u bs) (hn : az.length = n) {c r : Nat} (hc : c < v) (hr : r < u) : getP v u (packP (xorB (bitL az) (bitL bs)) n) c r = (getP v u az c r != getP v u bs c r) := by
  unfold getP
  have h1 := spot_lt hc hr
  have h2 := hO.len
  rw [Int.toNat_natCast, Int.toNat_natCast, bit_pack _ _ _ (by omega), decide_eq_true (show (0 : Int) ≤ (c : Int) by omega), decide_eq_true (show (c : Int) < (v : Int) by omega), decide_eq_true (show (0 : Int) ≤ (r : Int) by omega), decide_eq_true (show (r : Int) < (u : Int) by omega)]
  rfl
set_option maxHeartbeats 6400000 in
set_option maxRecDepth 100000 in
theorem xorLaw_c (x y : Int) (ao : Option Addr) (n c : Nat) (az : List Int) (x' y' : Int) (bo : Option Addr) (m d : Nat) (bs : List Int) (w : World) (h : Lst .u8 w ao n c az) (k : Lst .u8 w bo m d bs) :
    Calls Try.prog 9 #[.agg #[.int .i64 x, .int .i64 y, .slice ao n c], .agg #[.int .i64 x', .int .i64 y', .slice bo m d]] w fun e w' => e = .returned (.bool true) ∧ Below w.heap.size w w' := by
  obtain ⟨V1, V, e1, e2, z1, A1, A2, BV, z2⟩ := two_img w x y x' y' ao bo n c m d
  have y0 : V.cell? ⟨w.heap.size, 0, none⟩ = some (.int .i64 x) := A1.cell 0
  have y1 : V.cell? ⟨w.heap.size, 1, none⟩ = some (.int .i64 y) := A1.cell 1
  have y2 : V.cell? ⟨w.heap.size, 2, none⟩ = some (.slice ao n c) := A1.cell 2
  have p0 : V.cell? ⟨w.heap.size + 1, 0, none⟩ = some (.int .i64 x') := A2.cell 0
  have p1 : V.cell? ⟨w.heap.size + 1, 1, none⟩ = some (.int .i64 y') := A2.cell 1
  have p2 : V.cell? ⟨w.heap.size + 1, 2, none⟩ = some (.slice bo m d) := A2.cell 2
  have HB : Hid (Below w.heap.size w V) := BV
  have HS1 := Lib.hid (fun W (hb : Below V.heap.size V W) => small_c x y ao n c az W ((h.below BV).below hb))
  have HS2 := Lib.hid (fun W (hb : Below V.heap.size V W) => small_c x' y' bo m d bs W ((k.below BV).below hb))
  have HL1 : Hid (∀ W, Below V.heap.size V W → Lst .u8 W ao n c az) := fun W hb => (h.below BV).below hb
  have HL2 : Hid (∀ W, Below V.heap.size V W → Lst .u8 W bo m d bs) := fun W hb => (k.below BV).below hb
  have HA : Hid (∀ W, Calls Try.prog 14 #[] W fun e w' => e = .returned (.bool true) ∧ Below W.heap.size W w') := awake_c
  have hlen : Hid (az.length = n) := h.len
  have hlen2 : Hid (bs.length = m) := k.len
  have hbz := Lib.hid h.bytes
  cases hs1 : (decide (x ≤ 24) && decide (y ≤ 24) && okB x y az) with
  | false =>
    rw [hs1] at HS1
    replace HS1 := Lib.hid HS1
    clear hs1 h k BV A1 A2 z2
    go_enter Try.func9, Try.ntmps9
    go_wp2_with (first
      | (go_at_call 18; (with_reducible refine (HS1.out.out V (Below.refl _ _)).mono ?_); rintro e v1 ⟨rfl, B1⟩; have B1' := Lib.hid (HB.out.trans (B1.mono HB.out.size)); clear B1)
      | (go_at_call 14; (with_reducible refine (HA.out _).mono ?_); rintro e v2 ⟨rfl, B2⟩; have B2' := Lib.hid (B1'.out.trans (B2.mono B1'.out.size)); clear B2))
    go_ret
    exact ⟨rfl, B2'.out⟩
  | true =>
    rw [hs1] at HS1
    replace HS1 := Lib.hid HS1
    cases hs2 : (decide (x' ≤ 24) && decide (y' ≤ 24) && okB x' y' bs) with
    | false =>
      rw [hs2] at HS2
      replace HS2 := Lib.hid HS2
      clear hs1 hs2 h k BV A1 A2 z2
      go_enter Try.func9, Try.ntmps9
      go_wp2_with (first
        | (go_at_call 18; (with_reducible refine (HS1.out.out V (Below.refl _ _)).mono ?_); rintro e v1 ⟨rfl, B1⟩; have r0 := cell_keep p0 B1; have r1 := cell_keep p1 B1; have r2 := cell_keep p2 B1; have hB1 := Lib.hid B1; clear B1 HS1)
        | (go_at_call 18; (with_reducible refine (HS2.out.out v1 hB1.out).mono ?_); rintro e v2 ⟨rfl, B2⟩; have B2' := Lib.hid (HB.out.trans ((hB1.out.trans (B2.mono hB1.out.size)).mono HB.out.size)); clear B2)
        | (go_at_call 14; (with_reducible refine (HA.out _).mono ?_); rintro e v3 ⟨rfl, B3⟩; have B3' := Lib.hid (B2'.out.trans (B3.mono B2'.out.size)); clear B3))
      go_ret
      exact ⟨rfl, B3'.out⟩
    | true =>
      rw [hs2] at HS2
      replace HS2 := Lib.hid HS2
      obtain ⟨v, u, rfl, rfl, hv, hu, hO⟩ := small_ok hs1
      obtain ⟨v', u', rfl, rfl, hv', hu', hQ⟩ := small_ok hs2
      by_cases hsz : v = v' ∧ u = u'
      · obtain ⟨rfl, rfl⟩ := hsz
        have hmn : m = n := by have := hO.len; have := hQ.len; have := hlen.out; have := hlen2.out; omega
        subst hmn
        have HX := Lib.hid (fun W hb => xor_c v u ao bo m c d az bs W (HL1.out W hb) (HL2.out W hb) hO hQ)
        have hOx := okXor hO hQ hlen.out
        have HEqd := Lib.hid (fun (W : World) (go : Nat) (dd : Nat) (xs : List Int) (hx : Lst .u8 W (some ⟨go, 0, none⟩) m dd xs) (hy : Lst .u8 W ao m c az) (e : xs = az) => show Calls Try.prog 15 #[.agg #[.int .i64 (v : Int), .int .i64 (u : Int), .slice (some ⟨go, 0, none⟩) m dd], .agg #[.int .i64 (v : Int), .int .i64 (u : Int), .slice ao m c]] W (fun e w' => e = .returned (.bool true) ∧ Below W.heap.size W w') from by
          have := eqI_c v u v u (some ⟨go, 0, none⟩) ao m dd m c xs az W hx hy
          rw [decide_eq_true e, decide_eq_true (rfl : (v : Int) = v), decide_eq_true (rfl : (u : Int) = u)] at this
          exact this)
        obtain ⟨XB, hXB⟩ : ∃ X, Hid (packP (xorB (bitL az) (bitL bs)) m = X) := ⟨_, rfl⟩
        have HX2 := Lib.hid (fun (W : World) (go : Nat) (dd : Nat) (hx : Lst .u8 W (some ⟨go, 0, none⟩) m dd XB) (hb : Below V.heap.size V W) => xor_c v u (some ⟨go, 0, none⟩) bo m dd d XB bs W hx (HL2.out W hb) (by rw [← hXB.out]; exact hOx) hQ)
        have hback : Hid (packP (xorB (bitL XB) (bitL bs)) m = az) := by show _ = _; rw [← hXB.out]; exact xor_twice hO hQ hlen.out hbz.out
        have hVC : Hid (∀ (W : World) (go : Nat) (dd : Nat), Lst .u8 W (some ⟨go, 0, none⟩) m dd XB → Calls Try.prog 17 #[.agg #[.int .i64 (v : Int), .int .i64 (u : Int), .slice (some ⟨go, 0, none⟩) m dd]] W fun e w' => e = .returned (.bool true) ∧ Below W.heap.size W w') := fun W go dd hx => by
          have := refValid_c v u (some ⟨go, 0, none⟩) m dd XB W hx
          rw [← hXB.out, okB_mk hOx] at this
          exact this
        have hG1 : Hid (∀ (W : World) (go : Nat) (dd r cc : Nat), Lst .u8 W (some ⟨go, 0, none⟩) m dd XB → Calls Try.prog 20 #[.agg #[.int .i64 (v : Int), .int .i64 (u : Int), .slice (some ⟨go, 0, none⟩) m dd], .int .i64 (cc : Int), .int .i64 (r : Int)] W fun e w' => e = .returned (.bool (getP v u XB cc r)) ∧ Below W.heap.size W w') := fun W go dd r cc hx => refGet_c v u cc r (some ⟨go, 0, none⟩) m dd XB W hx (by rw [← hXB.out]; exact hOx)
        have hG2 : Hid (∀ (W : World) (r cc : Nat), Below V.heap.size V W → Calls Try.prog 20 #[.agg #[.int .i64 (v : Int), .int .i64 (u : Int), .slice ao m c], .int .i64 (cc : Int), .int .i64 (r : Int)] W fun e w' => e = .returned (.bool (getP v u az cc r)) ∧ Below W.heap.size W w') := fun W r cc hb => refGet_c v u cc r ao m c az W (HL1.out W hb) hO
        have hG3 : Hid (∀ (W : World) (r cc : Nat), Below V.heap.size V W → Calls Try.prog 20 #[.agg #[.int .i64 (v : Int), .int .i64 (u : Int), .slice bo m d], .int .i64 (cc : Int), .int .i64 (r : Int)] W fun e w' => e = .returned (.bool (getP v u bs cc r)) ∧ Below W.heap.size W w') := fun W r cc hb => refGet_c v u cc r bo m d bs W (HL2.out W hb) hQ
        have hGX : Hid (∀ r cc : Nat, cc < v → r < u → getP v u XB cc r = (getP v u az cc r != getP v u bs cc r)) := fun r cc h1 h2 => by rw [← hXB.out]; exact getP_xor hO hQ hlen.out h1 h2
        have hvv : ((v : Int) != (v : Int)) = false := by simp
        have huu : ((u : Int) != (u : Int)) = false := by simp
        rw [hXB.out] at HX
        clear hs1 hs2 h k BV A1 A2 z2 hO hQ hOx hv' hu' hlen hlen2 hbz
        go_enter Try.func9, Try.ntmps9
        go_wp2_with (first
          | (go_at_call 18; (with_reducible refine (HS1.out.out V (Below.refl _ _)).mono ?_); rintro e w1 ⟨rfl, B1⟩; have r0 := cell_keep p0 B1; have r1 := cell_keep p1 B1; have r2 := cell_keep p2 B1; have s0 := cell_keep y0 B1; have s1 := cell_keep y1 B1; have s2 := cell_keep y2 B1; have hB1 := Lib.hid B1; clear B1 HS1)
          | (go_at_call 18; (with_reducible refine (HS2.out.out w1 hB1.out).mono ?_); rintro e w2 ⟨rfl, B2⟩; have t0 := cell_keep r0 B2; have t1 := cell_keep r1 B2; have t2 := cell_keep r2 B2; have u0 := cell_keep s0 B2; have u1 := cell_keep s1 B2; have u2 := cell_keep s2 B2; have hB2 := Lib.hid (hB1.out.trans (B2.mono hB1.out.size)); clear B2)
          | (go_at_call 30; (with_reducible refine (HX.out w2 hB2.out).mono ?_); rintro e w3 ⟨go, rfl, O3, B3⟩; obtain ⟨w4, w5, m4, m5, q0, q1, q2, q3, q4, q5, A5, B5, z5⟩ := new_fill2 w3 (.int .i64 (v : Int)) (.int .i64 (u : Int)) (.slice (some ⟨go, 0, none⟩) m m); obtain ⟨g, hg⟩ : ∃ g, w3.heap.size = g := ⟨_, rfl⟩; rw [hg] at m5 q0 q1 q2 q3 q4 q5 A5; have B35 := B3.trans (B5.mono B3.size); have t0' := cell_keep t0 B35; have t1' := cell_keep t1 B35; have t2' := cell_keep t2 B35; have u0' := cell_keep u0 B35; have u1' := cell_keep u1 B35; have u2' := cell_keep u2 B35; have f0 : w5.cell? ⟨g, 0, none⟩ = some (.int .i64 (v : Int)) := A5.cell 0; have f1 : w5.cell? ⟨g, 1, none⟩ = some (.int .i64 (u : Int)) := A5.cell 1; have f2 : w5.cell? ⟨g, 2, none⟩ = some (.slice (some ⟨go, 0, none⟩) m m) := A5.cell 2; have L5 := Lib.hid (O3.kept B5).lst; have HV5 := Lib.hid (hVC.out w5 go m L5.out); have hB5 := Lib.hid (hB2.out.trans (B35.mono hB2.out.size)); clear O3 B3 B5 A5 B35 z5)
          | (go_at_call 17; (with_reducible refine HV5.out.mono ?_); rintro e w6 ⟨rfl, B6⟩; have a0 := cell_keep t0' B6; have a1 := cell_keep t1' B6; have a2 := cell_keep t2' B6; have b0 := cell_keep u0' B6; have b1 := cell_keep u1' B6; have b2 := cell_keep u2' B6; have c0 := cell_keep f0 B6; have c1 := cell_keep f1 B6; have c2 := cell_keep f2 B6; have L6 := Lib.hid (L5.out.below B6); have hB6 := Lib.hid (hB5.out.trans (B6.mono hB5.out.size)); clear B6))
        have hK := Lib.hid (And.intro a0 (And.intro a1 (And.intro a2 (And.intro b0 (And.intro b1 (And.intro b2 (And.intro c0 (And.intro c1 c2))))))))
        clear a0 a1 a2 b0 b1 b2 c0 c1 c2 t0' t1' t2' u0' u1' u2' f0 f1 f2 t0 t1 t2 u0 u1 u2 r0 r1 r2 s0 s1 s2 y0 y1 y2 p0 p1 p2 q0 q1 q2 q3 q4 q5 m4 m5
        go_loopw [7, 8] (fun rv _ wr => ∃ r : Nat, r ≤ u ∧ rv = .int .i64 (r : Int) ∧ Hid (Below w6.heap.size w6 wr)) (fun rv _ _ => u - (intOf rv).toNat)
        case atStart => exact ⟨0, Nat.zero_le _, rfl, Below.refl _ _⟩
        case round =>
          obtain ⟨v1, hv1⟩ : ∃ y, y = wr := ⟨_, rfl⟩
          subst hv1
          obtain ⟨r, hr, rfl, hBr⟩ := hrel
          have b0 := cell_keep hK.out.2.2.2.1 hBr.out
          have b1 := cell_keep hK.out.2.2.2.2.1 hBr.out
          by_cases hru : r < u
          · have hru' : (r : Int) < (u : Int) := by omega
            go_wp2_with fail
            clear b0 b1
            go_loopw [8] (fun cv wr => ∃ cc : Nat, cc ≤ v ∧ cv = .int .i64 (cc : Int) ∧ Hid (Below w6.heap.size w6 wr)) (fun cv _ => v - (intOf cv).toNat)
            case atStart => exact ⟨0, Nat.zero_le _, rfl, hBr⟩
            case round =>
              clear hBr
              obtain ⟨cc, hcc, rfl, hBr⟩ := hrel
              obtain ⟨k0, k1, k2, k3, k4, k5, k6, k7, k8⟩ := hK.out
              have a0 := cell_keep k0 hBr.out.drew
              have a1 := cell_keep k1 hBr.out.drew
              have a2 := cell_keep k2 hBr.out.drew
              have b0 := cell_keep k3 hBr.out.drew
              have b1 := cell_keep k4 hBr.out.drew
              have b2 := cell_keep k5 hBr.out.drew
              have c0 := cell_keep k6 hBr.out.drew
              have c1 := cell_keep k7 hBr.out.drew
              have c2 := cell_keep k8 hBr.out.drew
              have b0' : wr.cell? ⟨w.heap.size, 0, none⟩ = some (.int .i64 (v : Int)) := b0
              clear k0 k1 k2 k3 k4 k5 k6 k7 k8
              by_cases hcv : cc < v
              · have hcv' : (cc : Int) < (v : Int) := by omega
                obtain ⟨R1, hR1⟩ : ∃ R, getP v u az cc r = R := ⟨_, rfl⟩
                obtain ⟨R2, hR2⟩ : ∃ R, getP v u bs cc r = R := ⟨_, rfl⟩
                have hRX := hGX.out r cc hcv hru
                have hBd : Below V.heap.size V wr.drew := (hB6.out.trans (hBr.out.mono hB6.out.size)).drew
                have H1 := hG1.out wr.drew go m r cc (L6.out.below hBr.out.drew)
                have H2 := fun (W : World) (hb : Below wr.drew.heap.size wr.drew W) => hG2.out W r cc (hBd.trans (hb.mono hBd.size))
                have H3 := fun (W : World) (hb : Below wr.drew.heap.size wr.drew W) => hG3.out W r cc (hBd.trans (hb.mono hBd.size))
                rw [hRX, hR1, hR2] at H1
                rw [hR1] at H2
                rw [hR2] at H3
                replace H1 := Lib.hid H1
                replace H2 := Lib.hid H2
                replace H3 := Lib.hid H3
                obtain ⟨RX, hRX2⟩ : ∃ R, (R1 != R2) = R := ⟨_, rfl⟩
                rw [hRX2] at H1
                have h4 : (R1 = false ∧ R2 = false ∧ RX = false) ∨ (R1 = false ∧ R2 = true ∧ RX = true) ∨ (R1 = true ∧ R2 = false ∧ RX = true) ∨ (R1 = true ∧ R2 = true ∧ RX = false) := by
                  subst hRX2
                  cases R1 <;> cases R2 <;> simp
                have hBrd : Below w6.heap.size w6 wr.drew := hBr.out.drew
                clear hR1 hR2 hRX hBd hRX2
                rcases h4 with ⟨rfl, rfl, rfl⟩ | ⟨rfl, rfl, rfl⟩ | ⟨rfl, rfl, rfl⟩ | ⟨rfl, rfl, rfl⟩
                all_goals go_wp2_with fail
                all_goals
                  go_region_held3 (fun w' => w'.cell? ⟨w.heap.size + 1, 0, none⟩ = some (.int .i64 (v : Int)) ∧ w'.cell? ⟨w.heap.size + 1, 1, none⟩ = some (.int .i64 (u : Int)) ∧ w'.cell? ⟨w.heap.size + 1, 2, none⟩ = some (.slice bo m d) ∧ w'.cell? ⟨w.heap.size, 0, none⟩ = some (.int .i64 (v : Int)) ∧ w'.cell? ⟨w.heap.size, 1, none⟩ = some (.int .i64 (u : Int)) ∧ w'.cell? ⟨w.heap.size, 2, none⟩ = some (.slice ao m c) ∧ w'.cell? ⟨g, 0, none⟩ = some (.int .i64 (v : Int)) ∧ w'.cell? ⟨g, 1, none⟩ = some (.int .i64 (u : Int)) ∧ w'.cell? ⟨g, 2, none⟩ = some (.slice (some ⟨go, 0, none⟩) m m)) (go_keep) (first
                  | (go_at_call 20; (with_reducible refine H1.out.mono ?_); clear H1; rintro e x1 ⟨rfl, D1⟩; have i0 := cell_keep a0 D1; have i1 := cell_keep a1 D1; have i2 := cell_keep a2 D1; have j0 := cell_keep b0 D1; have j1 := cell_keep b1 D1; have j2 := cell_keep b2 D1; have l0 := cell_keep c0 D1; have l1 := cell_keep c1 D1; have l2 := cell_keep c2 D1)
                  | (go_at_call 20; (with_reducible refine (H2.out x1 D1).mono ?_); clear H2; rintro e x2 ⟨rfl, D2⟩; have D12 := D1.trans (D2.mono D1.size); have ii0 := cell_keep a0 D12; have ii1 := cell_keep a1 D12; have ii2 := cell_keep a2 D12; have jj0 := cell_keep b0 D12; have jj1 := cell_keep b1 D12; have jj2 := cell_keep b2 D12; have ll0 := cell_keep c0 D12; have ll1 := cell_keep c1 D12; have ll2 := cell_keep c2 D12)
                  | (go_at_call 20; (with_reducible refine (H3.out x2 D12).mono ?_); clear H3; rintro e x3 ⟨rfl, D3⟩; have D13 := D12.trans (D3.mono D12.size); have iii0 := cell_keep a0 D13; have iii1 := cell_keep a1 D13; have iii2 := cell_keep a2 D13; have jjj0 := cell_keep b0 D13; have jjj1 := cell_keep b1 D13; have jjj2 := cell_keep b2 D13; have lll0 := cell_keep c0 D13; have lll1 := cell_keep c1 D13; have lll2 := cell_keep c2 D13; have hBx := Lib.hid (hBrd.trans (D13.mono hBrd.size)); clear D1 D2 D3 D12 D13))
                all_goals
                  clear a0 a1 a2 b0 b1 b2 c0 c1 c2 i0 i1 i2 j0 j1 j2 l0 l1 l2 ii0 ii1 ii2 jj0 jj1 jj2 ll0 ll1 ll2
                  go_wp2_with fail
                  go_roundw
                  case rel => exact ⟨cc + 1, by omega, by go_num, hBx⟩
                  case measure => simp [intOf]; omega
              · clear a0 a1 a2 b0 b1 b2 c0 c1 c2
                go_wp2_with fail
                go_roundw
                case rel => exact ⟨r + 1, by omega, by go_num, hBr⟩
                case measure => simp [intOf]; omega
          · obtain ⟨k0, k1, k2, k3, k4, k5, k6, k7, k8⟩ := hK.out
            have a0 := cell_keep k0 hBr.out
            have a1 := cell_keep k1 hBr.out
            have a2 := cell_keep k2 hBr.out
            have b2 := cell_keep k5 hBr.out
            have c0 := cell_keep k6 hBr.out
            have c1 := cell_keep k7 hBr.out
            have c2 := cell_keep k8 hBr.out
            clear k0 k1 k2 k3 k4 k5 k6 k7 k8
            have hBv := Lib.hid (hB6.out.trans (hBr.out.mono hB6.out.size))
            have HXX := Lib.hid (HX2.out v1 go m (L6.out.below hBr.out) hBv.out)
            rw [hback.out] at HXX
            go_wp2_with (first
              | (go_at_call 30; (with_reducible refine HXX.out.mono ?_); rintro e w7 ⟨gd, rfl, O7, B7⟩; obtain ⟨w8, w9, m8, m9, q0, q1, q2, q3, q4, q5, A9, B9, z9⟩ := new_fill2 w7 (.int .i64 (v : Int)) (.int .i64 (u : Int)) (.slice (some ⟨gd, 0, none⟩) m m); obtain ⟨g2, hg2⟩ : ∃ g, w7.heap.size = g := ⟨_, rfl⟩; rw [hg2] at m9 q0 q1 q2 q3 q4 q5 A9; have B79 := B7.trans (B9.mono B7.size); have d0 := cell_keep b0 B79; have d1 := cell_keep b1 B79; have d2 := cell_keep b2 B79; have f0 : w9.cell? ⟨g2, 0, none⟩ = some (.int .i64 (v : Int)) := A9.cell 0; have f1 : w9.cell? ⟨g2, 1, none⟩ = some (.int .i64 (u : Int)) := A9.cell 1; have f2 : w9.cell? ⟨g2, 2, none⟩ = some (.slice (some ⟨gd, 0, none⟩) m m) := A9.cell 2; have L9 := Lib.hid (O7.kept B9).lst; have hB9 := Lib.hid (hBv.out.trans (B79.mono hBv.out.size)); clear O7 B7 B9 A9 B79 z9)
              | (go_at_call 14; (with_reducible refine (HA.out _).mono ?_); rintro e w10 ⟨rfl, B10⟩; have e0 := cell_keep d0 B10; have e1 := cell_keep d1 B10; have e2 := cell_keep d2 B10; have g0 := cell_keep f0 B10; have g1 := cell_keep f1 B10; have g3 := cell_keep f2 B10; have hB10 := Lib.hid (hB9.out.trans (B10.mono hB9.out.size)); have HE := Lib.hid (HEqd.out w10 gd m az (L9.out.below B10) (HL1.out w10 hB10.out) rfl); clear B10)
              | (go_at_call 15; (with_reducible refine HE.out.mono ?_); rintro e w11 ⟨rfl, B11⟩; have hB11 := Lib.hid (hB10.out.trans (B11.mono hB10.out.size)); clear B11))
            go_ret
            exact ⟨rfl, HB.out.trans (hB11.out.mono HB.out.size)⟩
      · have HX := Lib.hid (fun W hb => xor_no v u v' u' ao bo n c m d az bs W (HL1.out W hb) (HL2.out W hb) (by
          by_cases e : v = v'
          · exact Or.inr (Or.inr (Or.inr (fun e2 => hsz ⟨e, by omega⟩)))
          · exact Or.inr (Or.inr (Or.inl (fun e2 => e (by omega))))))
        have HEq : Hid (∀ W, Calls Try.prog 15 #[.agg #[.int .i64 0, .int .i64 0, .slice none 0 0], .agg #[.int .i64 0, .int .i64 0, .slice none 0 0]] W fun e w' => e = .returned (.bool true) ∧ Below W.heap.size W w') := fun W => eqI_c 0 0 0 0 none none 0 0 0 0 [] [] W (Lst.nil _ _) (Lst.nil _ _)
        by_cases e : v = v'
        · subst e
          have hu2 : ((u : Int) != (u' : Int)) = true := by simp; omega
          have hv2 : ((v : Int) != (v : Int)) = false := by simp
          clear hs1 hs2 h k BV A1 A2 z2 hsz hO hQ hv hu hv' hu'
          go_enter Try.func9, Try.ntmps9
          go_wp2_with (first
            | (go_at_call 18; (with_reducible refine (HS1.out.out V (Below.refl _ _)).mono ?_); rintro e w1 ⟨rfl, B1⟩; have r0 := cell_keep p0 B1; have r1 := cell_keep p1 B1; have r2 := cell_keep p2 B1; have s0 := cell_keep y0 B1; have s1 := cell_keep y1 B1; have s2 := cell_keep y2 B1; have hB1 := Lib.hid B1; clear B1 HS1)
            | (go_at_call 18; (with_reducible refine (HS2.out.out w1 hB1.out).mono ?_); rintro e w2 ⟨rfl, B2⟩; have t0 := cell_keep r0 B2; have t1 := cell_keep r1 B2; have t2 := cell_keep r2 B2; have u0 := cell_keep s0 B2; have u1 := cell_keep s1 B2; have u2 := cell_keep s2 B2; have hB2 := Lib.hid (hB1.out.trans (B2.mono hB1.out.size)); clear B2)
            | (go_at_call 30; (with_reducible refine (HX.out w2 hB2.out).mono ?_); rintro e w3 ⟨rfl, B3⟩; obtain ⟨w4, w5, m4, m5, q0, q1, q2, q3, q4, q5, A5, B5, z5⟩ := new_fill2 w3 (.int .i64 0) (.int .i64 0) (.slice none 0 0); obtain ⟨g, hg⟩ : ∃ g, w3.heap.size = g := ⟨_, rfl⟩; rw [hg] at m5 q0 q1 q2 q3 q4 q5 A5; have B35 := B3.trans (B5.mono B3.size); have t0' := cell_keep t0 B35; have t1' := cell_keep t1 B35; have u0' := cell_keep u0 B35; have u1' := cell_keep u1 B35; have f0 : w5.cell? ⟨g, 0, none⟩ = some (.int .i64 0) := A5.cell 0; have f1 : w5.cell? ⟨g, 1, none⟩ = some (.int .i64 0) := A5.cell 1; have f2 : w5.cell? ⟨g, 2, none⟩ = some (.slice none 0 0) := A5.cell 2; have hB5 := Lib.hid (HB.out.trans ((hB2.out.trans (B35.mono hB2.out.size)).mono HB.out.size)); clear B3 B5 A5 B35 z5)
            | (go_at_call 14; (with_reducible refine (HA.out _).mono ?_); rintro e w6 ⟨rfl, B6⟩; have g0 := cell_keep f0 B6; have g1 := cell_keep f1 B6; have g2 := cell_keep f2 B6; have hB6 := Lib.hid (hB5.out.trans (B6.mono hB5.out.size)); clear B6)
            | (go_at_call 15; (with_reducible refine (HEq.out _).mono ?_); rintro e w7 ⟨rfl, B7⟩; have hB7 := Lib.hid (hB6.out.trans (B7.mono hB6.out.size)); clear B7))
          go_ret
          exact ⟨rfl, hB7.out⟩
        · have hv2 : ((v : Int) != (v' : Int)) = true := by simp; omega
          clear hs1 hs2 h k BV A1 A2 z2 hsz hO hQ hv hu hv' hu' e
          go_enter Try.func9, Try.ntmps9
          go_wp2_with (first
            | (go_at_call 18; (with_reducible refine (HS1.out.out V (Below.refl _ _)).mono ?_); rintro e w1 ⟨rfl, B1⟩; have r0 := cell_keep p0 B1; have r1 := cell_keep p1 B1; have r2 := cell_keep p2 B1; have s0 := cell_keep y0 B1; have s1 := cell_keep y1 B1; have s2 := cell_keep y2 B1; have hB1 := Lib.hid B1; clear B1 HS1)
            | (go_at_call 18; (with_reducible refine (HS2.out.out w1 hB1.out).mono ?_); rintro e w2 ⟨rfl, B2⟩; have t0 := cell_keep r0 B2; have t1 := cell_keep r1 B2; have t2 := cell_keep r2 B2; have u0 := cell_keep s0 B2; have u1 := cell_keep s1 B2; have u2 := cell_keep s2 B2; have hB2 := Lib.hid (hB1.out.trans (B2.mono hB1.out.size)); clear B2)
            | (go_at_call 30; (with_reducible refine (HX.out w2 hB2.out).mono ?_); rintro e w3 ⟨rfl, B3⟩; obtain ⟨w4, w5, m4, m5, q0, q1, q2, q3, q4, q5, A5, B5, z5⟩ := new_fill2 w3 (.int .i64 0) (.int .i64 0) (.slice none 0 0); obtain ⟨g, hg⟩ : ∃ g, w3.heap.size = g := ⟨_, rfl⟩; rw [hg] at m5 q0 q1 q2 q3 q4 q5 A5; have B35 := B3.trans (B5.mono B3.size); have t0' := cell_keep t0 B35; have t1' := cell_keep t1 B35; have u0' := cell_keep u0 B35; have u1' := cell_keep u1 B35; have f0 : w5.cell? ⟨g, 0, none⟩ = some (.int .i64 0) := A5.cell 0; have f1 : w5.cell? ⟨g, 1, none⟩ = some (.int .i64 0) := A5.cell 1; have f2 : w5.cell? ⟨g, 2, none⟩ = some (.slice none 0 0) := A5.cell 2; have hB5 := Lib.hid (HB.out.trans ((hB2.out.trans (B35.mono hB2.out.size)).mono HB.out.size)); clear B3 B5 A5 B35 z5)
            | (go_at_call 14; (with_reducible refine (HA.out _).mono ?_); rintro e w6 ⟨rfl, B6⟩; have g0 := cell_keep f0 B6; have g1 := cell_keep f1 B6; have g2 := cell_keep f2 B6; have hB6 := Lib.hid (hB5.out.trans (B6.mono hB5.out.size)); clear B6)
            | (go_at_call 15; (with_reducible refine (HEq.out _).mono ?_); rintro e w7 ⟨rfl, B7⟩; have hB7 := Lib.hid (hB6.out.trans (B7.mono hB6.out.size)); clear B7))
          go_ret
          exact ⟨rfl, hB7.out⟩
end Go.Proofs.Ytpjaljjclkfkmaa
