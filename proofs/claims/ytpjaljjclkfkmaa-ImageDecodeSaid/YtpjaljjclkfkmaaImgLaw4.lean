/-
  The walk of ImageCode.
-/
import Derived.Test.YtpjaljjclkfkmaaImgView
import Derived.Test.YtpjaljjclkfkmaaImgEnc
import Derived.Test.YtpjaljjclkfkmaaImgPEnc
import Derived.Test.YtpjaljjclkfkmaaImgPDec3
namespace Go.Proofs.Ytpjaljjclkfkmaa
open Go.RowKit Im

theorem enc_inj {v u v' u' : Nat} {bs bs' : List Int} (hO : OkI v u bs) (hQ : OkI v' u' bs') (hb : ∀ x ∈ bs, 0 ≤ x ∧ x ≤ 255) (hb' : ∀ x ∈ bs', 0 ≤ x ∧ x ≤ 255) (h : encP v' u' (bitL bs') = encP v u (bitL bs)) : v' = v ∧ u' = u ∧ bs' = bs := by
  obtain ⟨b, hbe⟩ : ∃ b, encP v u (bitL bs) = b := ⟨_, rfl⟩
  rw [hbe] at h
  obtain ⟨p1, p2, p3, _⟩ := enc_head hO.w2 hO.h2 hbe
  obtain ⟨q1, q2, q3, _⟩ := enc_head hQ.w2 hQ.h2 h
  have e1 : v' = v := q1.symm.trans p1
  have e2 : u' = u := q2.symm.trans p2
  subst e1
  subst e2
  refine ⟨rfl, rfl, ?_⟩
  have hE := congrArg (fun l => decR l false) (q3.symm.trans p3)
  simp only [dec_enc, List.replicate_zero, List.nil_append] at hE
  rw [← pack_bits bs hb, ← pack_bits bs' hb', hO.len, hQ.len]
  apply packP_congr
  intro n hn
  by_cases hl : n < v' * u'
  · have g1 := bitsFrom_get (bitL bs') 0 (v' * u') n hl
    have g2 := bitsFrom_get (bitL bs) 0 (v' * u') n hl
    rw [hE, g2] at g1
    rw [Nat.zero_add] at g1
    injection g1 with g1
    exact g1.symm
  · rw [hO.rest n (by omega) (by rw [hO.len]; exact hn), hQ.rest n (by omega) (by rw [hQ.len]; exact hn)]
set_option maxHeartbeats 6400000 in
set_option maxRecDepth 100000 in
theorem codeLaw_c (x y : Int) (ao : Option Addr) (n c : Nat) (bs : List Int) (w : World) (h : Lst .u8 w ao n c bs) :
    Calls Try.prog 10 #[.agg #[.int .i64 x, .int .i64 y, .slice ao n c]] w fun e w' => e = .returned (.bool true) ∧ Below w.heap.size w w' := by
  obtain ⟨V, e1, AV, BV, hz⟩ := new_img w x y ao n c
  have y0 : V.cell? ⟨w.heap.size, 0, none⟩ = some (.int .i64 x) := AV.cell 0
  have y1 : V.cell? ⟨w.heap.size, 1, none⟩ = some (.int .i64 y) := AV.cell 1
  have y2 : V.cell? ⟨w.heap.size, 2, none⟩ = some (.slice ao n c) := AV.cell 2
  have HB : Hid (Below w.heap.size w V) := BV
  have HS := Lib.hid (small_c x y ao n c bs V (h.below BV))
  have HL : Hid (∀ W, Below V.heap.size V W → Lst .u8 W ao n c bs) := fun W hb => (h.below BV).below hb
  have HA : Hid (∀ W, Calls Try.prog 14 #[] W fun e w' => e = .returned (.bool true) ∧ Below W.heap.size W w') := awake_c
  have hbz := Lib.hid h.bytes
  cases hs1 : (decide (x ≤ 24) && decide (y ≤ 24) && okB x y bs) with
  | false =>
    rw [hs1] at HS
    replace HS := Lib.hid HS
    clear hs1 h BV AV hz
    go_enter Try.func10, Try.ntmps10
    go_wp2_with (first
      | (go_at_call 18; (with_reducible refine HS.out.out.mono ?_); rintro e v1 ⟨rfl, B1⟩; have B1' := Lib.hid (HB.out.trans (B1.mono HB.out.size)); clear B1)
      | (go_at_call 14; (with_reducible refine (HA.out _).mono ?_); rintro e v2 ⟨rfl, B2⟩; have B2' := Lib.hid (B1'.out.trans (B2.mono B1'.out.size)); clear B2))
    go_ret
    exact ⟨rfl, B2'.out⟩
  | true =>
    rw [hs1] at HS
    replace HS := Lib.hid HS
    obtain ⟨v, u, rfl, rfl, hv, hu, hO⟩ := small_ok hs1
    obtain ⟨E, hE⟩ : ∃ E, encP v u (bitL bs) = E := ⟨_, rfl⟩
    have hEl := encP_len v u (bitL bs)
    have hvu : v * u ≤ 24 * 24 := Nat.mul_le_mul hv hu
    rw [hE] at hEl
    obtain ⟨L, hL⟩ : ∃ L, E.length = L := ⟨_, rfl⟩
    have hLb : L ≤ 1000000000 := by omega
    have HE := Lib.hid (fun W hb => enc_c v u ao n c bs W (HL.out W hb) hO)
    have HRE := Lib.hid (fun W hb => refEncode_c v u ao n c bs W (HL.out W hb) hO)
    rw [hE, hL] at HE
    rw [hE] at HRE
    have HD : Hid (∀ (W : World) (ro : Option Addr) (d : Nat), Lst .u8 W ro L d (intsN E) → Calls Try.prog 32 #[.slice ro L d] W fun e w' => (∃ gc m dd : Nat, e = .returned (.tuple #[.agg #[.int .i64 (v : Int), .int .i64 (u : Int), .slice (some ⟨gc, 0, none⟩) m dd], .bool true]) ∧ Own 5 .u8 W.heap.size w' (some ⟨gc, 0, none⟩) m dd bs) ∧ Below W.heap.size W w') := fun W ro d hLs => by
      refine (dec_c ro L d E W hLs hLb).mono ?_
      rintro e w' ⟨hd, hBl⟩
      refine ⟨?_, hBl⟩
      rcases hd with ⟨v', u', bs', gc, m, dd, rfl, hQ, hb', he, O⟩ | ⟨_, hno⟩
      · obtain ⟨r1, r2, r3⟩ := enc_inj hO hQ hbz.out hb' (he.trans hE.symm)
        subst r1; subst r2; subst r3
        exact ⟨gc, m, dd, rfl, O⟩
      · exact absurd hE (hno v u bs hO hbz.out)
    have HEb : Hid (∀ (W : World) (ro qo : Option Addr) (d m dd : Nat), Lst .u8 W ro L d (intsN E) → Lst .u8 W qo m dd (intsN E) → Calls Try.prog 23 #[.slice ro L d, .slice qo m dd] W fun e w' => e = .returned (.bool true) ∧ Below W.heap.size W w') := fun W ro qo d m dd h1 h2 => by
      have := eqB_c ro L d (intsN E) qo m dd (intsN E) W h1 h2
      rw [decide_eq_true rfl] at this
      exact this
    have HEq : Hid (∀ (W : World) (gc m dd : Nat), Lst .u8 W (some ⟨gc, 0, none⟩) m dd bs → Lst .u8 W ao n c bs → Calls Try.prog 15 #[.agg #[.int .i64 (v : Int), .int .i64 (u : Int), .slice (some ⟨gc, 0, none⟩) m dd], .agg #[.int .i64 (v : Int), .int .i64 (u : Int), .slice ao n c]] W fun e w' => e = .returned (.bool true) ∧ Below W.heap.size W w') := fun W gc m dd h1 h2 => by
      have := eqI_c v u v u (some ⟨gc, 0, none⟩) ao m dd n c bs bs W h1 h2
      rw [decide_eq_true (rfl : (v : Int) = v), decide_eq_true (rfl : (u : Int) = u), decide_eq_true (rfl : bs = bs)] at this
      exact this
    clear hs1 h BV AV hz hO hv hu hE hEl hvu hL hLb hbz
    go_enter Try.func10, Try.ntmps10
    go_wp2_with (first
      | (go_at_call 18; (with_reducible refine HS.out.out.mono ?_); rintro e w1 ⟨rfl, B1⟩; have a0 := cell_keep y0 B1; have a1 := cell_keep y1 B1; have a2 := cell_keep y2 B1; have hB1 := Lib.hid B1; clear B1 HS)
      | (go_at_call 31; (with_reducible refine (HE.out w1 hB1.out).mono ?_); rintro e w2 ⟨ro, d, rfl, O2, B2⟩; have b0 := cell_keep a0 B2; have b1 := cell_keep a1 B2; have b2 := cell_keep a2 B2; have L2 := Lib.hid O2.lst; have hB2 := Lib.hid (hB1.out.trans (B2.mono hB1.out.size)); clear B2 O2 HE)
      | (go_at_call 32; (with_reducible refine (HD.out w2 ro d L2.out).mono ?_); rintro e w3 ⟨⟨gc, m, dd, rfl, O3⟩, B3⟩; obtain ⟨w4, w5, m4, m5, q0, q1, q2, q3, q4, q5, A5, B5, z5⟩ := new_fill2 w3 (.int .i64 (v : Int)) (.int .i64 (u : Int)) (.slice (some ⟨gc, 0, none⟩) m dd); obtain ⟨g, hg⟩ : ∃ g, w3.heap.size = g := ⟨_, rfl⟩; rw [hg] at m5 q0 q1 q2 q3 q4 q5 A5; have B35 := B3.trans (B5.mono B3.size); have c0 := cell_keep b0 B35; have c1 := cell_keep b1 B35; have c2 := cell_keep b2 B35; have f0 : w5.cell? ⟨g, 0, none⟩ = some (.int .i64 (v : Int)) := A5.cell 0; have f1 : w5.cell? ⟨g, 1, none⟩ = some (.int .i64 (u : Int)) := A5.cell 1; have f2 : w5.cell? ⟨g, 2, none⟩ = some (.slice (some ⟨gc, 0, none⟩) m dd) := A5.cell 2; have L5 := Lib.hid (O3.kept B5).lst; have LE5 := Lib.hid (L2.out.below B35); have hB5 := Lib.hid (hB2.out.trans (B35.mono hB2.out.size)); clear O3 B3 B5 A5 B35 z5 HD)
      | (go_at_call 14; (with_reducible refine (HA.out _).mono ?_); rintro e w6 ⟨rfl, B6⟩; have d0 := cell_keep c0 B6; have d1 := cell_keep c1 B6; have d2 := cell_keep c2 B6; have g0 := cell_keep f0 B6; have g1 := cell_keep f1 B6; have g2 := cell_keep f2 B6; have L6 := Lib.hid (L5.out.below B6); have LE6 := Lib.hid (LE5.out.below B6); have hB6 := Lib.hid (hB5.out.trans (B6.mono hB5.out.size)); clear B6)
      | (go_at_call 33; (with_reducible refine (HRE.out w6 hB6.out).mono ?_); rintro e w7 ⟨qo, qm, qd, rfl, O7, B7⟩; have i0 := cell_keep d0 B7; have i1 := cell_keep d1 B7; have i2 := cell_keep d2 B7; have j0 := cell_keep g0 B7; have j1 := cell_keep g1 B7; have j2 := cell_keep g2 B7; have L7 := Lib.hid (L6.out.below B7); have LE7 := Lib.hid (LE6.out.below B7); have LQ7 := Lib.hid O7.lst; have hB7 := Lib.hid (hB6.out.trans (B7.mono hB6.out.size)); clear B7 O7 HRE)
      | (go_at_call 23; (with_reducible refine (HEb.out w7 ro qo d qm qd LE7.out LQ7.out).mono ?_); rintro e w8 ⟨rfl, B8⟩; have k0 := cell_keep i0 B8; have k1 := cell_keep i1 B8; have k2 := cell_keep i2 B8; have l0 := cell_keep j0 B8; have l1 := cell_keep j1 B8; have l2 := cell_keep j2 B8; have L8 := Lib.hid (L7.out.below B8); have hB8 := Lib.hid (hB7.out.trans (B8.mono hB7.out.size)); clear B8 HEb)
      | (go_at_call 15; (with_reducible refine (HEq.out w8 gc m dd L8.out (HL.out w8 hB8.out)).mono ?_); rintro e w9 ⟨rfl, B9⟩; have hB9 := Lib.hid (HB.out.trans ((hB8.out.trans (B9.mono hB8.out.size)).mono HB.out.size)); clear B9 HEq))
    go_ret
    exact ⟨rfl, hB9.out⟩
end Go.Proofs.Ytpjaljjclkfkmaa
