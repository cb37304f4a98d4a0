import Derived.Test.YtgjndondonehhaaDoorPk2
import Derived.Test.YtgjndondonehhaaDoorPRatText2
/-
  The walk of RatioText.
-/
namespace Go.Proofs.YtgjndondonehhaaDoor
open Go.RowKit NatMath RatMath

set_option maxHeartbeats 6400000 in
set_option maxRecDepth 100000 in
theorem rtextlaw_c (s : Bool) (ao bo : Option Addr) (n c m d : Nat) (xs ys : List Int) (w : World) (h : Lst .u32 w ao n c xs) (k : Lst .u32 w bo m d ys) (htab : Tab w) :
    Calls Tryd.prog 10 #[.agg #[.bool s, .slice ao n c, .slice bo m d]] w fun e w' => e = .returned (.bool true) ∧ Below w.heap.size w w' := by
  have HT := Lib.hid htab
  have H := Lib.hid h; have K := Lib.hid k
  clear h k htab
  go_enter Tryd.func10, Tryd.ntmps10
  go_wp2_with fail
  have kA := Blk.new w 47 #[.bool s, .slice ao n c, .slice bo m d]
  have bb := (Below.refl w.heap.size w).alloc (Nat.le_refl _) (.cells #[.bool s, .slice ao n c, .slice bo m d] 47)
  obtain ⟨W0, hW0⟩ : ∃ W0, W0 = w.alloc (.cells #[.bool s, .slice ao n c, .slice bo m d] 47) := ⟨_, rfl⟩
  rw [← hW0] at kA bb ⊢
  clear hW0
  refine (short2_c s ao bo n c m d xs ys 2 W0 (H.out.below bb) (K.out.below bb)).mono ?_
  rintro e w1 ⟨n1, m1, rfl, hn1, hm1, l1, l2, B1⟩
  have M1 := H.out.retake l1
  have M2 := K.out.retake l2
  have k1 := kA.on B1
  have b1 := bb.trans (B1.mono bb.size)
  obtain ⟨q0, q1, q2, q3, q4, q5⟩ := k1.store3 (.bool s) (.slice ao n1 c)
  clear l1 l2 kA bb B1
  obtain ⟨X, hX⟩ : ∃ X, Hid (X = xs.take 2) := ⟨_, rfl⟩
  obtain ⟨Y, hY⟩ : ∃ Y, Hid (Y = ys.take 2) := ⟨_, rfl⟩
  rw [← hX.out] at M1
  rw [← hY.out] at M2
  have P1 := Lib.hid M1; have P2 := Lib.hid M2; have K1 := Lib.hid k1; have B1 := Lib.hid b1
  clear M1 M2 k1 b1 H K hX hY
  go_wp2_with fail
  have k2 := K1.out.put3 (.bool s) (.slice ao n1 c) (.slice bo m1 d)
  have b2 := below_put3 B1.out (Nat.le_refl _) (.bool s) (.slice ao n1 c) (.slice bo m1 d)
  change Calls _ _ _ (put3 w1 w.heap.size (.bool s) (.slice ao n1 c) (.slice bo m1 d)) _
  obtain ⟨W1, hW1⟩ : ∃ W1, W1 = put3 w1 w.heap.size (.bool s) (.slice ao n1 c) (.slice bo m1 d) := ⟨_, rfl⟩
  rw [← hW1] at k2 b2 ⊢
  clear hW1 q0 q1 q2 q3 q4 q5 K1 B1
  obtain ⟨t, P, Q, hz⟩ : ∃ t P Q, Hid (nf ⟨s, val X, val Y⟩ = ⟨t, P, Q⟩) := ⟨_, _, _, rfl⟩
  have hZ : Hid (nf ⟨t, P, Q⟩ = ⟨t, P, Q⟩) := by
    have := nf_nf ⟨s, val X, val Y⟩
    rw [hz.out] at this
    exact this
  have hPQ : Hid (P < 2 ^ 64 ∧ Q < 2 ^ 64) := by
    have h1 := nf_p_le ⟨s, val X, val Y⟩
    have h2 := nf_q_le ⟨s, val X, val Y⟩
    have h3 := val_lt_two P1.out.ok P1.out.len hn1
    have h4 := val_lt_two P2.out.ok P2.out.len hm1
    rw [hz.out] at h1 h2
    simp only at h1 h2
    have e : (2 : Nat) ^ (32 * 2) = 2 ^ 64 := by decide
    have e2 : (1 : Nat) < 2 ^ 64 := by decide
    show _ ∧ _
    omega
  have hfr := from2b_c s ao bo n1 c m1 d X Y 2 W1 (P1.out.below b2) (P2.out.below b2) hn1 hm1 (by omega)
  rw [hz.out] at hfr
  dsimp only at hfr
  refine hfr.mono ?_
  rintro e w2 ⟨t, a2, n2, c2, b3, m2, d2, rfl, rfl, o1, o2, hn2, hm2, B2⟩
  have k3 := k2.on B2
  have b4 := b2.trans (B2.mono b2.size)
  clear k2 b2 hfr
  have kX := Blk.new w2 50 #[.bool t, .slice a2 n2 c2, .slice b3 m2 d2]
  have k4 := k3.alloc (.cells #[.bool t, .slice a2 n2 c2, .slice b3 m2 d2] 50)
  have b5 := b4.alloc b4.size (.cells #[.bool t, .slice a2 n2 c2, .slice b3 m2 d2] 50)
  have x1 := o1.lst.below ((Below.refl w2.heap.size w2).alloc (Nat.le_refl _) (.cells #[.bool t, .slice a2 n2 c2, .slice b3 m2 d2] 50))
  have x2 := o2.lst.below ((Below.refl w2.heap.size w2).alloc (Nat.le_refl _) (.cells #[.bool t, .slice a2 n2 c2, .slice b3 m2 d2] 50))
  obtain ⟨g, hg⟩ : ∃ g, Hid (g = w2.heap.size) := ⟨_, rfl⟩
  clear B2 o1 o2 k3 b4
  obtain ⟨W2, hW2⟩ : ∃ W2, W2 = w2.alloc (.cells #[.bool t, .slice a2 n2 c2, .slice b3 m2 d2] 50) := ⟨_, rfl⟩
  rw [← hW2] at kX k4 b5 x1 x2
  rw [← hg.out] at kX
  obtain ⟨y0, y1, y2⟩ := k4.cells3
  have htx := rtext_c s ao bo n1 c m1 d X Y W2 (P1.out.below b5) (P2.out.below b5) (by omega) (by omega) (HT.out.below b5)
  rw [hz.out] at htx
  obtain ⟨T, hT⟩ : ∃ T, Hid (T = tx ⟨t, P, Q⟩) := ⟨_, rfl⟩
  rw [← hT.out] at htx
  have HTX := Lib.hid htx
  have KX := Lib.hid kX; have B5 := Lib.hid b5; have X1 := Lib.hid x1; have X2 := Lib.hid x2
  clear htx kX k4 b5 x1 x2
  rw [hW2] at y0 y1 y2
  have HW2 := Lib.hid hW2
  clear hW2
  go_wp2_with fail
  rw [← HW2.out, ← hg.out]
  clear y0 y1 y2
  refine HTX.out.mono ?_
  rintro e w3 ⟨rfl, B3⟩
  have kX := KX.out.on B3
  have b6 := B5.out.trans (B3.mono B5.out.size)
  have x3 := X1.out.below B3
  have x4 := X2.out.below B3
  have hpa : Calls Tryd.prog 44 #[.string T] w3 fun e w' => ∃ a n c a' n' c', e = .returned (.tuple #[.agg #[.bool t, .slice a n c, .slice a' n' c'], .bool true]) ∧ Own 75 .u32 w3.heap.size w' a n c (limbs P) ∧ Own 75 .u32 w3.heap.size w' a' n' c' (limbs Q) ∧ Below w3.heap.size w3 w' := by
    rw [hT.out]
    have hp := rparse_c (tx ⟨t, P, Q⟩) w3 (Nat.le_trans (tx_size hPQ.out.1 hPQ.out.2) (by omega)) (by rw [(tx_parts _).1]; exact Nat.le_trans (dg_size20 hPQ.out.1) (by omega)) (by rw [(tx_parts _).2]; exact Nat.le_trans (dg_size20 hPQ.out.2) (by omega))
    rw [tx_ok hZ.out, (tx_parts _).1, (tx_parts _).2, (tx_sign _).1, pv_dg, pv_dg] at hp
    refine hp.mono ?_
    rintro e w' ⟨b, a, n, c, a', n', c', rfl, _, _, h1, _, hb⟩
    obtain ⟨rfl, o1, o2⟩ := h1 rfl
    exact ⟨a, n, c, a', n', c', rfl, o1, o2, hb⟩
  have HPA := Lib.hid hpa
  have KX3 := Lib.hid kX; have B6 := Lib.hid b6; have X3 := Lib.hid x3; have X4 := Lib.hid x4
  clear hpa kX b6 x3 x4 B3 HTX KX B5 X1 X2
  go_wp2_with fail
  refine HPA.out.mono ?_
  rintro e w4 ⟨a5, n5, c5, b5, m5, d5, rfl, o5, o6, B4⟩
  have kX := KX3.out.on B4
  have b7 := B6.out.trans (B4.mono B6.out.size)
  have x5 := X3.out.below B4
  have x6 := X4.out.below B4
  have b8 := (Below.refl w4.heap.size w4).alloc (Nat.le_refl _) (.cells #[.bool t, .slice a5 n5 c5, .slice b5 m5 d5] 47)
  have kR := Blk.new w4 47 #[.bool t, .slice a5 n5 c5, .slice b5 m5 d5]
  have l5 := o5.lst.below b8
  have l6 := o6.lst.below b8
  replace kX := kX.on b8
  replace x5 := x5.below b8
  replace x6 := x6.below b8
  replace b7 := b7.trans (b8.mono b7.size)
  obtain ⟨g4, hg4⟩ : ∃ g, Hid (g = w4.heap.size) := ⟨_, rfl⟩
  clear B4 b8 o5 o6 HPA KX3 B6 X3 X4
  go_wp2_with fail
  obtain ⟨W4, hW4⟩ : ∃ W, W = w4.alloc (.cells #[.bool t, .slice a5 n5 c5, .slice b5 m5 d5] 47) := ⟨_, rfl⟩
  rw [← hW4] at kX kR x5 x6 l5 l6 b7 ⊢
  rw [← hg4.out] at kR ⊢
  clear hW4
  have DX := Lib.hid kX; have DQ := Lib.hid kR; have DB := Lib.hid b7
  have DX1 := Lib.hid x5; have DX2 := Lib.hid x6; have DQ1 := Lib.hid l5; have DQ2 := Lib.hid l6
  clear kX kR b7 x5 x6 l5 l6
  refine (awake2_c W4 (HT.out.below DB.out)).mono ?_
  rintro e v1 ⟨rfl, B1⟩
  have A1 := DX.out.on B1
  have C1 := DQ.out.on B1
  obtain ⟨z0, z1, z2⟩ := A1.cells3
  obtain ⟨zz0, zz1, zz2⟩ := C1.cells3
  have BB1 := Lib.hid (DB.out.trans (B1.mono DB.out.size))
  have E1 := Lib.hid (DX1.out.below B1); have F1 := Lib.hid (DX2.out.below B1); have G1 := Lib.hid (DQ1.out.below B1); have H1 := Lib.hid (DQ2.out.below B1)
  have htt := text2_c t a2 b3 n2 c2 m2 d2 P Q v1 E1.out F1.out (by omega) (by omega) (Nat.lt_trans hPQ.out.1 (by decide)) (Nat.lt_trans hPQ.out.2 (by decide))
  rw [← hT.out] at htt
  have HTT := Lib.hid htt
  have HA1 := Lib.hid A1; have HC1 := Lib.hid C1
  clear B1 htt A1 C1
  go_wp2_with fail
  refine HTT.out.mono ?_
  rintro e v2 ⟨rfl, B2⟩
  have A2 := HA1.out.on B2
  have C2 := HC1.out.on B2
  obtain ⟨k0, k1, k2⟩ := A2.cells3
  obtain ⟨kk0, kk1, kk2⟩ := C2.cells3
  have BB2 := Lib.hid (BB1.out.trans (B2.mono BB1.out.size))
  have his := is2_c t t a5 b5 a2 b3 n5 c5 m5 d5 n2 c2 m2 d2 P Q _ _ v2 (G1.out.below B2) (H1.out.below B2) (E1.out.below B2) (F1.out.below B2) (by omega) (by omega)
  rw [decide_eq_true ⟨rfl, rfl, rfl⟩] at his
  have HIS := Lib.hid his
  clear B2 his A2 C2 z0 z1 z2 zz0 zz1 zz2
  go_wp2_with fail
  refine HIS.out.mono ?_
  rintro e v3 ⟨rfl, B3⟩
  go_wp2_with fail
  go_ret
  exact ⟨rfl, BB2.out.trans (B3.mono BB2.out.size)⟩
end Go.Proofs.YtgjndondonehhaaDoor
