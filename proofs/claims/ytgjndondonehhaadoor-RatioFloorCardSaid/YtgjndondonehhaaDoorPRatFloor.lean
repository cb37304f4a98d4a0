import Derived.Test.YtgjndondonehhaaDoorPk2
/-
  The walk of RatioFloor.
-/
namespace Go.Proofs.YtgjndondonehhaaDoor
open Go.RowKit NatMath RatMath

set_option maxHeartbeats 6400000 in
set_option maxRecDepth 100000 in
theorem rfloorlaw_c (s : Bool) (ao bo : Option Addr) (n c m d : Nat) (xs ys : List Int) (w : World) (h : Lst .u32 w ao n c xs) (k : Lst .u32 w bo m d ys) (htab : Tab w) :
    Calls Tryd.prog 9 #[.agg #[.bool s, .slice ao n c, .slice bo m d]] w fun e w' => e = .returned (.bool true) ∧ Below w.heap.size w w' := by
  have HT := Lib.hid htab
  have H := Lib.hid h; have K := Lib.hid k
  clear h k htab
  go_enter Tryd.func9, Tryd.ntmps9
  go_wp2_with fail
  have kA := Blk.new w 47 #[.bool s, .slice ao n c, .slice bo m d]
  have bb := (Below.refl w.heap.size w).alloc (Nat.le_refl _) (.cells #[.bool s, .slice ao n c, .slice bo m d] 47)
  obtain ⟨W0, hW0⟩ : ∃ W0, W0 = w.alloc (.cells #[.bool s, .slice ao n c, .slice bo m d] 47) := ⟨_, rfl⟩
  rw [← hW0] at kA bb ⊢
  clear hW0
  refine (short2_c s ao bo n c m d xs ys 3 W0 (H.out.below bb) (K.out.below bb)).mono ?_
  rintro e w1 ⟨n1, m1, rfl, hn1, hm1, l1, l2, B1⟩
  have M1 := H.out.retake l1
  have M2 := K.out.retake l2
  have k1 := kA.on B1
  have b1 := bb.trans (B1.mono bb.size)
  obtain ⟨q0, q1, q2, q3, q4, q5⟩ := k1.store3 (.bool s) (.slice ao n1 c)
  clear l1 l2 kA bb B1
  obtain ⟨X, hX⟩ : ∃ X, Hid (X = xs.take 3) := ⟨_, rfl⟩
  obtain ⟨Y, hY⟩ : ∃ Y, Hid (Y = ys.take 3) := ⟨_, rfl⟩
  rw [← hX.out] at M1
  rw [← hY.out] at M2
  have P1 := Lib.hid M1; have P2 := Lib.hid M2; have K1 := Lib.hid k1; have B1 := Lib.hid b1
  clear M1 M2 k1 b1 H K hX hY
  go_wp2_with fail
  have k2 := K1.out.put3 (.bool s) (.slice ao n1 c) (.slice bo m1 d)
  have b2 := below_put3 B1.out (Nat.le_refl _) (.bool s) (.slice ao n1 c) (.slice bo m1 d)
  change Calls _ _ _ (put3 w1 w.heap.size (.bool s) (.slice ao n1 c) (.slice bo m1 d)) _
  obtain ⟨W1, hW1⟩ : ∃ W1, W1 = put3 w1 w.heap.size (.bool s) (.slice ao n1 c) (.slice bo m1 d) := ⟨_, rfl⟩
  rw [← hW1] at k2 b2 ⊢
  clear hW1 q0 q1 q2 q3 q4 q5 K1 B1
  obtain ⟨t, P, Q, hz⟩ : ∃ t P Q, Hid (nf ⟨s, val X, val Y⟩ = ⟨t, P, Q⟩) := ⟨_, _, _, rfl⟩
  have hQ : Hid (0 < Q) := by
    have := nf_q ⟨s, val X, val Y⟩
    rw [hz.out] at this
    exact Nat.pos_of_ne_zero this
  have hfr := from2b_c s ao bo n1 c m1 d X Y 3 W1 (P1.out.below b2) (P2.out.below b2) hn1 hm1 (by omega)
  rw [hz.out] at hfr
  dsimp only at hfr
  refine hfr.mono ?_
  rintro e w2 ⟨t, a2, n2, c2, b3, m2, d2, rfl, rfl, o1, o2, hn2, hm2, B2⟩
  have k3 := k2.on B2
  have b4 := b2.trans (B2.mono b2.size)
  clear k2 b2 hfr
  have kX := Blk.new w2 50 #[.bool t, .slice a2 n2 c2, .slice b3 m2 d2]
  have k4 := k3.alloc (.cells #[.bool t, .slice a2 n2 c2, .slice b3 m2 d2] 50)
  have b5 := b4.alloc b4.size (.cells #[.bool t, .slice a2 n2 c2, .slice b3 m2 d2] 50)
  have x1 := o1.lst.below ((Below.refl w2.heap.size w2).alloc (Nat.le_refl _) (.cells #[.bool t, .slice a2 n2 c2, .slice b3 m2 d2] 50))
  have x2 := o2.lst.below ((Below.refl w2.heap.size w2).alloc (Nat.le_refl _) (.cells #[.bool t, .slice a2 n2 c2, .slice b3 m2 d2] 50))
  obtain ⟨g, hg⟩ : ∃ g, Hid (g = w2.heap.size) := ⟨_, rfl⟩
  clear B2 o1 o2 k3 b4
  obtain ⟨W2, hW2⟩ : ∃ W2, W2 = w2.alloc (.cells #[.bool t, .slice a2 n2 c2, .slice b3 m2 d2] 50) := ⟨_, rfl⟩
  rw [← hW2] at kX k4 b5 x1 x2
  rw [← hg.out] at kX
  obtain ⟨y0, y1, y2⟩ := k4.cells3
  have hfl := rfloor_c s ao bo n1 c m1 d X Y W2 (P1.out.below b5) (P2.out.below b5) (by omega) (by omega)
  rw [hz.out] at hfl
  dsimp only at hfl
  have HFL := Lib.hid hfl
  have KX := Lib.hid kX; have K4 := Lib.hid k4; have B5 := Lib.hid b5; have X1 := Lib.hid x1; have X2 := Lib.hid x2
  clear hfl kX k4 b5 x1 x2
  rw [hW2] at y0 y1 y2
  have HW2 := Lib.hid hW2
  clear hW2
  go_wp2_with fail
  rw [← HW2.out, ← hg.out]
  clear y0 y1 y2
  refine HFL.out.mono ?_
  rintro e w3 ⟨a4, n4, c4, rfl, o4, B3⟩
  have kX := KX.out.on B3
  have b6 := B5.out.trans (B3.mono B5.out.size)
  have x3 := X1.out.below B3
  have x4 := X2.out.below B3
  obtain ⟨y0, y1, y2⟩ := kX.cells3
  have L4 := o4.len
  cases t with
  | true =>
    have e4 : n4 = 0 := by rw [← L4, if_pos rfl, limbs_zero]; rfl
    subst e4
    have HA := Lib.hid (awake2_c w3 (HT.out.below b6))
    have B6 := Lib.hid b6
    clear o4 B3 L4 x3 x4 kX b6
    go_wp2_with fail
    refine HA.out.mono ?_
    rintro e w4 ⟨rfl, B7⟩
    go_wp2_with fail
    go_ret
    exact ⟨rfl, B6.out.trans (B7.mono B6.out.size)⟩
  | false =>
    have O4 := Lib.hid o4
    have B6 := Lib.hid b6
    have KX3 := Lib.hid kX
    have hdv := divT_c a2 b3 n2 c2 m2 d2 _ _ w3 x3 x4 (by omega) (by omega) (by rw [bval_bitsN]; exact hQ.out)
    rw [bval_bitsN, bval_bitsN] at hdv
    have HDV := Lib.hid hdv
    clear o4 B3 L4 x3 x4 kX b6 hdv
    go_wp2_with fail
    refine HDV.out.mono ?_
    rintro e w5 ⟨a5, n5, c5, a6, n6, c6, rfl, o5, _, B5'⟩
    have O4b := Lib.hid (O4.out.kept B5')
    have B7 := Lib.hid (B6.out.trans (B5'.mono B6.out.size))
    have O5 := Lib.hid o5
    clear B5' o5
    have HA := Lib.hid (awake2_c w5 (HT.out.below B7.out))
    go_wp2_with fail
    refine HA.out.mono ?_
    rintro e w6 ⟨rfl, B8⟩
    have O4c := Lib.hid (O4b.out.kept B8)
    have O5c := Lib.hid (O5.out.kept B8)
    have B9 := Lib.hid (B7.out.trans (B8.mono B7.out.size))
    have hb5 := O5c.out.bound (k := 97) (by
      have p1 := nf_p_le ⟨s, val X, val Y⟩
      rw [hz.out] at p1
      have b1 := val_lt_two P1.out.ok P1.out.len hn1
      have b2 : P / Q ≤ P := Nat.div_le_self _ _
      have b3 : (2 : Nat) ^ (32 * 3) ≤ 2 ^ 97 := Nat.pow_le_pow_right (by omega) (by omega)
      simp only at p1
      omega)
    have HTO := Lib.hid (to_c a5 n5 c5 _ w6 O5c.out.lst (by omega))
    clear B8
    go_wp2_with fail
    refine HTO.out.mono ?_
    rintro e w7 ⟨a7, n7, c7, rfl, o7, B10⟩
    rw [bval_bitsN] at o7
    have HEQ := Lib.hid (eq_same a4 a7 n4 c4 n7 c7 _ _ w7 (O4c.out.kept B10).lst o7.lst rfl)
    have B11 := Lib.hid (B9.out.trans (B10.mono B9.out.size))
    clear B10 o7
    go_wp2_with fail
    refine HEQ.out.mono ?_
    rintro e w8 ⟨rfl, q, rfl⟩
    go_wp2_with fail
    go_ret
    exact ⟨rfl, below_drewN B11.out q⟩
end Go.Proofs.YtgjndondonehhaaDoor
