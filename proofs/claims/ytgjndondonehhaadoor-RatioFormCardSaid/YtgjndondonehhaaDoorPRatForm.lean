import Derived.Test.YtgjndondonehhaaDoorPk2
/-
  The walk of RatioForm.
-/
namespace Go.Proofs.YtgjndondonehhaaDoor
open Go.RowKit NatMath RatMath

set_option maxHeartbeats 6400000 in
set_option maxRecDepth 100000 in
theorem rform_c (s : Bool) (ao bo : Option Addr) (n c m d : Nat) (xs ys : List Int) (w : World) (h : Lst .u32 w ao n c xs) (k : Lst .u32 w bo m d ys) (htab : Tab w) :
    Calls Tryd.prog 7 #[.agg #[.bool s, .slice ao n c, .slice bo m d]] w fun e w' => e = .returned (.bool true) ∧ Below w.heap.size w w' := by
  have HT := Lib.hid htab
  have H := Lib.hid h; have K := Lib.hid k
  clear h k htab
  go_enter Tryd.func7, Tryd.ntmps7
  go_wp2_with fail
  have kA := Blk.new w 47 #[.bool s, .slice ao n c, .slice bo m d]
  have bb := (Below.refl w.heap.size w).alloc (Nat.le_refl _) (.cells #[.bool s, .slice ao n c, .slice bo m d] 47)
  obtain ⟨W0, hW0⟩ : ∃ W0, W0 = w.alloc (.cells #[.bool s, .slice ao n c, .slice bo m d] 47) := ⟨_, rfl⟩
  rw [← hW0] at kA bb ⊢
  clear hW0
  refine (short2_c s ao bo n c m d xs ys 3 W0 (H.out.below bb) (K.out.below bb)).mono ?_
  rintro e w1 ⟨n1, m1, rfl, hn1, hm1, l1, l2, B1⟩
  have M1 := H.out.retake l1
  have M2 := K.out.retake l2
  have k1 := kA.on B1
  have b1 := bb.trans (B1.mono bb.size)
  obtain ⟨q0, q1, q2, q3, q4, q5⟩ := k1.store3 (.bool s) (.slice ao n1 c)
  clear l1 l2 kA bb B1
  obtain ⟨X, hX⟩ : ∃ X, Hid (X = xs.take 3) := ⟨_, rfl⟩
  obtain ⟨Y, hY⟩ : ∃ Y, Hid (Y = ys.take 3) := ⟨_, rfl⟩
  rw [← hX.out] at M1
  rw [← hY.out] at M2
  have P1 := Lib.hid M1; have P2 := Lib.hid M2; have K1 := Lib.hid k1; have B1 := Lib.hid b1
  clear M1 M2 k1 b1 H K hX hY
  go_wp2_with fail
  have k2 := K1.out.put3 (.bool s) (.slice ao n1 c) (.slice bo m1 d)
  have b2 := below_put3 B1.out (Nat.le_refl _) (.bool s) (.slice ao n1 c) (.slice bo m1 d)
  change Calls _ _ _ (put3 w1 w.heap.size (.bool s) (.slice ao n1 c) (.slice bo m1 d)) _
  obtain ⟨W1, hW1⟩ : ∃ W1, W1 = put3 w1 w.heap.size (.bool s) (.slice ao n1 c) (.slice bo m1 d) := ⟨_, rfl⟩
  rw [← hW1] at k2 b2 ⊢
  clear hW1 q0 q1 q2 q3 q4 q5 K1 B1
  obtain ⟨z, hz⟩ : ∃ z, Hid (z = nf ⟨s, val X, val Y⟩) := ⟨_, rfl⟩
  have hfr := from2b_c s ao bo n1 c m1 d X Y 3 W1 (P1.out.below b2) (P2.out.below b2) hn1 hm1 (by omega)
  rw [← hz.out] at hfr
  refine hfr.mono ?_
  rintro e w2 ⟨t, a2, n2, c2, b3, m2, d2, rfl, rfl, o1, o2, hn2, hm2, B2⟩
  have k3 := k2.on B2
  have b4 := b2.trans (B2.mono b2.size)
  clear k2 b2 hfr
  have kX := Blk.new w2 50 #[.bool z.s, .slice a2 n2 c2, .slice b3 m2 d2]
  have k4 := k3.alloc (.cells #[.bool z.s, .slice a2 n2 c2, .slice b3 m2 d2] 50)
  have b5 := b4.alloc b4.size (.cells #[.bool z.s, .slice a2 n2 c2, .slice b3 m2 d2] 50)
  have x1 := o1.lst.below ((Below.refl w2.heap.size w2).alloc (Nat.le_refl _) (.cells #[.bool z.s, .slice a2 n2 c2, .slice b3 m2 d2] 50))
  have x2 := o2.lst.below ((Below.refl w2.heap.size w2).alloc (Nat.le_refl _) (.cells #[.bool z.s, .slice a2 n2 c2, .slice b3 m2 d2] 50))
  obtain ⟨g, hg⟩ : ∃ g, Hid (g = w2.heap.size) := ⟨_, rfl⟩
  clear B2 o1 o2 k3 b4
  go_wp2_with fail
  obtain ⟨W2, hW2⟩ : ∃ W2, W2 = w2.alloc (.cells #[.bool z.s, .slice a2 n2 c2, .slice b3 m2 d2] 50) := ⟨_, rfl⟩
  rw [← hW2] at kX k4 b5 x1 x2 ⊢
  rw [← hg.out] at kX ⊢
  obtain ⟨V, hV⟩ : ∃ V, Hid (V = validR s X Y) := ⟨_, rfl⟩
  have hVV : V = decide (s = z.s ∧ X = limbs z.p ∧ Y = limbs z.q) := by rw [hV.out, hz.out]; rfl
  have HVV := Lib.hid hVV
  clear hVV
  have DA : Hid (Blk W2.drew w.heap.size 47 #[.bool s, .slice ao n1 c, .slice bo m1 d]) := k4
  have DC : Hid (Blk W2.drew g 50 #[.bool z.s, .slice a2 n2 c2, .slice b3 m2 d2]) := kX
  have DB : Hid (Below w.heap.size w W2.drew) := b5.drew
  have DX1 : Hid (LstB W2.drew a2 n2 c2 (bitsN z.p)) := x1.drewN 1
  have DX2 : Hid (LstB W2.drew b3 m2 d2 (bitsN z.q)) := x2.drewN 1
  obtain ⟨y0, y1, y2⟩ := k4.cells3
  obtain ⟨yy0, yy1, yy2⟩ := kX.cells3
  clear kX k4 b5 x1 x2 hW2 hg
  go_region_held3 (fun w' => w'.cell? ⟨w.heap.size, 0, none⟩ = some (.bool s) ∧ w'.cell? ⟨w.heap.size, 1, none⟩ = some (.slice ao n1 c) ∧ w'.cell? ⟨w.heap.size, 2, none⟩ = some (.slice bo m1 d) ∧ w'.cell? ⟨g, 0, none⟩ = some (.bool z.s) ∧ w'.cell? ⟨g, 1, none⟩ = some (.slice a2 n2 c2) ∧ w'.cell? ⟨g, 2, none⟩ = some (.slice b3 m2 d2)) (go_keep) (first
    | (go_at_call 31; refine (awake2_c W2.drew (HT.out.below DB.out)).mono ?_; rintro e v1 ⟨rfl, B1⟩; have A1 := DA.out.on B1; have C1 := DC.out.on B1; obtain ⟨z0, z1, z2⟩ := A1.cells3; obtain ⟨zz0, zz1, zz2⟩ := C1.cells3; have BB1 := DB.out.trans (B1.mono DB.out.size); have E1 := Lib.hid (DX1.out.below B1); have F1 := Lib.hid (DX2.out.below B1); clear B1)
    | (go_at_call 33; have hmk := make_c s ao bo n1 c m1 d X Y v1 (P1.out.below BB1) (P2.out.below BB1) (by omega) (by omega); rw [← hz.out] at hmk; refine hmk.mono ?_; rintro e v2 ⟨s3, a3, n3, c3, b4, m3, d3, rfl, rfl, o3, o4, _, _, B2⟩; clear hmk; have A2 := A1.on B2; have C2 := C1.on B2; obtain ⟨k0, k1, k2⟩ := A2.cells3; obtain ⟨kk0, kk1, kk2⟩ := C2.cells3; have BB2 := BB1.trans (B2.mono BB1.size); have E2 := Lib.hid (E1.out.below B2); have F2 := Lib.hid (F1.out.below B2); have O3 := Lib.hid o3.lst; have O4 := Lib.hid o4.lst; clear o3 o4 B2)
    | (go_at_call 32; have his := is2_c z.s z.s a3 b4 a2 b3 n3 c3 m3 d3 n2 c2 m2 d2 z.p z.q _ _ v2 O3.out O4.out E2.out F2.out (by omega) (by omega); rw [decide_eq_true ⟨rfl, rfl, rfl⟩] at his; refine his.mono ?_; rintro e v3 ⟨rfl, B3⟩; clear his; have A3 := A2.on B3; have C3 := C2.on B3; obtain ⟨l0, l1, l2⟩ := A3.cells3; obtain ⟨ll0, ll1, ll2⟩ := C3.cells3; have BB3 := BB2.trans (B3.mono BB2.size); have E3 := Lib.hid (E2.out.below B3); have F3 := Lib.hid (F2.out.below B3); clear B3)
    | (go_at_call 34; have hva := valid_c s ao bo n1 c m1 d X Y v3 (P1.out.below BB3) (P2.out.below BB3) (by omega) (by omega); rw [← hV.out] at hva; refine hva.mono ?_; rintro e v4 ⟨rfl, B4⟩; clear hva; have A4 := A3.on B4; have C4 := C3.on B4; obtain ⟨i0, i1, i2⟩ := A4.cells3; obtain ⟨ii0, ii1, ii2⟩ := C4.cells3; have BB4 := BB3.trans (B4.mono BB3.size); have E4 := Lib.hid (E3.out.below B4); have F4 := Lib.hid (F3.out.below B4); clear B4)
    | (go_at_call 36; refine (to2_c z.s a2 b3 n2 c2 m2 d2 z.p z.q v4 E4.out F4.out (by omega) (by omega)).mono ?_; rintro e v5 ⟨a6, n6, c6, b6, m6, d6, rfl, o5, o6, B5⟩; have A5 := A4.on B5; have C5 := C4.on B5; obtain ⟨j0, j1, j2⟩ := A5.cells3; obtain ⟨jj0, jj1, jj2⟩ := C5.cells3; have BB5 := BB4.trans (B5.mono BB4.size); have O5 := Lib.hid o5.lst; have O6 := Lib.hid o6.lst; clear o5 o6 B5)
    | (go_at_call 35; have heq := eq2_c s z.s ao bo a6 b6 n1 c m1 d n6 c6 m6 d6 X Y (limbs z.p) (limbs z.q) v5 (P1.out.below BB5) (P2.out.below BB5) O5.out O6.out; rw [← HVV.out] at heq; refine heq.mono ?_; rintro e v6 ⟨rfl, B6⟩; clear heq; have A6 := A5.on B6; have C6 := C5.on B6; obtain ⟨h0, h1, h2⟩ := A6.cells3; obtain ⟨hh0, hh1, hh2⟩ := C6.cells3; have BB6 := BB5.trans (B6.mono BB5.size); clear B6))
  go_wp2_with fail
  go_ret
  exact ⟨rfl, BB6⟩
end Go.Proofs.YtgjndondonehhaaDoor
