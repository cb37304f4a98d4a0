/-
  The walk of NatForm.
-/
import Derived.Test.YtgjndondonehhaaDoorNatHelp2
import Derived.Test.YtgjndondonehhaaDoorNatZeros
import Derived.Test.YtgjndondonehhaaDoorNatBitLen
import Derived.Test.YtgjndondonehhaaDoorNatGcdN
namespace Go.Proofs.YtgjndondonehhaaDoor
open Go.RowKit NatMath

set_option maxHeartbeats 6400000 in
set_option maxRecDepth 100000 in
theorem form_c (ao : Option Addr) (n c : Nat) (xs : List Int) (bo : Option Addr) (m d : Nat) (ys : List Int) (z : Int) (w : World)
    (h : Lst .u32 w ao n c xs) (h0 : ao = none → c = 0) (k : Lst .u32 w bo m d ys) (k0 : bo = none → d = 0) (htab : Tab w) :
    Calls Tryd.prog 6 #[.slice ao n c, .slice bo m d, .int .i64 z] w fun e w' => e = .returned (.bool true) ∧ Below w.heap.size w w' := by
  obtain ⟨i0, hi, hz0, hz1, hz2⟩ := info_parts info60
  have HT := Lib.hid htab; clear htab
  obtain ⟨p, hp3, hp⟩ := and3 z
  obtain ⟨q, hq3, hq⟩ := and3 (z / 4)
  go_enter Tryd.func6, Tryd.ntmps6
  go_wp2_with fail
  refine (short_c _ _ _ xs 6 _ h).mono ?_
  rintro e w' ⟨rfl, n1, hn1, rfl, A⟩
  go_wp2_with fail
  refine (short_c _ _ _ ys 6 _ k).mono ?_
  rintro e w' ⟨rfl, n2, hn2, rfl, B⟩
  clear h k
  obtain ⟨X, hX⟩ : ∃ X, Hid (X = xs.take 6) := ⟨_, rfl⟩
  obtain ⟨Y, hY⟩ : ∃ Y, Hid (Y = ys.take 6) := ⟨_, rfl⟩
  rw [← hX.out] at A
  rw [← hY.out] at B
  have H0 := Lib.hid h0
  have K0 := Lib.hid k0
  clear h0 k0
  go_wp2_with (at_builtin; refine wpList_append_lst rfl _ _ rfl w.heap.size _ 0 [] rfl (World.ownsRow_nil _ _ _ _) ao n1 c X rfl A H0.out (by omega) (by omega) (Nat.le_refl _) ?_)
  intro a1 c1 w1 r1 g1
  have s1 : w.heap.size ≤ w1.heap.size := g1.size
  have u1 : ∀ g, (Value.slice a1 n1 c1).ownBlock = some g → w.heap.size ≤ g := fun g hg => (World.ownsRow.lt r1 g hg).1
  have bb : Below w.heap.size w w1 := (Below.refl _ _).grown g1 (Nat.le_refl _) (fun k hk => by cases hk)
  clear g1
  go_wp2_with (at_builtin; refine wpList_append_zeros rfl _ _ rfl w.heap.size _ n1 X rfl r1 p rfl hp3 (by omega) s1 ?_)
  intro a2 c2 w2 r2 g2
  have o2 : Own 75 .u32 w.heap.size w2 a2 (n1 + p) c2 (X ++ List.replicate p 0) := ⟨by rw [List.map_append, List.map_replicate]; exact r2, fun x hx => by
    rcases List.mem_append.1 hx with hx | hx
    · exact A.wf x hx
    · rw [List.eq_of_mem_replicate hx]; exact wf_u32 (by omega) (by omega)⟩
  replace bb := bb.grown g2 s1 u1
  replace A := A.below bb
  replace B := B.below bb
  have C := o2.lst
  have s2 := bb.size
  clear r1 s1 u1 r2 g2 o2
  go_wp2_with (at_builtin; refine wpList_append_lst rfl _ _ rfl w2.heap.size _ 0 [] rfl (World.ownsRow_nil _ _ _ _) bo n2 d Y rfl B K0.out (by omega) (by omega) (Nat.le_refl _) ?_)
  intro a3 c3 w3 r3 g3
  have s3 : w2.heap.size ≤ w3.heap.size := g3.size
  have u3 : ∀ g, (Value.slice a3 n2 c3).ownBlock = some g → w2.heap.size ≤ g := fun g hg => (World.ownsRow.lt r3 g hg).1
  have b3 : Below w2.heap.size w2 w3 := (Below.refl _ _).grown g3 (Nat.le_refl _) (fun k hk => by cases hk)
  clear g3
  go_wp2_with (at_builtin; refine wpList_append_zeros rfl _ _ rfl w2.heap.size _ n2 Y rfl r3 q rfl hq3 (by omega) s3 ?_)
  intro a4 c4 w4 r4 g4
  have o4 : Own 75 .u32 w2.heap.size w4 a4 (n2 + q) c4 (Y ++ List.replicate q 0) := ⟨by rw [List.map_append, List.map_replicate]; exact r4, fun x hx => by
    rcases List.mem_append.1 hx with hx | hx
    · exact B.wf x hx
    · rw [List.eq_of_mem_replicate hx]; exact wf_u32 (by omega) (by omega)⟩
  replace b3 := b3.grown g4 s3 u3
  replace A := A.below b3; replace B := B.below b3; replace C := C.below b3
  have D := o4.lst
  replace bb := Below.on bb b3 bb.size
  have hvC : val (X ++ List.replicate p 0) = val X := val_zeros_end X p
  have hvD : val (Y ++ List.replicate q 0) = val Y := val_zeros_end Y q
  obtain ⟨X', hX'⟩ : ∃ X', X' = X ++ List.replicate p 0 := ⟨_, rfl⟩
  obtain ⟨Y', hY'⟩ : ∃ Y', Y' = Y ++ List.replicate q 0 := ⟨_, rfl⟩
  obtain ⟨N, hN⟩ : ∃ N, N = n1 + p := ⟨_, rfl⟩
  obtain ⟨M, hM⟩ : ∃ M, M = n2 + q := ⟨_, rfl⟩
  rw [← hX', ← hN] at C
  rw [← hY', ← hM] at D
  rw [← hX'] at hvC
  rw [← hY'] at hvD
  rw [← hN, ← hM]
  have hNb : N ≤ 9 := by omega
  have hMb : M ≤ 9 := by omega
  have HVC := Lib.hid hvC
  have HVD := Lib.hid hvD
  have BX := Lib.hid (val_lt_two A.ok A.len hn1)
  clear s2 s3 u3 r3 r4 g4 o4 b3 hX' hY' hN hM hvC hvD hp hq hp3 hq3

  have HT4 := HT
  obtain ⟨bs, hbs⟩ : ∃ bs, Hid (bs = decide (val Y ≤ val X)) := ⟨_, rfl⟩
  have hne : (bs != bs) = false := by simp
  have hsub := sub_c _ _ _ _ _ _ X Y w4 A B (by omega)
  rw [← hbs.out] at hsub
  have HC := Lib.hid (hsub)
  go_wp2_with fail
  refine HC.out.mono ?_
  rintro e v1 ⟨a5, l5, c5, rfl, o5, k1⟩
  clear HC
  have S1 := o5.lst
  replace A := A.below k1; replace B := B.below k1; replace C := C.below k1; replace D := D.below k1
  replace bb := Below.on bb k1 bb.size
  clear k1
  clear hsub o5
  have hsub := sub_c _ _ _ _ _ _ X' Y' v1 C D (by omega)
  rw [HVC.out, HVD.out, ← hbs.out] at hsub
  have HC := Lib.hid (hsub)
  go_wp2_with fail
  refine HC.out.mono ?_
  rintro e v2 ⟨a6, l6, c6, rfl, o6, k2⟩
  clear HC
  have S2 := o6.lst
  replace A := A.below k2; replace B := B.below k2; replace C := C.below k2; replace D := D.below k2; replace S1 := S1.below k2
  replace bb := Below.on bb k2 bb.size
  clear k2
  clear hsub o6
  obtain ⟨bd, hbd⟩ : ∃ bd, Hid (bd = decide (val Y ≠ 0)) := ⟨_, rfl⟩
  have hne2 : (bd != bd) = false := by simp
  have hdiv := divAny_c _ _ _ _ _ _ X Y v2 A B (by omega)
  rw [← hbd.out] at hdiv
  have HC := Lib.hid (hdiv)
  go_wp2_with fail
  refine HC.out.mono ?_
  rintro e v3 ⟨a7, l7, c7, a8, l8, c8, rfl, o7, o8, k3⟩
  clear HC
  have Q1 := o7.lst
  have R1 := o8.lst
  replace A := A.below k3; replace B := B.below k3; replace C := C.below k3; replace D := D.below k3; replace S1 := S1.below k3; replace S2 := S2.below k3
  replace bb := Below.on bb k3 bb.size
  clear k3
  clear hdiv o7 o8
  have hdiv := divAny_c _ _ _ _ _ _ X' Y' v3 C D (by omega)
  rw [HVC.out, HVD.out, ← hbd.out] at hdiv
  have HC := Lib.hid (hdiv)
  go_wp2_with fail
  refine HC.out.mono ?_
  rintro e v4 ⟨a9, l9, c9, a10, l10, c10, rfl, o7, o8, k4⟩
  clear HC
  have Q2 := o7.lst
  have R2 := o8.lst
  replace A := A.below k4; replace B := B.below k4; replace C := C.below k4; replace D := D.below k4; replace S1 := S1.below k4; replace S2 := S2.below k4; replace Q1 := Q1.below k4; replace R1 := R1.below k4
  replace bb := Below.on bb k4 bb.size
  clear k4
  clear hdiv o7 o8
  have HC := Lib.hid (eq_same _ _ _ _ _ _ _ _ v4 S1 S2 rfl)
  go_wp2_with fail
  refine HC.out.mono ?_
  rintro e w' ⟨rfl, q5, rfl⟩
  clear HC
  clear S1 S2
  replace A := A.drewN q5; replace B := B.drewN q5; replace C := C.drewN q5; replace D := D.drewN q5; replace Q1 := Q1.drewN q5; replace R1 := R1.drewN q5; replace Q2 := Q2.drewN q5; replace R2 := R2.drewN q5
  replace bb := below_drewN bb q5
  generalize v4.drewN q5 = v5 at *
  have HC := Lib.hid (eq_same _ _ _ _ _ _ _ _ v5 Q1 Q2 rfl)
  go_wp2_with fail
  refine HC.out.mono ?_
  rintro e w' ⟨rfl, q6, rfl⟩
  clear HC
  clear Q1 Q2
  replace A := A.drewN q6; replace B := B.drewN q6; replace C := C.drewN q6; replace D := D.drewN q6; replace R1 := R1.drewN q6; replace R2 := R2.drewN q6
  replace bb := below_drewN bb q6
  generalize v5.drewN q6 = v6 at *
  have HC := Lib.hid (eq_same _ _ _ _ _ _ _ _ v6 R1 R2 rfl)
  go_wp2_with fail
  refine HC.out.mono ?_
  rintro e w' ⟨rfl, q7, rfl⟩
  clear HC
  clear R1 R2
  replace A := A.drewN q7; replace B := B.drewN q7; replace C := C.drewN q7; replace D := D.drewN q7
  replace bb := below_drewN bb q7
  generalize v6.drewN q7 = v7 at *
  have HC := Lib.hid (awake_c v7 (HT.out.below bb))
  go_wp2_with fail
  refine HC.out.mono ?_
  rintro e v8 ⟨rfl, k8⟩
  clear HC
  replace A := A.below k8; replace B := B.below k8; replace C := C.below k8; replace D := D.below k8
  replace bb := Below.on bb k8 bb.size
  clear k8
  have hnx := norm_c _ _ _ X' v8 C (by omega)
  rw [HVC.out] at hnx
  have HC := Lib.hid (hnx)
  go_wp2_with fail
  refine HC.out.mono ?_
  rintro e v9 ⟨a11, l11, c11, _, rfl, o11, k9⟩
  clear HC
  have S1 := o11.lst
  replace A := A.below k9; replace B := B.below k9; replace C := C.below k9; replace D := D.below k9
  replace bb := Below.on bb k9 bb.size
  clear k9
  clear hnx o11
  have HC := Lib.hid (norm_c _ _ _ X v9 A (by omega))
  go_wp2_with fail
  refine HC.out.mono ?_
  rintro e v10 ⟨a12, l12, c12, _, rfl, o12, k10⟩
  clear HC
  have S2 := o12.lst
  replace A := A.below k10; replace B := B.below k10; replace C := C.below k10; replace D := D.below k10; replace S1 := S1.below k10
  replace bb := Below.on bb k10 bb.size
  clear k10
  clear o12
  have HC := Lib.hid (eq_same _ _ _ _ _ _ _ _ v10 S1 S2 rfl)
  go_wp2_with fail
  refine HC.out.mono ?_
  rintro e w' ⟨rfl, q11, rfl⟩
  clear HC
  clear S1 S2
  replace A := A.drewN q11; replace B := B.drewN q11; replace C := C.drewN q11; replace D := D.drewN q11
  replace bb := below_drewN bb q11
  generalize v10.drewN q11 = v11 at *
  have hnx := norm_c _ _ _ X' v11 C (by omega)
  rw [HVC.out] at hnx
  have HC := Lib.hid (hnx)
  go_wp2_with fail
  refine HC.out.mono ?_
  rintro e v12 ⟨a13, l13, c13, _, rfl, o13, k12⟩
  clear HC
  have S1 := o13.lst
  replace A := A.below k12; replace B := B.below k12; replace C := C.below k12; replace D := D.below k12
  replace bb := Below.on bb k12 bb.size
  clear k12
  clear hnx o13
  have HC := Lib.hid (from_c _ _ _ X v12 A (by omega))
  go_wp2_with fail
  refine HC.out.mono ?_
  rintro e v13 ⟨a14, l14, c14, rfl, o14, k13⟩
  clear HC
  have F1 := o14.lst
  have hl14 := o14.bound BX.out
  replace A := A.below k13; replace B := B.below k13; replace C := C.below k13; replace D := D.below k13; replace S1 := S1.below k13
  replace bb := Below.on bb k13 bb.size
  clear k13
  clear o14
  have HC := Lib.hid (is_c _ _ _ _ _ _ _ _ v13 S1 F1 (by omega) (bval_bitsN _))
  go_wp2_with fail
  refine HC.out.mono ?_
  rintro e v14 ⟨rfl, k14⟩
  clear HC
  replace A := A.below k14; replace B := B.below k14; replace C := C.below k14; replace D := D.below k14; replace S1 := S1.below k14; replace F1 := F1.below k14
  replace bb := Below.on bb k14 bb.size
  clear k14
  clear S1 F1
  obtain ⟨cg, hcg⟩ : ∃ cg, Hid (cg = cmpI (val X : Int) (val Y : Int)) := ⟨_, rfl⟩
  have hgg : (cg == cg) = true := by simp
  have hcx := cmp_c _ _ _ _ _ _ X' Y' v14 C D
  rw [HVC.out, HVD.out, ← hcg.out] at hcx
  have HC := Lib.hid (hcx)
  go_wp2_with fail
  refine HC.out.mono ?_
  rintro e w' ⟨rfl, q15, rfl⟩
  clear HC
  replace A := A.drewN q15; replace B := B.drewN q15; replace C := C.drewN q15; replace D := D.drewN q15
  replace bb := below_drewN bb q15
  generalize v14.drewN q15 = v15 at *
  clear hcx
  have hcx := cmp_c _ _ _ _ _ _ X Y v15 A B
  rw [← hcg.out] at hcx
  have HC := Lib.hid (hcx)
  go_wp2_with fail
  refine HC.out.mono ?_
  rintro e w' ⟨rfl, q16, rfl⟩
  clear HC
  replace A := A.drewN q16; replace B := B.drewN q16; replace C := C.drewN q16; replace D := D.drewN q16
  replace bb := below_drewN bb q16
  generalize v15.drewN q16 = v16 at *
  clear hcx
  obtain ⟨Ln, hLn⟩ : ∃ Ln, Hid ((bitsN (val X)).length = Ln) := ⟨_, rfl⟩
  have hbx := bits_c _ _ _ X' v16 C (by omega)
  rw [HVC.out, hLn.out] at hbx
  have HC := Lib.hid (hbx)
  go_wp2_with fail
  refine HC.out.mono ?_
  rintro e w' ⟨rfl, rfl⟩
  clear HC
  clear hbx
  have HC := Lib.hid (from_c _ _ _ X v16 A (by omega))
  go_wp2_with fail
  refine HC.out.mono ?_
  rintro e v17 ⟨a15, l15, c15, rfl, o15, k17⟩
  clear HC
  have hl15 : l15 = Ln := o15.len.symm.trans hLn.out
  subst hl15
  replace A := A.below k17; replace B := B.below k17; replace C := C.below k17; replace D := D.below k17
  replace bb := Below.on bb k17 bb.size
  clear k17
  clear o15
  obtain ⟨T, hT⟩ : ∃ T : ByteArray, Hid (T = ⟨(Lib.decDigits (val X)).toArray⟩) := ⟨_, rfl⟩
  have htx := text_c _ _ _ X' v17 C (by omega) (HT4.out.below bb)
  rw [HVC.out, ← hT.out] at htx
  have HC := Lib.hid (htx)
  go_wp2_with fail
  refine HC.out.mono ?_
  rintro e v18 ⟨rfl, k18⟩
  clear HC
  replace A := A.below k18; replace B := B.below k18; replace C := C.below k18; replace D := D.below k18
  replace bb := Below.on bb k18 bb.size
  clear k18
  clear htx
  have htx := text_c _ _ _ X v18 A (by omega) (HT4.out.below bb)
  rw [← hT.out] at htx
  have HC := Lib.hid (htx)
  go_wp2_with fail
  refine HC.out.mono ?_
  rintro e v19 ⟨rfl, k19⟩
  clear HC
  replace A := A.below k19; replace B := B.below k19; replace C := C.below k19; replace D := D.below k19
  replace bb := Below.on bb k19 bb.size
  clear k19
  clear htx
  have hmx := mul_c _ _ _ _ _ _ X' Y' v19 C D (by omega) (by omega)
  rw [HVC.out, HVD.out] at hmx
  have HC := Lib.hid (hmx)
  go_wp2_with fail
  refine HC.out.mono ?_
  rintro e v20 ⟨a16, l16, c16, rfl, _, o16, k20⟩
  clear HC
  have S1 := o16.lst
  replace A := A.below k20; replace B := B.below k20; replace C := C.below k20; replace D := D.below k20
  replace bb := Below.on bb k20 bb.size
  clear k20
  clear hmx o16
  have HC := Lib.hid (mul_c _ _ _ _ _ _ X Y v20 A B (by omega) (by omega))
  go_wp2_with fail
  refine HC.out.mono ?_
  rintro e v21 ⟨a17, l17, c17, rfl, _, o17, k21⟩
  clear HC
  have S2 := o17.lst
  replace A := A.below k21; replace B := B.below k21; replace C := C.below k21; replace D := D.below k21; replace S1 := S1.below k21
  replace bb := Below.on bb k21 bb.size
  clear k21
  clear o17
  have HC := Lib.hid (eq_same _ _ _ _ _ _ _ _ v21 S1 S2 rfl)
  go_wp2_with fail
  refine HC.out.mono ?_
  rintro e w' ⟨rfl, q22, rfl⟩
  clear HC
  clear S1 S2
  replace A := A.drewN q22; replace B := B.drewN q22; replace C := C.drewN q22; replace D := D.drewN q22
  replace bb := below_drewN bb q22
  generalize v21.drewN q22 = v22 at *
  have hmx := gcd_c _ _ _ _ _ _ X' Y' v22 C D (by omega) (by omega)
  rw [HVC.out, HVD.out] at hmx
  have HC := Lib.hid (hmx)
  go_wp2_with fail
  refine HC.out.mono ?_
  rintro e v23 ⟨a18, l18, c18, rfl, o18, k23⟩
  clear HC
  have S1 := o18.lst
  replace A := A.below k23; replace B := B.below k23; replace C := C.below k23; replace D := D.below k23
  replace bb := Below.on bb k23 bb.size
  clear k23
  clear hmx o18
  have HC := Lib.hid (gcd_c _ _ _ _ _ _ X Y v23 A B (by omega) (by omega))
  go_wp2_with fail
  refine HC.out.mono ?_
  rintro e v24 ⟨a19, l19, c19, rfl, o19, k24⟩
  clear HC
  have S2 := o19.lst
  replace A := A.below k24; replace B := B.below k24; replace C := C.below k24; replace D := D.below k24; replace S1 := S1.below k24
  replace bb := Below.on bb k24 bb.size
  clear k24
  clear o19
  have HC := Lib.hid (eq_same _ _ _ _ _ _ _ _ v24 S1 S2 rfl)
  go_wp2_with fail
  refine HC.out.mono ?_
  rintro e w' ⟨rfl, q25, rfl⟩
  clear HC
  clear S1 S2
  replace A := A.drewN q25; replace B := B.drewN q25; replace C := C.drewN q25; replace D := D.drewN q25
  replace bb := below_drewN bb q25
  generalize v24.drewN q25 = v25 at *
  go_wp2_with fail
  go_ret
  exact ⟨by simp, bb⟩
end Go.Proofs.YtgjndondonehhaaDoor
