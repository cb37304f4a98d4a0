/-
  The walk of SyntaxCanon.
-/
import Derived.Test.YtaeionfhflnbpaaSynSmall
import Derived.Test.YtaeionfhflnbpaaSynAwake
import Derived.Test.YtaeionfhflnbpaaSynEqF
namespace Go.Proofs.Ytaeionfhflnbpaa
open Go.RowKit Lx

set_option maxHeartbeats 12800000 in
set_option maxRecDepth 100000 in
theorem canonLaw_c (S : ByteArray) (w : World) (_ : S.size ≤ maxLen) :
    Calls Try.prog 6 #[.string S] w fun e w' => e = .returned (.bool true) ∧ Below w.heap.size w w' := by
  obtain ⟨T, hT, hTs⟩ : ∃ T, S.extract 0 400 = T ∧ T.size ≤ 400 := ⟨_, rfl, by rw [ByteArray.size_extract]; omega⟩
  obtain ⟨P, hP, hPs⟩ : ∃ P, Hid ((if S.size ≤ 400 then S else T) = P) ∧ Hid (P.size ≤ 400) := ⟨_, rfl, by show ByteArray.size _ ≤ _; split <;> omega⟩
  have HA := Lib.hid (pParse_c P w (by have := hPs.out; omega))
  by_cases h : S.size ≤ 400
  · have hmn : min (S.size : Int) (400 : Int) = (S.size : Int) := by omega
    have hPS : S = P := by have := hP.out; rw [if_pos h] at this; exact this
    subst hPS
    go_enter Try.func6, Try.ntmps6
    go_wp2_with fail
    refine HA.out.mono ?_
    rintro e w1 ⟨hO, B1⟩
    obtain ⟨ao, m, d, rfl, BL⟩ := hO
    obtain ⟨Z, hZ⟩ : ∃ Z, Hid (parseS S = Z) := ⟨_, rfl⟩
    rw [hZ.out] at BL ⊢
    obtain ⟨s, hs⟩ : ∃ s, Hid ((outA Z).2.2 = s) := ⟨_, rfl⟩
    rw [hs.out] at BL ⊢
    obtain ⟨K, hK⟩ : ∃ K, Hid (stg s.title = K) := ⟨_, rfl⟩
    rw [hK.out]
    rcases out_cases Z with ⟨E, L, hE0, h1, h2⟩ | ⟨s', hs'⟩
    · rw [h1, h2]
      obtain ⟨V, U0, W0, U, e3, e4, e5, e6, hz, ⟨k0, k1, k2, k3⟩, ⟨l0, l1, l2, l3⟩, AV, AU, BU⟩ := new_res w1 (.string K) (.slice ao m d) (.int .i64 E) (.int .i64 L)
      have HW := Lib.hid (awake_c U)
      have y2 : U.cell? ⟨w1.heap.size + 1, 0, none⟩ = some (.int .i64 E) := AU.cell 0
      have y3 : U.cell? ⟨w1.heap.size + 1, 1, none⟩ = some (.int .i64 L) := AU.cell 1
      have HB : Hid (Below w.heap.size w U) := B1.trans (BU.mono B1.size)
      clear HA B1 BU AU AV BL h1 h2
      go_wp2_with fail
      refine HW.out.mono ?_
      rintro e w2 ⟨rfl, B2⟩
      go_wp2_with fail
      go_ret
      exact ⟨rfl, HB.out.trans (B2.mono HB.out.size)⟩
    · obtain ⟨g1, g2, g3, g4, g5, g6, g7⟩ := canon_facts hPs.out (hZ.out.trans hs')
      obtain rfl : s' = s := by rw [← hs.out, hs']; rfl
      have h1 : (outA Z).1 = 0 := by rw [hs']; rfl
      have h2 : (outA Z).2.1 = 0 := by rw [hs']; rfl
      rw [h1, h2]
      obtain ⟨V, U0, W0, U, e3, e4, e5, e6, hz, ⟨k0, k1, k2, k3⟩, ⟨l0, l1, l2, l3⟩, AV, AU, BU⟩ := new_res w1 (.string K) (.slice ao m d) (.int .i64 0) (.int .i64 0)
      obtain ⟨b1, hb1⟩ : ∃ b, Hid (w1.heap.size = b) := ⟨_, rfl⟩
      obtain ⟨R, hR⟩ : ∃ R, Hid (stg (srcP s') = R) := ⟨_, rfl⟩
      have HP1 := pPrint_c true anyF s' ao m d U (BlkL.keep BL stable_any (keeps_below _ BU)) g2
      unfold PrintOut at HP1
      rw [g1, if_pos rfl, hR.out, hK.out] at HP1
      have HP1 := Lib.hid HP1
      have y0 : U.cell? ⟨w1.heap.size, 0, none⟩ = some (.string K) := AV.cell 0
      have y1 : U.cell? ⟨w1.heap.size, 1, none⟩ = some (.slice ao m d) := AV.cell 1
      have y2 : U.cell? ⟨w1.heap.size + 1, 0, none⟩ = some (.int .i64 0) := AU.cell 0
      have y3 : U.cell? ⟨w1.heap.size + 1, 1, none⟩ = some (.int .i64 0) := AU.cell 1
      have AV := Lib.hid AV
      have BL := Lib.hid (BlkL.keep BL stable_any (keeps_below _ BU))
      have HB : Hid (Below w.heap.size w U) := B1.trans (BU.mono B1.size)
      have g2 := Lib.hid g2
      have g3 := Lib.hid g3
      have g4 := Lib.hid g4
      have g5 := Lib.hid g5
      have g6 := Lib.hid g6
      have g7 := Lib.hid g7
      clear HA B1 BU AU h1 h2 hs' g1
      go_wp2_with fail
      clear e3 e4 e5 e6 k0 k1 k2 k3 l0 l1 l2 l3 hz y0 y1 y2 y3
      rw [hb1.out] at AV ⊢
      refine HP1.out.mono ?_
      rintro e w2 ⟨rfl, B2⟩
      have HR := Lib.hid (pParse_c R w2 (by have := g7.out; rw [hR.out] at this; omega))
      have AV := Lib.hid (AV.out.kept B2)
      have BL := Lib.hid (BlkL.keep BL.out stable_any (keeps_below _ B2))
      have HB : Hid (Below w.heap.size w w2) := HB.out.trans (B2.mono HB.out.size)
      clear HP1 B2
      go_wp2_with fail
      refine HR.out.mono ?_
      rintro e w3 ⟨hO, B3⟩
      have hq : parseS R = some (.ok (srcL s')) := by rw [← hR.out]; exact g3.out
      rw [hq] at hO
      obtain ⟨ao2, m2, d2, rfl, BL2⟩ := hO
      have q1 : (outA (some (.ok (srcL s')))).1 = 0 := rfl
      have q2 : (outA (some (.ok (srcL s')))).2.1 = 0 := rfl
      have q3 : (outA (some (.ok (srcL s')))).2.2 = srcL s' := rfl
      have q4 : (srcL s').title = s'.title := rfl
      rw [q3] at BL2
      rw [q1, q2, q3, q4, hK.out]
      obtain ⟨V', U0', W0', X, e3, e4, e5, e6, hz, ⟨k0, k1, k2, k3⟩, ⟨l0, l1, l2, l3⟩, AV2, AU2, BX⟩ := new_res w3 (.string K) (.slice ao2 m2 d2) (.int .i64 0) (.int .i64 0)
      obtain ⟨b2, hb2⟩ : ∃ b, Hid (w3.heap.size = b) := ⟨_, rfl⟩
      have HP2 := pPrint_c true anyF (srcL s') ao2 m2 d2 X (BlkL.keep BL2 stable_any (keeps_below _ BX)) g5.out
      unfold PrintOut at HP2
      rw [g4.out, if_pos rfl, g6.out, hR.out, q4, hK.out] at HP2
      have HP2 := Lib.hid HP2
      have y0 : X.cell? ⟨w3.heap.size, 0, none⟩ = some (.string K) := AV2.cell 0
      have y1 : X.cell? ⟨w3.heap.size, 1, none⟩ = some (.slice ao2 m2 d2) := AV2.cell 1
      have AV := Lib.hid ((AV.out.kept B3).kept BX)
      have AV2 := Lib.hid AV2
      have AU2 := Lib.hid AU2
      have BL := Lib.hid (BlkL.keep (BlkL.keep BL.out stable_any (keeps_below _ B3)) stable_any (keeps_below _ BX))
      have BL2 := Lib.hid (BlkL.keep BL2 stable_any (keeps_below _ BX))
      have HB2 : Hid (Below w.heap.size w X) := (HB.out.trans (B3.mono HB.out.size)).trans (BX.mono (HB.out.trans (B3.mono HB.out.size)).size)
      clear HR B3 BX HB q1 q2 q3 hq
      go_wp2_with fail
      clear e3 e4 e5 e6 k0 k1 k2 k3 l0 l1 l2 l3 hz y0 y1
      rw [hb2.out] at AV2 AU2 ⊢
      refine HP2.out.mono ?_
      rintro e w4 ⟨rfl, B4⟩
      have HW := Lib.hid (awake_c w4)
      have AV := Lib.hid (AV.out.kept B4)
      have AV2 := Lib.hid (AV2.out.kept B4)
      have AU2 := Lib.hid (AU2.out.kept B4)
      have BL := Lib.hid (BlkL.keep BL.out stable_any (keeps_below _ B4))
      have BL2 := Lib.hid (BlkL.keep BL2.out stable_any (keeps_below _ B4))
      have HB : Hid (Below w.heap.size w w4) := HB2.out.trans (B4.mono HB2.out.size)
      clear HP2 B4 HB2
      go_wp2_with fail
      refine HW.out.mono ?_
      rintro e w5 ⟨rfl, B5⟩
      have y0 : w5.cell? ⟨b1, 0, none⟩ = some (.string K) := (AV.out.kept B5).cell 0
      have y1 : w5.cell? ⟨b1, 1, none⟩ = some (.slice ao m d) := (AV.out.kept B5).cell 1
      have z0 : w5.cell? ⟨b2, 0, none⟩ = some (.string K) := (AV2.out.kept B5).cell 0
      have z1 : w5.cell? ⟨b2, 1, none⟩ = some (.slice ao2 m2 d2) := (AV2.out.kept B5).cell 1
      have z2 : w5.cell? ⟨b2 + 1, 0, none⟩ = some (.int .i64 0) := (AU2.out.kept B5).cell 0
      have z3 : w5.cell? ⟨b2 + 1, 1, none⟩ = some (.int .i64 0) := (AU2.out.kept B5).cell 1
      have HE := eq_false true true s'.title ao2 ao m2 m d2 d (srcL s').blks s'.blks w5 (BlkL.keep BL2.out stable_any (keeps_below _ B5)) (BlkL.keep BL.out stable_any (keeps_below _ B5)) (eqBs_L s'.blks 2)
      rw [hK.out] at HE
      have HE := Lib.hid HE
      have HB5 : Hid (Below w.heap.size w w5) := HB.out.trans (B5.mono HB.out.size)
      have hRR : (R.toList == R.toList) = true := beq_self_eq_true _
      clear HW B5 AV AV2 AU2 BL BL2 HB q4
      go_wp2_with fail
      refine HE.out.mono ?_
      rintro e w6 ⟨rfl, B6⟩
      go_wp2_with fail
      go_ret
      exact ⟨rfl, HB5.out.trans (B6.mono HB5.out.size)⟩
  · have hmn : min (S.size : Int) (400 : Int) = (400 : Int) := by omega
    have c2 : (400 : Int) ≤ (S.size : Int) := by omega
    have hPS : T = P := by have := hP.out; rw [if_neg h] at this; exact this
    subst hPS
    go_enter Try.func6, Try.ntmps6
    go_wp2_with fail
    refine HA.out.mono ?_
    rintro e w1 ⟨hO, B1⟩
    obtain ⟨ao, m, d, rfl, BL⟩ := hO
    obtain ⟨Z, hZ⟩ : ∃ Z, Hid (parseS T = Z) := ⟨_, rfl⟩
    rw [hZ.out] at BL ⊢
    obtain ⟨s, hs⟩ : ∃ s, Hid ((outA Z).2.2 = s) := ⟨_, rfl⟩
    rw [hs.out] at BL ⊢
    obtain ⟨K, hK⟩ : ∃ K, Hid (stg s.title = K) := ⟨_, rfl⟩
    rw [hK.out]
    rcases out_cases Z with ⟨E, L, hE0, h1, h2⟩ | ⟨s', hs'⟩
    · rw [h1, h2]
      obtain ⟨V, U0, W0, U, e3, e4, e5, e6, hz, ⟨k0, k1, k2, k3⟩, ⟨l0, l1, l2, l3⟩, AV, AU, BU⟩ := new_res w1 (.string K) (.slice ao m d) (.int .i64 E) (.int .i64 L)
      have HW := Lib.hid (awake_c U)
      have y2 : U.cell? ⟨w1.heap.size + 1, 0, none⟩ = some (.int .i64 E) := AU.cell 0
      have y3 : U.cell? ⟨w1.heap.size + 1, 1, none⟩ = some (.int .i64 L) := AU.cell 1
      have HB : Hid (Below w.heap.size w U) := B1.trans (BU.mono B1.size)
      clear HA B1 BU AU AV BL h1 h2
      go_wp2_with fail
      refine HW.out.mono ?_
      rintro e w2 ⟨rfl, B2⟩
      go_wp2_with fail
      go_ret
      exact ⟨rfl, HB.out.trans (B2.mono HB.out.size)⟩
    · obtain ⟨g1, g2, g3, g4, g5, g6, g7⟩ := canon_facts hPs.out (hZ.out.trans hs')
      obtain rfl : s' = s := by rw [← hs.out, hs']; rfl
      have h1 : (outA Z).1 = 0 := by rw [hs']; rfl
      have h2 : (outA Z).2.1 = 0 := by rw [hs']; rfl
      rw [h1, h2]
      obtain ⟨V, U0, W0, U, e3, e4, e5, e6, hz, ⟨k0, k1, k2, k3⟩, ⟨l0, l1, l2, l3⟩, AV, AU, BU⟩ := new_res w1 (.string K) (.slice ao m d) (.int .i64 0) (.int .i64 0)
      obtain ⟨b1, hb1⟩ : ∃ b, Hid (w1.heap.size = b) := ⟨_, rfl⟩
      obtain ⟨R, hR⟩ : ∃ R, Hid (stg (srcP s') = R) := ⟨_, rfl⟩
      have HP1 := pPrint_c true anyF s' ao m d U (BlkL.keep BL stable_any (keeps_below _ BU)) g2
      unfold PrintOut at HP1
      rw [g1, if_pos rfl, hR.out, hK.out] at HP1
      have HP1 := Lib.hid HP1
      have y0 : U.cell? ⟨w1.heap.size, 0, none⟩ = some (.string K) := AV.cell 0
      have y1 : U.cell? ⟨w1.heap.size, 1, none⟩ = some (.slice ao m d) := AV.cell 1
      have y2 : U.cell? ⟨w1.heap.size + 1, 0, none⟩ = some (.int .i64 0) := AU.cell 0
      have y3 : U.cell? ⟨w1.heap.size + 1, 1, none⟩ = some (.int .i64 0) := AU.cell 1
      have AV := Lib.hid AV
      have BL := Lib.hid (BlkL.keep BL stable_any (keeps_below _ BU))
      have HB : Hid (Below w.heap.size w U) := B1.trans (BU.mono B1.size)
      have g2 := Lib.hid g2
      have g3 := Lib.hid g3
      have g4 := Lib.hid g4
      have g5 := Lib.hid g5
      have g6 := Lib.hid g6
      have g7 := Lib.hid g7
      clear HA B1 BU AU h1 h2 hs' g1
      go_wp2_with fail
      clear e3 e4 e5 e6 k0 k1 k2 k3 l0 l1 l2 l3 hz y0 y1 y2 y3
      rw [hb1.out] at AV ⊢
      refine HP1.out.mono ?_
      rintro e w2 ⟨rfl, B2⟩
      have HR := Lib.hid (pParse_c R w2 (by have := g7.out; rw [hR.out] at this; omega))
      have AV := Lib.hid (AV.out.kept B2)
      have BL := Lib.hid (BlkL.keep BL.out stable_any (keeps_below _ B2))
      have HB : Hid (Below w.heap.size w w2) := HB.out.trans (B2.mono HB.out.size)
      clear HP1 B2
      go_wp2_with fail
      refine HR.out.mono ?_
      rintro e w3 ⟨hO, B3⟩
      have hq : parseS R = some (.ok (srcL s')) := by rw [← hR.out]; exact g3.out
      rw [hq] at hO
      obtain ⟨ao2, m2, d2, rfl, BL2⟩ := hO
      have q1 : (outA (some (.ok (srcL s')))).1 = 0 := rfl
      have q2 : (outA (some (.ok (srcL s')))).2.1 = 0 := rfl
      have q3 : (outA (some (.ok (srcL s')))).2.2 = srcL s' := rfl
      have q4 : (srcL s').title = s'.title := rfl
      rw [q3] at BL2
      rw [q1, q2, q3, q4, hK.out]
      obtain ⟨V', U0', W0', X, e3, e4, e5, e6, hz, ⟨k0, k1, k2, k3⟩, ⟨l0, l1, l2, l3⟩, AV2, AU2, BX⟩ := new_res w3 (.string K) (.slice ao2 m2 d2) (.int .i64 0) (.int .i64 0)
      obtain ⟨b2, hb2⟩ : ∃ b, Hid (w3.heap.size = b) := ⟨_, rfl⟩
      have HP2 := pPrint_c true anyF (srcL s') ao2 m2 d2 X (BlkL.keep BL2 stable_any (keeps_below _ BX)) g5.out
      unfold PrintOut at HP2
      rw [g4.out, if_pos rfl, g6.out, hR.out, q4, hK.out] at HP2
      have HP2 := Lib.hid HP2
      have y0 : X.cell? ⟨w3.heap.size, 0, none⟩ = some (.string K) := AV2.cell 0
      have y1 : X.cell? ⟨w3.heap.size, 1, none⟩ = some (.slice ao2 m2 d2) := AV2.cell 1
      have AV := Lib.hid ((AV.out.kept B3).kept BX)
      have AV2 := Lib.hid AV2
      have AU2 := Lib.hid AU2
      have BL := Lib.hid (BlkL.keep (BlkL.keep BL.out stable_any (keeps_below _ B3)) stable_any (keeps_below _ BX))
      have BL2 := Lib.hid (BlkL.keep BL2 stable_any (keeps_below _ BX))
      have HB2 : Hid (Below w.heap.size w X) := (HB.out.trans (B3.mono HB.out.size)).trans (BX.mono (HB.out.trans (B3.mono HB.out.size)).size)
      clear HR B3 BX HB q1 q2 q3 hq
      go_wp2_with fail
      clear e3 e4 e5 e6 k0 k1 k2 k3 l0 l1 l2 l3 hz y0 y1
      rw [hb2.out] at AV2 AU2 ⊢
      refine HP2.out.mono ?_
      rintro e w4 ⟨rfl, B4⟩
      have HW := Lib.hid (awake_c w4)
      have AV := Lib.hid (AV.out.kept B4)
      have AV2 := Lib.hid (AV2.out.kept B4)
      have AU2 := Lib.hid (AU2.out.kept B4)
      have BL := Lib.hid (BlkL.keep BL.out stable_any (keeps_below _ B4))
      have BL2 := Lib.hid (BlkL.keep BL2.out stable_any (keeps_below _ B4))
      have HB : Hid (Below w.heap.size w w4) := HB2.out.trans (B4.mono HB2.out.size)
      clear HP2 B4 HB2
      go_wp2_with fail
      refine HW.out.mono ?_
      rintro e w5 ⟨rfl, B5⟩
      have y0 : w5.cell? ⟨b1, 0, none⟩ = some (.string K) := (AV.out.kept B5).cell 0
      have y1 : w5.cell? ⟨b1, 1, none⟩ = some (.slice ao m d) := (AV.out.kept B5).cell 1
      have z0 : w5.cell? ⟨b2, 0, none⟩ = some (.string K) := (AV2.out.kept B5).cell 0
      have z1 : w5.cell? ⟨b2, 1, none⟩ = some (.slice ao2 m2 d2) := (AV2.out.kept B5).cell 1
      have z2 : w5.cell? ⟨b2 + 1, 0, none⟩ = some (.int .i64 0) := (AU2.out.kept B5).cell 0
      have z3 : w5.cell? ⟨b2 + 1, 1, none⟩ = some (.int .i64 0) := (AU2.out.kept B5).cell 1
      have HE := eq_false true true s'.title ao2 ao m2 m d2 d (srcL s').blks s'.blks w5 (BlkL.keep BL2.out stable_any (keeps_below _ B5)) (BlkL.keep BL.out stable_any (keeps_below _ B5)) (eqBs_L s'.blks 2)
      rw [hK.out] at HE
      have HE := Lib.hid HE
      have HB5 : Hid (Below w.heap.size w w5) := HB.out.trans (B5.mono HB.out.size)
      have hRR : (R.toList == R.toList) = true := beq_self_eq_true _
      clear HW B5 AV AV2 AU2 BL BL2 HB q4
      go_wp2_with fail
      refine HE.out.mono ?_
      rintro e w6 ⟨rfl, B6⟩
      go_wp2_with fail
      go_ret
      exact ⟨rfl, HB5.out.trans (B6.mono HB5.out.size)⟩
end Go.Proofs.Ytaeionfhflnbpaa
