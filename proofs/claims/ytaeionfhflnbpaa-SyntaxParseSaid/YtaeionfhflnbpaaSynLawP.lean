/-
  The walk of SyntaxParse.
-/
import Derived.Test.YtaeionfhflnbpaaSynRParse
import Derived.Test.YtaeionfhflnbpaaSynAwake
import Derived.Test.YtaeionfhflnbpaaSynEqT
namespace Go.Proofs.Ytaeionfhflnbpaa
open Go.RowKit Lx

set_option maxHeartbeats 12800000 in
set_option maxRecDepth 100000 in
theorem parseLaw_c (S : ByteArray) (w : World) (_ : S.size ≤ maxLen) :
    Calls Try.prog 3 #[.string S] w fun e w' => e = .returned (.bool true) ∧ Below w.heap.size w w' := by
  obtain ⟨T, hT, hTs⟩ : ∃ T, S.extract 0 400 = T ∧ T.size ≤ 400 := ⟨_, rfl, by rw [ByteArray.size_extract]; omega⟩
  obtain ⟨P, hP, hPs⟩ : ∃ P, Hid ((if S.size ≤ 400 then S else T) = P) ∧ Hid (P.size ≤ 400) := ⟨_, rfl, by show ByteArray.size _ ≤ _; split <;> omega⟩
  have HA := Lib.hid (pParse_c P w (by have := hPs.out; omega))
  by_cases h : S.size ≤ 400
  · have hmn : min (S.size : Int) (400 : Int) = (S.size : Int) := by omega
    have hPS : S = P := by have := hP.out; rw [if_pos h] at this; exact this
    subst hPS
    go_enter Try.func3, Try.ntmps3
    go_wp2_with fail
    refine HA.out.mono ?_
    rintro e w1 ⟨hO, B1⟩
    obtain ⟨ao, m, d, rfl, BL⟩ := hO
    obtain ⟨Z, hZ⟩ : ∃ Z, Hid (parseS S = Z) := ⟨_, rfl⟩
    rw [hZ.out] at BL ⊢
    obtain ⟨E, hE⟩ : ∃ E, Hid ((outA Z).1 = E) := ⟨_, rfl⟩
    obtain ⟨L, hL⟩ : ∃ L, Hid ((outA Z).2.1 = L) := ⟨_, rfl⟩
    obtain ⟨s, hs⟩ : ∃ s, Hid ((outA Z).2.2 = s) := ⟨_, rfl⟩
    rw [hs.out] at BL
    rw [hE.out, hL.out, hs.out]
    obtain ⟨K, hK⟩ : ∃ K, Hid (stg s.title = K) := ⟨_, rfl⟩
    rw [hK.out]
    obtain ⟨V, U0, W0, U, e3, e4, e5, e6, hz, ⟨k0, k1, k2, k3⟩, ⟨l0, l1, l2, l3⟩, AV, AU, BU⟩ := new_res w1 (.string K) (.slice ao m d) (.int .i64 E) (.int .i64 L)
    have HR := Lib.hid (rParse_c S U (by have := hPs.out; omega))
    obtain ⟨b1, hb1⟩ : ∃ b, Hid (w1.heap.size = b) := ⟨_, rfl⟩
    have AU := Lib.hid AU
    have AV := Lib.hid AV
    have BL := Lib.hid (BlkL.keep BL stable_any (keeps_below _ BU))
    have HB : Hid (Below w.heap.size w U) := B1.trans (BU.mono B1.size)
    clear HA B1 BU
    go_wp2_with fail
    rw [hb1.out] at AU AV ⊢
    clear e3 e4 e5 e6 k0 k1 k2 k3 l0 l1 l2 l3 hz
    refine HR.out.mono ?_
    rintro e w2 ⟨hO, B2⟩
    obtain ⟨ao2, m2, d2, rfl, BL2⟩ := hO
    rw [hZ.out] at BL2 ⊢
    rw [hs.out] at BL2
    rw [hE.out, hL.out, hs.out, hK.out]
    obtain ⟨V', U0', W0', X, e3, e4, e5, e6, hz, ⟨k0, k1, k2, k3⟩, ⟨l0, l1, l2, l3⟩, AV2, AU2, BX⟩ := new_res w2 (.string K) (.slice ao2 m2 d2) (.int .i64 E) (.int .i64 L)
    have HW := Lib.hid (awake_c X)
    obtain ⟨b2, hb2⟩ : ∃ b, Hid (w2.heap.size = b) := ⟨_, rfl⟩
    have AV := Lib.hid ((AV.out.kept B2).kept BX)
    have AU := Lib.hid ((AU.out.kept B2).kept BX)
    have AU2 := Lib.hid AU2
    have AV2 := Lib.hid AV2
    have BL := Lib.hid (BlkL.keep (BlkL.keep BL.out stable_any (keeps_below _ B2)) stable_any (keeps_below _ BX))
    have BL2 := Lib.hid (BlkL.keep BL2 stable_any (keeps_below _ BX))
    have HB2 : Hid (Below w.heap.size w X) := (HB.out.trans (B2.mono HB.out.size)).trans (BX.mono (HB.out.trans (B2.mono HB.out.size)).size)
    clear HR B2 BX HB
    go_wp2_with fail
    rw [hb2.out] at AU2 AV2 ⊢
    clear e3 e4 e5 e6 k0 k1 k2 k3 l0 l1 l2 l3 hz
    refine HW.out.mono ?_
    rintro e w3 ⟨rfl, B3⟩
    have y0 : w3.cell? ⟨b1, 0, none⟩ = some (.string K) := (AV.out.kept B3).cell 0
    have y1 : w3.cell? ⟨b1, 1, none⟩ = some (.slice ao m d) := (AV.out.kept B3).cell 1
    have y2 : w3.cell? ⟨b1 + 1, 0, none⟩ = some (.int .i64 E) := (AU.out.kept B3).cell 0
    have y3 : w3.cell? ⟨b1 + 1, 1, none⟩ = some (.int .i64 L) := (AU.out.kept B3).cell 1
    have z0 : w3.cell? ⟨b2, 0, none⟩ = some (.string K) := (AV2.out.kept B3).cell 0
    have z1 : w3.cell? ⟨b2, 1, none⟩ = some (.slice ao2 m2 d2) := (AV2.out.kept B3).cell 1
    have z2 : w3.cell? ⟨b2 + 1, 0, none⟩ = some (.int .i64 E) := (AU2.out.kept B3).cell 0
    have z3 : w3.cell? ⟨b2 + 1, 1, none⟩ = some (.int .i64 L) := (AU2.out.kept B3).cell 1
    have HE := eq_true s.title ao ao2 m m2 d d2 s.blks s.blks w3 (BlkL.keep BL.out stable_any (keeps_below _ B3)) (BlkL.keep BL2.out stable_any (keeps_below _ B3)) (eqBs_refl true s.blks)
    rw [hK.out] at HE
    have HE := Lib.hid HE
    have HB3 : Hid (Below w.heap.size w w3) := HB2.out.trans (B3.mono HB2.out.size)
    have e1 : (E == E) = true := beq_self_eq_true _
    have e2 : (L == L) = true := beq_self_eq_true _
    clear HW B3 AU AV AU2 AV2 BL BL2 HB2
    go_wp2_with fail
    refine HE.out.mono ?_
    rintro e w4 ⟨rfl, B4⟩
    go_wp2_with fail
    go_ret
    exact ⟨rfl, HB3.out.trans (B4.mono HB3.out.size)⟩
  · have hmn : min (S.size : Int) (400 : Int) = (400 : Int) := by omega
    have c2 : (400 : Int) ≤ (S.size : Int) := by omega
    have hPS : T = P := by have := hP.out; rw [if_neg h] at this; exact this
    subst hPS
    go_enter Try.func3, Try.ntmps3
    go_wp2_with fail
    refine HA.out.mono ?_
    rintro e w1 ⟨hO, B1⟩
    obtain ⟨ao, m, d, rfl, BL⟩ := hO
    obtain ⟨Z, hZ⟩ : ∃ Z, Hid (parseS T = Z) := ⟨_, rfl⟩
    rw [hZ.out] at BL ⊢
    obtain ⟨E, hE⟩ : ∃ E, Hid ((outA Z).1 = E) := ⟨_, rfl⟩
    obtain ⟨L, hL⟩ : ∃ L, Hid ((outA Z).2.1 = L) := ⟨_, rfl⟩
    obtain ⟨s, hs⟩ : ∃ s, Hid ((outA Z).2.2 = s) := ⟨_, rfl⟩
    rw [hs.out] at BL
    rw [hE.out, hL.out, hs.out]
    obtain ⟨K, hK⟩ : ∃ K, Hid (stg s.title = K) := ⟨_, rfl⟩
    rw [hK.out]
    obtain ⟨V, U0, W0, U, e3, e4, e5, e6, hz, ⟨k0, k1, k2, k3⟩, ⟨l0, l1, l2, l3⟩, AV, AU, BU⟩ := new_res w1 (.string K) (.slice ao m d) (.int .i64 E) (.int .i64 L)
    have HR := Lib.hid (rParse_c T U (by have := hPs.out; omega))
    obtain ⟨b1, hb1⟩ : ∃ b, Hid (w1.heap.size = b) := ⟨_, rfl⟩
    have AU := Lib.hid AU
    have AV := Lib.hid AV
    have BL := Lib.hid (BlkL.keep BL stable_any (keeps_below _ BU))
    have HB : Hid (Below w.heap.size w U) := B1.trans (BU.mono B1.size)
    clear HA B1 BU
    go_wp2_with fail
    rw [hb1.out] at AU AV ⊢
    clear e3 e4 e5 e6 k0 k1 k2 k3 l0 l1 l2 l3 hz
    refine HR.out.mono ?_
    rintro e w2 ⟨hO, B2⟩
    obtain ⟨ao2, m2, d2, rfl, BL2⟩ := hO
    rw [hZ.out] at BL2 ⊢
    rw [hs.out] at BL2
    rw [hE.out, hL.out, hs.out, hK.out]
    obtain ⟨V', U0', W0', X, e3, e4, e5, e6, hz, ⟨k0, k1, k2, k3⟩, ⟨l0, l1, l2, l3⟩, AV2, AU2, BX⟩ := new_res w2 (.string K) (.slice ao2 m2 d2) (.int .i64 E) (.int .i64 L)
    have HW := Lib.hid (awake_c X)
    obtain ⟨b2, hb2⟩ : ∃ b, Hid (w2.heap.size = b) := ⟨_, rfl⟩
    have AV := Lib.hid ((AV.out.kept B2).kept BX)
    have AU := Lib.hid ((AU.out.kept B2).kept BX)
    have AU2 := Lib.hid AU2
    have AV2 := Lib.hid AV2
    have BL := Lib.hid (BlkL.keep (BlkL.keep BL.out stable_any (keeps_below _ B2)) stable_any (keeps_below _ BX))
    have BL2 := Lib.hid (BlkL.keep BL2 stable_any (keeps_below _ BX))
    have HB2 : Hid (Below w.heap.size w X) := (HB.out.trans (B2.mono HB.out.size)).trans (BX.mono (HB.out.trans (B2.mono HB.out.size)).size)
    clear HR B2 BX HB
    go_wp2_with fail
    rw [hb2.out] at AU2 AV2 ⊢
    clear e3 e4 e5 e6 k0 k1 k2 k3 l0 l1 l2 l3 hz
    refine HW.out.mono ?_
    rintro e w3 ⟨rfl, B3⟩
    have y0 : w3.cell? ⟨b1, 0, none⟩ = some (.string K) := (AV.out.kept B3).cell 0
    have y1 : w3.cell? ⟨b1, 1, none⟩ = some (.slice ao m d) := (AV.out.kept B3).cell 1
    have y2 : w3.cell? ⟨b1 + 1, 0, none⟩ = some (.int .i64 E) := (AU.out.kept B3).cell 0
    have y3 : w3.cell? ⟨b1 + 1, 1, none⟩ = some (.int .i64 L) := (AU.out.kept B3).cell 1
    have z0 : w3.cell? ⟨b2, 0, none⟩ = some (.string K) := (AV2.out.kept B3).cell 0
    have z1 : w3.cell? ⟨b2, 1, none⟩ = some (.slice ao2 m2 d2) := (AV2.out.kept B3).cell 1
    have z2 : w3.cell? ⟨b2 + 1, 0, none⟩ = some (.int .i64 E) := (AU2.out.kept B3).cell 0
    have z3 : w3.cell? ⟨b2 + 1, 1, none⟩ = some (.int .i64 L) := (AU2.out.kept B3).cell 1
    have HE := eq_true s.title ao ao2 m m2 d d2 s.blks s.blks w3 (BlkL.keep BL.out stable_any (keeps_below _ B3)) (BlkL.keep BL2.out stable_any (keeps_below _ B3)) (eqBs_refl true s.blks)
    rw [hK.out] at HE
    have HE := Lib.hid HE
    have HB3 : Hid (Below w.heap.size w w3) := HB2.out.trans (B3.mono HB2.out.size)
    have e1 : (E == E) = true := beq_self_eq_true _
    have e2 : (L == L) = true := beq_self_eq_true _
    clear HW B3 AU AV AU2 AV2 BL BL2 HB2
    go_wp2_with fail
    refine HE.out.mono ?_
    rintro e w4 ⟨rfl, B4⟩
    go_wp2_with fail
    go_ret
    exact ⟨rfl, HB3.out.trans (B4.mono HB3.out.size)⟩
end Go.Proofs.Ytaeionfhflnbpaa
