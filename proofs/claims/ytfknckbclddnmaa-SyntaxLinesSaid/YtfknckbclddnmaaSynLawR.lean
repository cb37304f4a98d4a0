/-
  The walk of SyntaxRound.
-/
import Derived.Test.YtfknckbclddnmaaSynCutC
import Derived.Test.YtfknckbclddnmaaSynSmall
import Derived.Test.YtfknckbclddnmaaSynAwake
import Derived.Test.YtfknckbclddnmaaSynEqF
namespace Go.Proofs.Ytfknckbclddnmaa
open Go.RowKit Lx

namespace Lx
theorem small_cut (s : Src) : smallS (cutD s) := by
  have hm : ∀ (α : Type) (l : List α) (f : α → α) (n : Nat) (x : α), x ∈ (l.take n).map f → ∃ y, x = f y := by
    intro α l f n x hx
    obtain ⟨y, _, rfl⟩ := List.mem_map.1 hx
    exact ⟨y, rfl⟩
  refine ⟨by show (List.take _ _).length ≤ _; rw [List.length_take]; omega, fun b hb => ?_⟩
  obtain ⟨y, rfl⟩ := hm _ _ _ _ _ hb
  refine ⟨by show (List.take _ _).length ≤ _; rw [List.length_take]; omega, by show (List.take _ _).length ≤ _; rw [List.length_take]; omega, fun f hf => ?_⟩
  obtain ⟨g, rfl⟩ := hm _ _ _ _ _ hf
  refine ⟨by show (List.take _ _).length ≤ _; rw [List.length_take]; omega, fun v hv => ?_⟩
  obtain ⟨u, rfl⟩ := hm _ _ _ _ _ hv
  rw [List.length_take]
  omega
theorem round_facts {s : Src} (h : okP s = true) : parseS (stg (srcP s)) = some (.ok (srcL s)) ∧ (stg (srcP s)).size ≤ 20000 := by
  unfold okP at h
  rw [Bool.and_eq_true, decide_eq_true_eq] at h
  have h4 : (stg (srcP s)).size = (srcP s).length := by rw [← bys_len, bys_stg]
  refine ⟨?_, by omega⟩
  unfold parseS
  rw [if_neg (by omega), bys_stg, parse_print h.1]
end Lx
/-- What a law on a definition begins with: the definition is cut and stored again, and printed. -/
theorem cut_start (t : List UInt8) (ao : Option Addr) (n c : Nat) (bs : List Blc) (w : World) (h : BlkL false anyF w ao n c bs) : ∃ V T K cs, w.alloc (.cells #[.string T, .slice ao n c] 24) = V ∧ V.cell? ⟨w.heap.size, 0, none⟩ = some (.string T) ∧ V.cell? ⟨w.heap.size, 1, none⟩ = some (.slice ao n c) ∧ Hid (stg t = T) ∧ Hid (stg (t.take 40) = K) ∧ Hid (cutBs bs = cs) ∧
    Hid (Calls Try.prog 13 #[.agg #[.string T, .slice ao n c]] V fun e w1 => ∃ (ro : Option Addr) (m d : Nat), e = .returned (.agg #[.string K, .slice ro m d]) ∧ ∃ W, (w1.setCell ⟨w.heap.size, 0, none⟩ (.string K)).setCell ⟨w.heap.size, 1, none⟩ (.slice ro m d) = W ∧
      w1.cell? ⟨w.heap.size, 0, none⟩ = some (.string T) ∧ w1.frozen? ⟨w.heap.size, 0, none⟩ = false ∧ (w1.setCell ⟨w.heap.size, 0, none⟩ (.string K)).cell? ⟨w.heap.size, 1, none⟩ = some (.slice ao n c) ∧ (w1.setCell ⟨w.heap.size, 0, none⟩ (.string K)).frozen? ⟨w.heap.size, 1, none⟩ = false ∧
      Hid (Arr W w.heap.size 24 [.string K, .slice ro m d]) ∧ Hid (BlkL false anyF W ro m d cs) ∧ Hid (Below w.heap.size w W)) := by
  obtain ⟨V, e1, AV, BV, hz⟩ := new_box w 24 [.string (stg t), .slice ao n c]
  refine ⟨V, _, _, _, e1, AV.cell 0, AV.cell 1, rfl, rfl, rfl, ?_⟩
  show Calls _ _ _ _ _
  refine (sCut_c false t ao n c bs V (h.keep stable_any (keeps_below _ BV))).mono ?_
  rintro e w1 ⟨ro, m, d, rfl, BL, B1⟩
  have A1 := AV.kept B1
  obtain ⟨W, e2, hW, AW, f0, f1, f2, f3⟩ := put_box2 A1 (.string (stg (t.take 40))) (.slice ro m d)
  refine ⟨ro, m, d, rfl, W, e2, f0, f1, f2, f3, AW, ?_, ?_⟩
  · show BlkL _ _ _ _ _ _ _
    rw [hW.out]
    exact (BL.keep (stable_own _ _) (keeps_put2 A1 (by decide) _ _)).mono (fun _ _ => trivial)
  · show Below _ _ _
    rw [hW.out]
    exact below_put2 (BV.trans (B1.mono BV.size)) (Nat.le_refl _) _ _

set_option maxHeartbeats 12800000 in
set_option maxRecDepth 100000 in
theorem roundLaw_c (t : List UInt8) (ao : Option Addr) (n c : Nat) (bs : List Blc) (w : World) (h : BlkL false anyF w ao n c bs) :
    Calls Try.prog 5 #[.agg #[.string (stg t), .slice ao n c]] w fun e w' => e = .returned (.bool true) ∧ Below w.heap.size w w' := by
  obtain ⟨V, T, K, cs, e1, y0, y1, hT, hK, hcs, HC⟩ := cut_start t ao n c bs w h
  have hsm := Lib.hid (small_cut ⟨t, bs⟩)
  obtain ⟨s, hs⟩ : ∃ s, Hid (cutD ⟨t, bs⟩ = s) := ⟨_, rfl⟩
  have hs1 : Hid (stg s.title = K) := by show _ = _; rw [← hs.out, ← hK.out]; rfl
  have hs2 : Hid (s.blks = cs) := by show _ = _; rw [← hs.out, ← hcs.out]; rfl
  rw [hs.out] at hsm
  rw [hT.out]
  go_enter Try.func5, Try.ntmps5
  go_wp2_with fail
  refine HC.out.mono ?_
  rintro e w1 ⟨ro, m, d, rfl, W, e2, f0, f1, f2, f3, AW, BL, HB⟩
  have r0 : W.cell? ⟨w.heap.size, 0, none⟩ = some (.string K) := AW.out.cell 0
  have r1 : W.cell? ⟨w.heap.size, 1, none⟩ = some (.slice ro m d) := AW.out.cell 1
  have HP := pPrint_c false anyF s ro m d W (by rw [hs2.out]; exact BL.out) hsm.out
  unfold PrintOut at HP
  rw [hs1.out] at HP
  cases hF : okP s with
  | false =>
    rw [hF] at HP
    have HP := Lib.hid HP
    clear hF
    go_wp2_with fail
    clear e1 e2 f0 f1 f2 f3 r0 r1 y0 y1
    refine HP.out.mono ?_
    rintro e w2 ⟨rfl, B2⟩
    have HW := Lib.hid (awake_c w2)
    have HB : Hid (Below w.heap.size w w2) := HB.out.trans (B2.mono HB.out.size)
    clear HP B2 HC AW BL
    go_wp2_with fail
    refine HW.out.mono ?_
    rintro e w3 ⟨rfl, B3⟩
    go_wp2_with fail
    go_ret
    exact ⟨rfl, HB.out.trans (B3.mono HB.out.size)⟩
  | true =>
    obtain ⟨g3, g7⟩ := round_facts hF
    obtain ⟨R, hR⟩ : ∃ R, Hid (stg (srcP s) = R) := ⟨_, rfl⟩
    rw [hF, if_pos rfl, hR.out] at HP
    rw [hR.out] at g3 g7
    have HP := Lib.hid HP
    have g3 := Lib.hid g3
    have g7 := Lib.hid g7
    clear hF
    go_wp2_with fail
    clear e1 e2 f0 f1 f2 f3 r0 r1 y0 y1
    refine HP.out.mono ?_
    rintro e w2 ⟨rfl, B2⟩
    have HR := Lib.hid (pParse_c R w2 (by have := g7.out; omega))
    have AV := Lib.hid (AW.out.kept B2)
    have BL := Lib.hid (BlkL.keep BL.out stable_any (keeps_below _ B2))
    have HB : Hid (Below w.heap.size w w2) := HB.out.trans (B2.mono HB.out.size)
    clear HP B2 AW HC
    go_wp2_with fail
    refine HR.out.mono ?_
    rintro e w3 ⟨hO, B3⟩
    rw [g3.out] at hO
    obtain ⟨ao2, m2, d2, rfl, BL2⟩ := hO
    have q1 : (outA (some (.ok (srcL s)))).1 = 0 := rfl
    have q2 : (outA (some (.ok (srcL s)))).2.1 = 0 := rfl
    have q3 : (outA (some (.ok (srcL s)))).2.2 = srcL s := rfl
    have q4 : (srcL s).title = s.title := rfl
    rw [q3] at BL2
    rw [q1, q2, q3, q4, hs1.out]
    obtain ⟨V', U0', W0', X, e3, e4, e5, e6, hz, ⟨k0, k1, k2, k3⟩, ⟨l0, l1, l2, l3⟩, AV2, AU2, BX⟩ := new_res w3 (.string K) (.slice ao2 m2 d2) (.int .i64 0) (.int .i64 0)
    obtain ⟨b2, hb2⟩ : ∃ b, Hid (w3.heap.size = b) := ⟨_, rfl⟩
    have AV := Lib.hid ((AV.out.kept B3).kept BX)
    have AV2 := Lib.hid AV2
    have AU2 := Lib.hid AU2
    have BL := Lib.hid (BlkL.keep (BlkL.keep BL.out stable_any (keeps_below _ B3)) stable_any (keeps_below _ BX))
    have BL2 := Lib.hid (BlkL.keep BL2 stable_any (keeps_below _ BX))
    have HB2 : Hid (Below w.heap.size w X) := (HB.out.trans (B3.mono HB.out.size)).trans (BX.mono (HB.out.trans (B3.mono HB.out.size)).size)
    have HW := Lib.hid (awake_c X)
    clear HR B3 BX HB q1 q2 q3
    go_wp2_with fail
    clear e3 e4 e5 e6 k0 k1 k2 k3 l0 l1 l2 l3 hz
    rw [hb2.out] at AV2 AU2 ⊢
    refine HW.out.mono ?_
    rintro e w5 ⟨rfl, B5⟩
    have y0 : w5.cell? ⟨w.heap.size, 0, none⟩ = some (.string K) := (AV.out.kept B5).cell 0
    have y1 : w5.cell? ⟨w.heap.size, 1, none⟩ = some (.slice ro m d) := (AV.out.kept B5).cell 1
    have z0 : w5.cell? ⟨b2, 0, none⟩ = some (.string K) := (AV2.out.kept B5).cell 0
    have z1 : w5.cell? ⟨b2, 1, none⟩ = some (.slice ao2 m2 d2) := (AV2.out.kept B5).cell 1
    have z2 : w5.cell? ⟨b2 + 1, 0, none⟩ = some (.int .i64 0) := (AU2.out.kept B5).cell 0
    have z3 : w5.cell? ⟨b2 + 1, 1, none⟩ = some (.int .i64 0) := (AU2.out.kept B5).cell 1
    have HE := eq_false true false s.title ao2 ro m2 m d2 d (srcL s).blks s.blks w5 (BlkL.keep BL2.out stable_any (keeps_below _ B5)) (by rw [hs2.out]; exact BlkL.keep BL.out stable_any (keeps_below _ B5)) (eqBs_L s.blks 2)
    rw [hs1.out] at HE
    have HE := Lib.hid HE
    have HB5 : Hid (Below w.heap.size w w5) := HB2.out.trans (B5.mono HB2.out.size)
    clear HW B5 AV AV2 AU2 BL BL2 HB2 q4
    go_wp2_with fail
    refine HE.out.mono ?_
    rintro e w6 ⟨rfl, B6⟩
    go_wp2_with fail
    go_ret
    exact ⟨rfl, HB5.out.trans (B6.mono HB5.out.size)⟩
end Go.Proofs.Ytfknckbclddnmaa
