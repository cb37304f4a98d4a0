/-
  The walk of SyntaxCut.
-/
import Derived.Test.YtfknckbclddnmaaSynCutC
import Derived.Test.YtfknckbclddnmaaSynAwake
import Derived.Test.YtfknckbclddnmaaSynRPrint
import Derived.Test.YtfknckbclddnmaaSynEqT
import Derived.Test.YtfknckbclddnmaaLexAllR
import Derived.Deep.RegionHeld3
namespace Go.Proofs.Ytfknckbclddnmaa
open Go.RowKit Lx

namespace Lx
theorem short_cutx (s : Src) : shortS (cutD s) := by
  have hm : ∀ (α : Type) (l : List α) (f : α → α) (n : Nat) (x : α), x ∈ (l.take n).map f → ∃ y, x = f y := by
    intro α l f n x hx
    obtain ⟨y, _, rfl⟩ := List.mem_map.1 hx
    exact ⟨y, rfl⟩
  refine ⟨by show (List.take _ _).length ≤ _; rw [List.length_take]; omega, fun b hb => ?_⟩
  obtain ⟨y, rfl⟩ := hm _ _ _ _ _ hb
  refine ⟨by show (List.take _ _).length ≤ _; rw [List.length_take]; omega, by show (List.take _ _).length ≤ _; rw [List.length_take]; omega, fun f hf => ?_⟩
  obtain ⟨g, rfl⟩ := hm _ _ _ _ _ hf
  refine ⟨by show (List.take _ _).length ≤ _; rw [List.length_take]; omega, fun v hv => ?_⟩
  obtain ⟨u, rfl⟩ := hm _ _ _ _ _ hv
  rw [List.length_take]
  omega
/-- The place where the text is cut. -/
theorem place_cut (x : Int) (n : Nat) (h : 0 < n) : ∃ (k : Nat) (y : Int), k < n ∧ x.tmod (n : Int) = y ∧ -(n : Int) < y ∧ y < n ∧ (y + n).tmod (n : Int) = k := by
  have e := Int.tmod_eq_emod (a := x) (b := n)
  have h0 := Int.emod_nonneg x (b := n) (by omega)
  have h1 := Int.emod_lt_of_pos x (b := n) (by omega)
  have h2 : -(n : Int) < x.tmod n ∧ x.tmod n < n := by
    rw [e]
    split <;> omega
  have h3 : (x.tmod n + n).tmod (n : Int) = (x.tmod n + n) % (n : Int) := Int.tmod_eq_emod_of_nonneg (by omega)
  have h4 := Int.emod_nonneg (x.tmod n + n) (b := n) (by omega)
  have h5 := Int.emod_lt_of_pos (x.tmod n + n) (b := n) (by omega)
  exact ⟨((x.tmod n + n) % (n : Int)).toNat, _, by omega, rfl, h2.1, h2.2, by rw [h3]; omega⟩
end Lx

set_option maxHeartbeats 12800000 in
set_option maxRecDepth 100000 in
theorem cutLaw_c (t : List UInt8) (ao : Option Addr) (n c : Nat) (bs : List Blc) (at_ : Int) (w : World) (h : BlkL false anyF w ao n c bs) :
    Calls Try.prog 8 #[.agg #[.string (stg t), .slice ao n c], .int .i64 at_] w fun e w' => e = .returned (.bool true) ∧ Below w.heap.size w w' := by
  obtain ⟨V, T, K, cs, e1, y0, y1, hT, hK, hcs, HC⟩ := cut_start t ao n c bs w h
  have hsh := Lib.hid (short_cutx ⟨t, bs⟩)
  obtain ⟨s, hs⟩ : ∃ s, Hid (cutD ⟨t, bs⟩ = s) := ⟨_, rfl⟩
  have hs1 : Hid (stg s.title = K) := by show _ = _; rw [← hs.out, ← hK.out]; rfl
  have hs2 : Hid (s.blks = cs) := by show _ = _; rw [← hs.out, ← hcs.out]; rfl
  rw [hs.out] at hsh
  rw [hT.out]
  go_enter Try.func8, Try.ntmps8
  go_wp2_with fail
  refine HC.out.mono ?_
  rintro e w1 ⟨ro, m, d, rfl, W, e2, f0, f1, f2, f3, AW, BL, HB⟩
  have r0 : W.cell? ⟨w.heap.size, 0, none⟩ = some (.string K) := AW.out.cell 0
  have r1 : W.cell? ⟨w.heap.size, 1, none⟩ = some (.slice ro m d) := AW.out.cell 1
  have HP := rPrint_c false s ro m d W (by rw [hs2.out]; exact BL.out) hsh.out
  unfold PrintOut at HP
  rw [hs1.out] at HP
  cases hF : okP s with
  | false =>
    rw [hF] at HP
    have HP := Lib.hid HP
    clear hF
    go_wp2_with fail
    clear e1 e2 f0 f1 f2 f3 r0 r1 y0 y1
    refine HP.out.mono ?_
    rintro e w2 ⟨rfl, B2⟩
    have HW := Lib.hid (awake_c w2)
    have HB : Hid (Below w.heap.size w w2) := HB.out.trans (B2.mono HB.out.size)
    clear HP B2 HC AW BL
    go_wp2_with fail
    refine HW.out.mono ?_
    rintro e w3 ⟨rfl, B3⟩
    go_wp2_with fail
    go_ret
    exact ⟨rfl, HB.out.trans (B3.mono HB.out.size)⟩
  | true =>
    obtain ⟨R, hR⟩ : ∃ R, Hid (stg (srcP s) = R) := ⟨_, rfl⟩
    have hok := hF
    unfold okP at hok
    rw [Bool.and_eq_true, decide_eq_true_eq] at hok
    have hRl : R.size = (srcP s).length := by rw [← hR.out]; exact stg_size _
    have hlen : 16 ≤ (srcP s).length := by
      rw [srcP_rest]
      unfold blksR quoP
      simp only [List.length_append, List.length_cons, List.length_nil]
      omega
    rw [hF, if_pos rfl, hR.out] at HP
    have HP := Lib.hid HP
    obtain ⟨N, hN⟩ : ∃ N : Nat, Hid (N + 2 = R.size) := ⟨R.size - 2, by show _ = _; omega⟩
    obtain ⟨k, y, hk, hy, hy1, hy2, hy3⟩ := place_cut at_ N (by have := hN.out; omega)
    have hNs : N ≤ 19998 := by have := hN.out; omega
    have hsub : (R.size : Int) - 2 = (N : Int) := by have := hN.out; omega
    have hadd : y + (R.size : Int) - 2 = y + (N : Int) := by have := hN.out; omega
    have hRs : R.size ≤ 20000 := by omega
    have hkb : (k : Int) ≤ (R.size : Int) := by have := hN.out; omega
    have hk0 : (0 : Int) ≤ (k : Int) := by omega
    have hk2 : Hid (k + 2 ≤ (srcP s).length) := by show _ ≤ _; have := hN.out; omega
    clear hF
    go_wp2_with fail
    clear e1 e2 f0 f1 f2 f3 r0 r1 y0 y1
    refine HP.out.mono ?_
    rintro e w2 ⟨rfl, B2⟩
    have HB : Hid (Below w.heap.size w w2) := HB.out.trans (B2.mono HB.out.size)
    have hok1 := hok.1
    clear HP B2 AW HC BL hok hlen hRl
    obtain ⟨P, hP⟩ : ∃ P, R.extract 0 k = P := ⟨_, rfl⟩
    have hPb : bys P = (srcP s).take k := by rw [← hP, bys_pre, ← hR.out, bys_stg]
    have hPs : P.size ≤ 20000 := by rw [← bys_len, hPb, List.length_take]; omega
    have hall : allS P = some (lexS ((srcP s).take k) 1) := by
      unfold allS
      rw [if_neg (by omega), hPb]
    have hpar : parseS P = some (parseL ((srcP s).take k)) := by
      unfold parseS
      rw [if_neg (by omega), hPb]
    have HA := refall_c P w2 (by omega)
    rw [hall] at HA
    have HR : ∀ wx : World, Calls Try.prog 9 #[.string P] wx fun e w' => ParseOut (parseS P) w' e ∧ Below wx.heap.size wx w' := fun wx => pParse_c P wx (by omega)
    rw [hpar] at HR
    unfold parseL at HR
    have hcs2 : ∀ us mm, lexS ((srcP s).take k) 1 = .ok us mm → sourceP (us ++ [⟨5, [], mm⟩]) = .bad mm := fun us mm hx => cut_src hok1 hk2.out hx
    clear hall hpar hPb
    cases hx : lexS ((srcP s).take k) 1 with
    | err l =>
      rw [hx] at HA HR
      replace HA := Lib.hid HA
      replace HR := Lib.hid HR
      clear hx hcs2
      go_wp2_with fail
      refine HA.out.mono ?_
      rintro e w3 ⟨hO, B3⟩
      obtain rfl := hO.err
      obtain ⟨V3, W3, e3, e4, A8, B8, z8, k0, k1, k2, k3⟩ := new_put2 w3 27 (.int .i64 0) (.int .i64 0) (.int .i64 1) (.int .i64 (l : Int))
      have HB : Hid (Below w.heap.size w W3) := (HB.out.trans (B3.mono HB.out.size)).trans (B8.mono (HB.out.trans (B3.mono HB.out.size)).size)
      have A8 := Lib.hid A8
      clear hO B3 B8 z8 HA hy hsub hadd
      go_wp2_with fail
      clear e3 e4 k0 k1 k2 k3 hP hPs
      refine (HR.out W3).mono ?_
      rintro e w4 ⟨hO, B4⟩
      obtain ⟨ao2, m2, d2, rfl, BL2⟩ := hO
      have q1 : (outA (some (.err l))).1 = 1 := rfl
      have q2 : (outA (some (.err l))).2.1 = (l : Int) := rfl
      have q3 : (outA (some (.err l))).2.2 = ⟨[], []⟩ := rfl
      have q4 : stg [] = ⟨#[]⟩ := rfl
      rw [q1, q2, q3, q4]
      obtain ⟨V', U0', W0', X, e3, e4, e5, e6, hz, ⟨k0, k1, k2, k3⟩, ⟨l0, l1, l2, l3⟩, AV2, AU2, BX⟩ := new_res w4 (.string ⟨#[]⟩) (.slice ao2 m2 d2) (.int .i64 1) (.int .i64 (l : Int))
      have A8 := Lib.hid ((A8.out.kept B4).kept BX)
      have AU2 := Lib.hid AU2
      have HB : Hid (Below w.heap.size w X) := (HB.out.trans (B4.mono HB.out.size)).trans (BX.mono (HB.out.trans (B4.mono HB.out.size)).size)
      have y0 : X.cell? ⟨w3.heap.size, 0, none⟩ = some (.int .i64 1) := A8.out.cell 0
      have y1 : X.cell? ⟨w3.heap.size, 1, none⟩ = some (.int .i64 (l : Int)) := A8.out.cell 1
      have HW := Lib.hid (awake_c X)
      have hll : ((l : Int) == (l : Int)) = true := beq_self_eq_true _
      clear HR B4 BX BL2 AV2 q1 q2 q3 q4
      go_wp2_with fail
      clear e3 e4 e5 e6 k0 k1 k2 k3 l0 l1 l2 l3 hz y0 y1
      refine HW.out.mono ?_
      rintro e w5 ⟨rfl, B5⟩
      have y0 : w5.cell? ⟨w3.heap.size, 0, none⟩ = some (.int .i64 1) := (A8.out.kept B5).cell 0
      have y1 : w5.cell? ⟨w3.heap.size, 1, none⟩ = some (.int .i64 (l : Int)) := (A8.out.kept B5).cell 1
      have y2 : w5.cell? ⟨w4.heap.size + 1, 0, none⟩ = some (.int .i64 1) := (AU2.out.kept B5).cell 0
      have y3 : w5.cell? ⟨w4.heap.size + 1, 1, none⟩ = some (.int .i64 (l : Int)) := (AU2.out.kept B5).cell 1
      have HB : Hid (Below w.heap.size w w5) := HB.out.trans (B5.mono HB.out.size)
      clear HW B5 A8 AU2
      go_wp2_with fail
      go_ret
      exact ⟨rfl, HB.out⟩
    | ok us l =>
      rw [hx] at HA HR
      simp only [hcs2 us l hx] at HR
      replace HA := Lib.hid HA
      replace HR := Lib.hid HR
      clear hx hcs2
      go_wp2_with fail
      refine HA.out.mono ?_
      rintro e w3 ⟨hO, B3⟩
      obtain ⟨at1, c1, rfl, O⟩ := hO.ok
      obtain ⟨V3, W3, e3, e4, A8, B8, z8, k0, k1, k2, k3⟩ := new_put2 w3 27 (.int .i64 0) (.int .i64 0) (.int .i64 0) (.int .i64 0)
      obtain ⟨M, hM⟩ : ∃ M, Hid (us.length + 1 = M) := ⟨_, rfl⟩
      obtain ⟨J, hJ⟩ : ∃ J, Hid (us.length = J) := ⟨_, rfl⟩
      rw [hM.out] at O ⊢
      have O := Lib.hid (O.keep B8)
      have HB : Hid (Below w.heap.size w W3) := (HB.out.trans (B3.mono HB.out.size)).trans (B8.mono (HB.out.trans (B3.mono HB.out.size)).size)
      have A8 := Lib.hid A8
      clear hO B3 B8 z8 HA hy hsub hadd
      go_wp2_with fail
      clear e3 e4 k0 k1 k2 k3 hP hPs
      refine (HR.out W3).mono ?_
      rintro e w4 ⟨hO, B4⟩
      obtain ⟨ao2, m2, d2, rfl, BL2⟩ := hO
      have q1 : (outA (some (.err l))).1 = 1 := rfl
      have q2 : (outA (some (.err l))).2.1 = (l : Int) := rfl
      have q3 : (outA (some (.err l))).2.2 = ⟨[], []⟩ := rfl
      have q4 : stg [] = ⟨#[]⟩ := rfl
      rw [q3] at BL2
      obtain rfl : m2 = 0 := BL2.len.symm
      obtain ⟨hcd, hrd⟩ := BL2.caps
      rw [q1, q2, q3, q4]
      have HE : Hid (∀ wx : World, Calls Try.prog 12 #[.agg #[.string ⟨#[]⟩, .slice ao2 0 d2], .agg #[.string ⟨#[]⟩, .slice none 0 0], .bool true] wx fun e w' => e = .returned (.bool true) ∧ Below wx.heap.size wx w') :=
        fun wx => eq_true [] ao2 none 0 0 d2 0 [] [] wx ⟨[], ⟨rfl, hcd, hrd, fun hh => absurd hh (by omega), fun i u hu => by simp at hu⟩, rfl⟩ (blkl_nil _ _ _) trivial
      obtain ⟨V', U0', W0', X, e3, e4, e5, e6, hz, ⟨k0, k1, k2, k3⟩, ⟨l0, l1, l2, l3⟩, AV2, AU2, BX⟩ := new_res w4 (.string ⟨#[]⟩) (.slice ao2 0 d2) (.int .i64 1) (.int .i64 (l : Int))
      have A8 := Lib.hid ((A8.out.kept B4).kept BX)
      have O := Lib.hid ((O.out.keep B4).keep BX)
      have HB : Hid (Below w.heap.size w X) := (HB.out.trans (B4.mono HB.out.size)).trans (BX.mono (HB.out.trans (B4.mono HB.out.size)).size)
      have y0 : X.cell? ⟨w3.heap.size, 0, none⟩ = some (.int .i64 0) := A8.out.cell 0
      have y1 : X.cell? ⟨w3.heap.size, 1, none⟩ = some (.int .i64 0) := A8.out.cell 1
      obtain ⟨b4, hb4⟩ : ∃ b, Hid (w4.heap.size = b) := ⟨_, rfl⟩
      rw [hb4.out] at AV2 AU2
      have A9 : Hid (Arr X.drew b4 24 [.string ⟨#[]⟩, .slice ao2 0 d2]) := AV2
      have A10 : Hid (Arr X.drew (b4 + 1) 27 [.int .i64 1, .int .i64 (l : Int)]) := AU2
      have u0 : X.drew.cell? ⟨b4, 0, none⟩ = some (.string ⟨#[]⟩) := A9.out.cell 0
      have u1 : X.drew.cell? ⟨b4, 1, none⟩ = some (.slice ao2 0 d2) := A9.out.cell 1
      have u2 : X.drew.cell? ⟨b4 + 1, 0, none⟩ = some (.int .i64 1) := A10.out.cell 0
      have u3 : X.drew.cell? ⟨b4 + 1, 1, none⟩ = some (.int .i64 (l : Int)) := A10.out.cell 1
      obtain ⟨g, q, hg, x1, _, _, y3⟩ := O.out.at J (by have := hM.out; have := hJ.out; omega) ⟨5, [], l⟩ (by rw [← hJ.out]; simp)
      have y3' : X.drew.cell? ⟨g, q + 2, none⟩ = some (.int .i64 (l : Int)) := y3
      have hlo := Lib.hid (World.block_lt_of_cell? X.drew _ y3')
      have HY3 := Lib.hid y3'
      have hMb : M ≤ 9223372036854775807 := by
        rcases O.out.cases with ⟨_, h0, _⟩ | ⟨_, _, _, _, h3, h4⟩
        · omega
        · unfold maxLen at h4; omega
      have hsub2 : IntKind.i64.wrap ((M : Int) - 1) = (J : Int) := by rw [IntWalk.i64_in _ (by omega)]; have := hM.out; have := hJ.out; omega
      have hM0 : (0 : Int) < (M : Int) := by have := hM.out; omega
      have hM1 : 0 < M := by omega
      have hM2 : decide ((M : Int) > 0) = true := decide_eq_true hM0
      have hM3 : decide (0 < M) = true := decide_eq_true hM1
      have hll : ((l : Int) == (l : Int)) = true := beq_self_eq_true _
      have HW := Lib.hid (awake_c X.drew)
      have HBd : Hid (Below w.heap.size w X.drew) := HB.out.drew
      replace hg := Lib.hid hg
      clear HR B4 BX BL2 AV2 AU2 O y3 q1 q2 q3 q4 hMb hcd hrd HB
      go_wp2_with fail
      clear e3 e4 e5 e6 k0 k1 k2 k3 l0 l1 l2 l3 hz y0 y1
      rw [hb4.out]
      go_region_held3 (fun w' => w'.cell? ⟨b4, 0, none⟩ = some (.string ⟨#[]⟩) ∧ w'.cell? ⟨b4, 1, none⟩ = some (.slice ao2 0 d2) ∧ w'.cell? ⟨b4 + 1, 0, none⟩ = some (.int .i64 1) ∧ w'.cell? ⟨b4 + 1, 1, none⟩ = some (.int .i64 (l : Int)) ∧ w'.cell? ⟨g, q + 2, none⟩ = some (.int .i64 (l : Int))) (go_keep) (first
        | (go_at_call 11; refine HW.out.mono ?_; rintro e v1 ⟨rfl, B1⟩; have E9 := Lib.hid (A9.out.kept B1); have E10 := Lib.hid (A10.out.kept B1); have v0 : v1.cell? ⟨b4, 0, none⟩ = some (.string ⟨#[]⟩) := E9.out.cell 0; have v2 : v1.cell? ⟨b4, 1, none⟩ = some (.slice ao2 0 d2) := E9.out.cell 1; have v3 : v1.cell? ⟨b4 + 1, 0, none⟩ = some (.int .i64 1) := E10.out.cell 0; have v4 : v1.cell? ⟨b4 + 1, 1, none⟩ = some (.int .i64 (l : Int)) := E10.out.cell 1; have v5 := (B1.cell hlo.out).trans HY3.out; have hv5 := Lib.hid v5; have B7 := Lib.hid (HBd.out.trans (B1.mono HBd.out.size)); clear B1 u0 u1 u2 u3 y3')
        | (go_at_call 12; refine (HE.out _).mono ?_; rintro e t1 ⟨rfl, B2⟩; have F9 := Lib.hid (E9.out.kept B2); have F10 := Lib.hid (E10.out.kept B2); have t0 : t1.cell? ⟨b4, 0, none⟩ = some (.string ⟨#[]⟩) := F9.out.cell 0; have t2 : t1.cell? ⟨b4, 1, none⟩ = some (.slice ao2 0 d2) := F9.out.cell 1; have t3 : t1.cell? ⟨b4 + 1, 0, none⟩ = some (.int .i64 1) := F10.out.cell 0; have t4 : t1.cell? ⟨b4 + 1, 1, none⟩ = some (.int .i64 (l : Int)) := F10.out.cell 1; have t5 := (B2.cell (World.block_lt_of_cell? v1 _ hv5.out)).trans hv5.out; have B8 := Lib.hid (B7.out.trans (B2.mono B7.out.size)); clear B2 v0 v2 v3 v4 v5))
      all_goals
        go_wp2_with fail
        go_ret
        exact ⟨rfl, B8.out⟩
end Go.Proofs.Ytfknckbclddnmaa
