/-
  The walk of SyntaxPrint.
-/
import Derived.Test.YtfknckbclddnmaaSynAwake
import Derived.Test.YtfknckbclddnmaaSynRPrint
import Derived.Test.YtfknckbclddnmaaSynStart
namespace Go.Proofs.Ytfknckbclddnmaa
open Go.RowKit Lx

namespace Lx
theorem short_cut (s : Src) : shortS (cutD s) := by
  have hm : ∀ (α : Type) (l : List α) (f : α → α) (n : Nat) (x : α), x ∈ (l.take n).map f → ∃ y, x = f y := by
    intro α l f n x hx
    obtain ⟨y, _, rfl⟩ := List.mem_map.1 hx
    exact ⟨y, rfl⟩
  refine ⟨by show (List.take _ _).length ≤ _; rw [List.length_take]; omega, fun b hb => ?_⟩
  obtain ⟨y, rfl⟩ := hm _ _ _ _ _ hb
  refine ⟨by show (List.take _ _).length ≤ _; rw [List.length_take]; omega, by show (List.take _ _).length ≤ _; rw [List.length_take]; omega, fun f hf => ?_⟩
  obtain ⟨g, rfl⟩ := hm _ _ _ _ _ hf
  refine ⟨by show (List.take _ _).length ≤ _; rw [List.length_take]; omega, fun v hv => ?_⟩
  obtain ⟨u, rfl⟩ := hm _ _ _ _ _ hv
  rw [List.length_take]
  omega
end Lx

set_option maxHeartbeats 12800000 in
set_option maxRecDepth 100000 in
theorem printLaw_c (t : List UInt8) (ao : Option Addr) (n c : Nat) (bs : List Blc) (w : World) (h : BlkL false anyF w ao n c bs) :
    Calls Try.prog 4 #[.agg #[.string (stg t), .slice ao n c]] w fun e w' => e = .returned (.bool true) ∧ Below w.heap.size w w' := by
  obtain ⟨V, T, K, cs, e1, y0, y1, hT, hK, hcs, HC⟩ := cut_start t ao n c bs w h
  have hsm := Lib.hid (small_cut ⟨t, bs⟩)
  have hsh := Lib.hid (short_cut ⟨t, bs⟩)
  obtain ⟨s, hs⟩ : ∃ s, Hid (cutD ⟨t, bs⟩ = s) := ⟨_, rfl⟩
  have hs1 : Hid (stg s.title = K) := by show _ = _; rw [← hs.out, ← hK.out]; rfl
  have hs2 : Hid (s.blks = cs) := by show _ = _; rw [← hs.out, ← hcs.out]; rfl
  rw [hs.out] at hsm hsh
  rw [hT.out]
  go_enter Try.func4, Try.ntmps4
  go_wp2_with fail
  refine HC.out.mono ?_
  rintro e w1 ⟨ro, m, d, rfl, W, e2, f0, f1, f2, f3, AW, BL, HB⟩
  have r0 : W.cell? ⟨w.heap.size, 0, none⟩ = some (.string K) := AW.out.cell 0
  have r1 : W.cell? ⟨w.heap.size, 1, none⟩ = some (.slice ro m d) := AW.out.cell 1
  have HP := pPrint_c false anyF s ro m d W (by rw [hs2.out]; exact BL.out) hsm.out
  obtain ⟨F, hF⟩ : ∃ F, Hid (okP s = F) := ⟨_, rfl⟩
  obtain ⟨R, hR⟩ : ∃ R, Hid ((if F = true then stg (srcP s) else ⟨#[]⟩ : ByteArray) = R) := ⟨_, rfl⟩
  unfold PrintOut at HP
  rw [hs1.out, hF.out, hR.out] at HP
  replace HP := Lib.hid HP
  go_wp2_with fail
  clear e1 e2 f0 f1 f2 f3 r0 r1 y0 y1
  refine HP.out.mono ?_
  rintro e w2 ⟨rfl, B2⟩
  have r0 : w2.cell? ⟨w.heap.size, 0, none⟩ = some (.string K) := (AW.out.kept B2).cell 0
  have r1 : w2.cell? ⟨w.heap.size, 1, none⟩ = some (.slice ro m d) := (AW.out.kept B2).cell 1
  have HQ := rPrint_c false s ro m d w2 (by rw [hs2.out]; exact BlkL.keep BL.out stable_any (keeps_below _ B2)) hsh.out
  unfold PrintOut at HQ
  rw [hs1.out, hF.out, hR.out] at HQ
  replace HQ := Lib.hid HQ
  have HB : Hid (Below w.heap.size w w2) := HB.out.trans (B2.mono HB.out.size)
  clear HP B2 HC AW BL
  go_wp2_with fail
  clear r0 r1
  refine HQ.out.mono ?_
  rintro e w3 ⟨rfl, B3⟩
  have HW := Lib.hid (awake_c w3)
  have HB : Hid (Below w.heap.size w w3) := HB.out.trans (B3.mono HB.out.size)
  have hFF : (F == F) = true := beq_self_eq_true _
  have hRR : (R.toList == R.toList) = true := beq_self_eq_true _
  clear HQ B3
  go_wp2_with fail
  refine HW.out.mono ?_
  rintro e w4 ⟨rfl, B4⟩
  go_wp2_with fail
  go_ret
  exact ⟨rfl, HB.out.trans (B4.mono HB.out.size)⟩
end Go.Proofs.Ytfknckbclddnmaa
