/-
  nat.estimate, nat.subtractProduct, nat.addBack, nat.divideStep.
-/
import Derived.Test.YtmojcnlddfijjaaDoorNatShift
import Derived.BigQuiet
import Derived.Deep.QuietTactic
namespace Go.Proofs.YtmojcnlddfijjaaDoor
open Go.RowKit NatMath

theorem ddx (w : World) (a b : Nat) : ∃ q, w.drewN q = (w.drewN a).drewN b := dd w a b

theorem ixs {ao : Option Addr} {n c : Nat} {xs : List Int} {w : World} (h : Lst .u32 w ao n c xs) {i : Nat} (hi : i < n) {j : Int} (hj : j = (i : Int)) :
    ∀ W, (Instr.indexAt 23 (.slice ao n c) (.int .i64 j)).run Tryd.prog W = .ok (.pointer (some (pt ao i))) W := by
  rw [hj]; exact ix h i hi

set_option maxHeartbeats 3200000 in
set_option maxRecDepth 100000 in
theorem estimate_c (a b : Option Addr) (c d : Nat) (r0 r1 r2 v0 v1 : Nat) (w : World) (h : Lst .u32 w a 3 c [(r0 : Int), r1, r2]) (k : Lst .u32 w b 2 d [(v0 : Int), v1]) (hv : 0 < v1) (hrv : r2 ≤ v1) :
    Calls Tryd.prog 109 #[.slice a 3 c, .slice b 2 d] w fun e w' => e = .returned (.int .u32 (qhat ((r2 * 4294967296 + r1) * 4294967296 + r0) (v1 * 4294967296 + v0) : Nat)) ∧ ∃ q, w.drewN q = w' := by
  have b0 := h.ok (r0 : Int) (by simp)
  have b1 := h.ok (r1 : Int) (by simp)
  have b2 := h.ok (r2 : Int) (by simp)
  have d0 := k.ok (v0 : Int) (by simp)
  have d1 := k.ok (v1 : Int) (by simp)
  have i2 := ixs h (show 2 < 3 by omega) (show (2 : Int) = ((2 : Nat) : Int) by rfl)
  have i1 := ixs h (show 1 < 3 by omega) (show (1 : Int) = ((1 : Nat) : Int) by rfl)
  have i0 := ixs h (show 0 < 3 by omega) (show (0 : Int) = ((0 : Nat) : Int) by rfl)
  have j1 := ixs k (show 1 < 2 by omega) (show (1 : Int) = ((1 : Nat) : Int) by rfl)
  have j0 := ixs k (show 0 < 2 by omega) (show (0 : Int) = ((0 : Nat) : Int) by rfl)
  have c2 : w.cell? (pt a 2) = some (.int .u32 (r2 : Int)) := h.cell 2 (by omega)
  have c1 : w.cell? (pt a 1) = some (.int .u32 (r1 : Int)) := h.cell 1 (by omega)
  have c0 : w.cell? (pt a 0) = some (.int .u32 (r0 : Int)) := h.cell 0 (by omega)
  have e1 : w.cell? (pt b 1) = some (.int .u32 (v1 : Int)) := k.cell 1 (by omega)
  have e0 : w.cell? (pt b 0) = some (.int .u32 (v0 : Int)) := k.cell 0 (by omega)
  have or1 := or_u64 (r2 : Int) (r1 : Int) (by omega) (by omega) (by omega) (by omega)
  have hz : ((v1 : Int) == 0) = false := by simp; omega
  obtain ⟨hi, hhi⟩ : ∃ x, Hid (x = r2 * 4294967296 + r1) := ⟨_, rfl⟩
  have hHi : hi ≤ v1 * 4294967296 + 4294967295 := by
    rw [hhi.out]
    clear or1 hhi i2 i1 i0 j1 j0
    omega
  have hHb : hi ≤ 18446744073709551615 := by rw [hhi.out]; omega
  have hst := Lib.hid (EstInv.start (r0 := r0) (high := hi) (v1 := v1) (v0 := v0) (by omega) hv (by omega))
  have eD : Hid (((hi / v1 : Nat) : Int) = ((r2 : Int) * 4294967296 + (r1 : Int)) / (v1 : Int)) := by show _ = _; rw [hhi.out]; simp
  have eM : Hid (((hi % v1 : Nat) : Int) = ((r2 : Int) * 4294967296 + (r1 : Int)) % (v1 : Int)) := by show _ = _; rw [hhi.out]; simp
  rw [← hhi.out]
  obtain ⟨Q, hQ⟩ : ∃ x, Hid (x = qhat (hi * 4294967296 + r0) (v1 * 4294967296 + v0)) := ⟨_, rfl⟩
  rw [← hQ.out]
  go_enter Tryd.func109, Tryd.ntmps109
  go_wp2_with fail
  go_quiet (fail)
  go_wp2_with fail
  go_quiet (fail)
  go_wp2_with fail
  go_loopw [7, 8] (fun s7 s8 wr => ∃ g l : Nat, s7 = .int .u64 g ∧ s8 = .int .u64 l ∧ EstInv r0 hi v1 v0 g l ∧ ∃ q, w.drewN q = wr) (fun s7 _ _ => (intOf s7).toNat)
  case atStart => exact ⟨hi / v1, hi % v1, by rw [eD.out], by rw [eM.out], hst.out, ddx _ _ _⟩
  case round =>
    obtain ⟨g, l, rfl, rfl, hinv, q, rfl⟩ := hrel
    clear hst eD eM
    have hgb : g ≤ 18446744073709551615 := by
      have h1 := hinv.eq
      have h2 := Nat.le_mul_of_pos_right g hv
      omega
    have hlb := hinv.left
    have or2 := or_u64 (l : Int) (r0 : Int) (by omega) (by omega) (by omega) (by omega)
    by_cases hA : 4294967295 < g
    · have hg0 : ((g : Int) / 4294967296 != 0) = true := by simp; omega
      have hm : 4294967295 < g ∨ g * v0 > l * 4294967296 + r0 := Or.inl hA
      by_cases hl : l + v1 ≤ 4294967295
      · have hl0 : (((l : Int) + (v1 : Int)) / 4294967296 == 0) = true := by simp; omega
        have R1 := Lib.hid (hinv.next hv hm hl)
        clear hinv hm
        go_wp2_with fail
        go_quiet (fail)
        go_wp2_with fail
        go_roundw
        case rel => exact ⟨g - 1, l + v1, by go_num, by go_num, R1.out, ⟨_, rfl⟩⟩
        case measure => simp [intOf] <;> omega
      · have hl0 : (((l : Int) + (v1 : Int)) / 4294967296 == 0) = false := by simp; omega
        have hbk := hinv.break hv (by omega) hHi hm (by omega)
        have hfin := hbk.2
        have hg1 := hbk.1
        have HF := Lib.hid hfin
        clear hinv hm hfin hbk
        go_wp2_with fail
        go_quiet (fail)
        go_wp2_with fail
        go_ret
        refine ⟨?_, _, rfl⟩
        rw [hQ.out, ← HF.out]
        go_num
    · have hg0 : ((g : Int) / 4294967296 != 0) = false := by simp; omega
      have hpb := Nat.mul_le_mul (show g ≤ 4294967295 by omega) (show v0 ≤ 4294967295 by omega)
      have eP : ((g * v0 : Nat) : Int) = (g : Int) * (v0 : Int) := by simp
      have hq0 : (0 : Int) ≤ (g : Int) * (v0 : Int) := by rw [← eP]; omega
      have hq1 : (g : Int) * (v0 : Int) ≤ 18446744065119617025 := by rw [← eP]; omega
      by_cases hB : g * v0 > l * 4294967296 + r0
      · have hgt : decide ((l : Int) * 4294967296 + (r0 : Int) < (g : Int) * (v0 : Int)) = true := by rw [← eP]; simp; omega
        have hm : 4294967295 < g ∨ g * v0 > l * 4294967296 + r0 := Or.inr hB
        have hgp := (hinv.down hv hm).1
        clear hB eP
        by_cases hl : l + v1 ≤ 4294967295
        · have hl0 : (((l : Int) + (v1 : Int)) / 4294967296 == 0) = true := by simp; omega
          have R1 := Lib.hid (hinv.next hv hm hl)
          clear hinv hm
          go_wp2_with fail
          go_quiet (fail)
          go_wp2_with fail
          go_roundw
          case rel => exact ⟨g - 1, l + v1, by go_num, by go_num, R1.out, ⟨_, rfl⟩⟩
          case measure => simp [intOf] <;> omega
        · have hl0 : (((l : Int) + (v1 : Int)) / 4294967296 == 0) = false := by simp; omega
          have hbk := hinv.break hv (by omega) hHi hm (by omega)
          have hfin := hbk.2
          have hg1 := hbk.1
          have HF := Lib.hid hfin
          clear hinv hm hfin hbk
          go_wp2_with fail
          go_quiet (fail)
          go_wp2_with fail
          go_ret
          refine ⟨?_, _, rfl⟩
          rw [hQ.out, ← HF.out]
          go_num
      · have hgt : decide ((l : Int) * 4294967296 + (r0 : Int) < (g : Int) * (v0 : Int)) = false := by rw [← eP]; simp; omega
        have hfin := hinv.done hv (by omega) hB
        have HF := Lib.hid hfin
        clear hinv hfin hB eP
        go_wp2_with fail
        go_quiet (fail)
        go_wp2_with fail
        go_ret
        refine ⟨?_, _, rfl⟩
        rw [hQ.out, ← HF.out]
        go_num
end Go.Proofs.YtmojcnlddfijjaaDoor
