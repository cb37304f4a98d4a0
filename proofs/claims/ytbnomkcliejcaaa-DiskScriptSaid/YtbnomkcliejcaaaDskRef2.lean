/-
  The reference's Fuse, Read, Dirty.
-/
import Derived.Test.YtbnomkcliejcaaaDskRef
namespace Go.Proofs.Ytbnomkcliejcaaa
open Go.RowKit Ds
attribute [local go_sem] Oper.semAt_some
set_option linter.unusedSimpArgs false

def Rf.light (r : Rf) (x : Int) : Rf := { r with has := decide (0 ≤ x), left := max x 0 }
theorem ixRow (a n c i : Nat) (hi : i < n) (W : World) : (Instr.indexAt 52 (.slice (some ⟨a, 0, none⟩) n c) (.int .i64 (i : Int))).run Try.prog W = .ok (.pointer (some ⟨a, i, none⟩)) W := by
  obtain ⟨inf, hinf, hs⟩ := Option.map_eq_some_iff.1 sizeRow
  have e := pt_own a i
  simp only [pt, Option.getD_some] at e
  simp [Instr.indexAt, run_underlying Try.underlying52, asIntOf, sizeOf, typeInfo, hinf, hs, hi, e]
theorem ixBool (a n c i : Nat) (hi : i < n) (W : World) : (Instr.indexAt 28 (.slice (some ⟨a, 0, none⟩) n c) (.int .i64 (i : Int))).run Try.prog W = .ok (.pointer (some ⟨a, i, none⟩)) W := by
  obtain ⟨inf, hinf, hs⟩ := Option.map_eq_some_iff.1 sizeT
  have e := pt_own a i
  simp only [pt, Option.getD_some] at e
  simp [Instr.indexAt, run_underlying Try.underlying28, asIntOf, sizeOf, typeInfo, hinf, hs, hi, e]
section
variable {w w' : World} {q s l t n sc lc tc : Nat} {r : Rf}
set_option maxHeartbeats 1600000 in
theorem rfuse_c (h : RefD w q s l t n sc lc tc r) (x : Int) : Calls Try.prog 18 #[.pointer (some ⟨q, 0, none⟩), .int .i64 x] w fun e w' => e = .returned (.tuple #[]) ∧ RefD w' q s l t n sc lc tc (r.light x) ∧ ROff q s l t w w' := by
  obtain ⟨_, _, _, k3, k4, _⟩ := h.cells
  have f3 := h.box.frozen 3
  have f4 := h.box.frozen 4
  have h3 : RefD (w.setCell ⟨q, 3, none⟩ (.bool (decide (0 ≤ x)))) q s l t n sc lc tc { r with has := decide (0 ≤ x) } := h.setBox _ 3 _ rfl rfl rfl rfl
  have hD : Hid (RefD ((w.setCell ⟨q, 3, none⟩ (.bool (decide (0 ≤ x)))).setCell ⟨q, 4, none⟩ (.int .i64 (max x 0))) q s l t n sc lc tc (r.light x) ∧ ROff q s l t w ((w.setCell ⟨q, 3, none⟩ (.bool (decide (0 ≤ x)))).setCell ⟨q, 4, none⟩ (.int .i64 (max x 0)))) :=
    ⟨h3.setBox _ 4 _ rfl rfl rfl rfl, (ROff.of_grown (grown_setG w q 3 _) (Or.inl rfl)).trans (ROff.of_grown (grown_setG _ q 4 _) (Or.inl rfl))⟩
  clear h h3
  go_enter Try.func18, Try.ntmps18
  go_wp2
  go_end0
  exact ⟨rfl, hD.out⟩
set_option maxHeartbeats 1600000 in
theorem rread_c (h : RefD w q s l t n sc lc tc r) (hg : r.gone = false) (i : Nat) (hi : i < n) : Calls Try.prog 13 #[.pointer (some ⟨q, 0, none⟩), .int .i64 (i : Int)] w fun e w' => ∃ v, e = .returned (.tuple #[v, .int .i64 0]) ∧ By w v (r.last.getD i []) ∧ w = w' := by
  obtain ⟨_, k1, _, _, _, k5⟩ := h.cells
  rw [hg] at k5
  obtain ⟨v, hv, hB⟩ := h.last.get hi
  have hix := ixRow l n lc i hi
  have hi' : ¬ (i : Int) ≥ (n : Int) := by omega
  have hB := Lib.hid hB
  clear h hg
  go_enter Try.func13, Try.ntmps13
  go_wp2
  go_ret2
  exact ⟨v, rfl, hB.out, rfl⟩
theorem rreadDown_c (h : RefD w q s l t n sc lc tc r) (hg : r.gone = true) (x : Int) : Calls Try.prog 13 #[.pointer (some ⟨q, 0, none⟩), .int .i64 x] w fun e w' => e = .returned (.tuple #[.slice none 0 0, .int .i64 12]) ∧ w = w' := by
  obtain ⟨_, _, _, _, _, k5⟩ := h.cells
  rw [hg] at k5
  clear h hg
  go_enter Try.func13, Try.ntmps13
  go_wp2
  go_ret2
  exact ⟨rfl, rfl⟩
theorem rreadOut_c (h : RefD w q s l t n sc lc tc r) (hg : r.gone = false) (x : Int) (hx : ¬ (0 ≤ x ∧ x < n)) : Calls Try.prog 13 #[.pointer (some ⟨q, 0, none⟩), .int .i64 x] w fun e w' => e = .returned (.tuple #[.slice none 0 0, .int .i64 4]) ∧ w = w' := by
  obtain ⟨_, k1, _, _, _, k5⟩ := h.cells
  rw [hg] at k5
  clear h hg
  by_cases h0 : x < 0
  · clear hx
    go_enter Try.func13, Try.ntmps13
    go_wp2
    go_ret2
    exact ⟨rfl, rfl⟩
  · have h1 : x ≥ (n : Int) := by omega
    clear hx
    go_enter Try.func13, Try.ntmps13
    go_wp2
    go_ret2
    exact ⟨rfl, rfl⟩
set_option maxHeartbeats 3200000 in
theorem rdirty_c (h : RefD w q s l t n sc lc tc r) (hn : n ≤ 4096) : Calls Try.prog 34 #[.pointer (some ⟨q, 0, none⟩)] w fun e w' => e = .returned (.int .i64 ((r.dirt.filter id).length : Int)) ∧ w = w' := by
  obtain ⟨_, _, k2, _, _, _⟩ := h.cells
  have hT := Lib.hid h.dirt
  have hl := Lib.hid h.dirt.1
  clear h
  go_enter Try.func34, Try.ntmps34
  go_wp2_with fail
  go_loop [3, 5, 11] (fun v _ i => ∃ j : Nat, j ≤ n ∧ i = .int .i64 (j : Int) ∧ v = .int .i64 (((r.dirt.take j).filter id).length : Int)) (fun _ _ i => n - (intOf i).toNat)
  case atStart => exact ⟨0, by omega, rfl, rfl⟩
  case round =>
    obtain ⟨j, hj, rfl, rfl⟩ := hrel
    by_cases hlt : j < n
    · have hlt' : (j : Int) < (n : Int) := by omega
      have hix := ixBool t n tc j hlt
      have hce := hT.out.get hlt
      have hjl : j < r.dirt.length := by rw [hl.out]; exact hlt
      have htk : r.dirt.take (j + 1) = r.dirt.take j ++ [r.dirt.getD j false] := by
        rw [List.take_succ_eq_append_getElem hjl]
        simp [List.getD, hjl]
      obtain ⟨b, hb⟩ : ∃ b, r.dirt.getD j false = b := ⟨_, rfl⟩
      rw [hb] at hce htk
      obtain ⟨N, hN⟩ : ∃ N, ((r.dirt.take j).filter id).length = N := ⟨_, rfl⟩
      have hNb : N ≤ 4096 := by
        rw [← hN]
        exact Nat.le_trans (List.length_filter_le _ _) (by simp; omega)
      rw [hN]
      cases b with
      | true =>
        have hN2 : Hid (((r.dirt.take (j + 1)).filter id).length = N + 1) := by show _ = _; rw [htk, List.filter_append, List.length_append, hN]; rfl
        clear htk hb hN hjl
        go_wp2_with fail
        go_round
        case rel => exact ⟨j + 1, by omega, by go_num, by rw [hN2.out]; go_num⟩
        case measure => simp [intOf]; omega
      | false =>
        have hN2 : Hid (((r.dirt.take (j + 1)).filter id).length = N) := by show _ = _; rw [htk, List.filter_append, List.length_append, hN]; rfl
        clear htk hb hN hjl
        go_wp2_with fail
        go_round
        case rel => exact ⟨j + 1, by omega, by go_num, by rw [hN2.out]⟩
        case measure => simp [intOf]; omega
    · have hlt' : ¬ (j : Int) < (n : Int) := by omega
      rw [List.take_of_length_le (by rw [hl.out]; omega)]
      go_wp2_with fail
      go_ret
      exact ⟨rfl, rfl⟩
end
end Go.Proofs.Ytbnomkcliejcaaa
