/-
  electionref04.Eq.
-/
import Derived.Test.YtfmpccfoemgiiaaDoorDigBytes
import Derived.Test.YtfmpccfoemgiiaaDoorDigReg
namespace Go.Proofs.YtfmpccfoemgiiaaDoor
open Go.RowKit Dig

theorem take_eq_next {xs ys : List Int} {i : Nat} (h : xs.take i = ys.take i) (hx : i < xs.length) (hy : i < ys.length) (he : xs.getD i 0 = ys.getD i 0) : xs.take (i + 1) = ys.take (i + 1) := by
  rw [take_next _ _ hx, take_next _ _ hy, h, he]

set_option maxHeartbeats 1600000 in
set_option maxRecDepth 100000 in
theorem eq_c (ao : Option Addr) (n c : Nat) (xs : List Int) (bo : Option Addr) (m d : Nat) (ys : List Int) (w : World) (hX : Lst .u8 w ao n c xs) (hY : Lst .u8 w bo m d ys) :
    Calls Tryd.prog 13 #[.slice ao n c, .slice bo m d] w fun e w' => e = .returned (.bool (decide (xs = ys))) ∧ Below w.heap.size w w' := by
  have HX := Lib.hid hX
  have HY := Lib.hid hY
  have hxl := Lib.hid hX.len
  have hyl := Lib.hid hY.len
  have r1 := hX.cap
  have r2 := hX.room
  have r3 := hY.cap
  have r4 := hY.room
  clear hX hY
  by_cases hnm : n = m
  · subst hnm
    go_enter Tryd.func13, Tryd.ntmps13
    go_wp2
    go_loopw [5] (fun v wr => ∃ i : Nat, i ≤ n ∧ v = .int .i64 i ∧ Hid (xs.take i = ys.take i) ∧ Below w.heap.size w wr) (fun v _ => n - (intOf v).toNat)
    case atStart => exact ⟨0, Nat.zero_le _, rfl, rfl, Below.refl _ _⟩
    case round =>
      obtain ⟨i, hi, rfl, ht, B⟩ := hrel
      have HB := Lib.hid B
      clear B
      by_cases hlt : i < n
      · have hlti : (i : Int) < (n : Int) := by omega
        obtain ⟨x, hx⟩ : ∃ x, Hid (xs.getD i 0 = x) := ⟨_, rfl⟩
        obtain ⟨y, hy⟩ : ∃ x, Hid (ys.getD i 0 = x) := ⟨_, rfl⟩
        have hix1 := ix8 HX.out i (i : Int) rfl hlt
        have hix2 := ix8 HY.out i (i : Int) rfl hlt
        have hc1 : Hid (wr.cell? (pt ao i) = some (.int .u8 x)) := by
          have := (HX.out.below HB.out).cell i hlt
          rw [hx.out] at this
          exact this
        have hc2 : Hid (wr.cell? (pt bo i) = some (.int .u8 y)) := by
          have := (HY.out.below HB.out).cell i hlt
          rw [hy.out] at this
          exact this
        by_cases hxy : x = y
        · have hnx : Hid (xs.take (i + 1) = ys.take (i + 1)) := take_eq_next ht.out (by rw [hxl.out]; exact hlt) (by rw [hyl.out]; exact hlt) (by rw [hx.out, hy.out, hxy])
          subst hxy
          go_upto_region 6 with (fail)
          refine wp_region_held_drew (S := fun w' => w'.cell? (pt ao i) = some (.int .u8 x) ∧ w'.cell? (pt bo i) = some (.int .u8 x)) (by kernel_rfl) (⟨hc1.out, hc2.out⟩) (fun hHeld => ?_)
          refine reg_take (i := 0) rfl (by kernel_rfl) (by kernel_rfl) (by kernel_rfl) (fun _ _ _ h => h) (by rfl) hHeld (v := ?v1) ?hy1 ?rest1
          case hy1 => (intro w' hSw; go_simp <;> try rfl)
          try simp only [Act.put, List.setIfInBounds_toArray, List.set_cons_zero, List.set_cons_succ]
          refine reg_take (i := 1) rfl (by kernel_rfl) (by kernel_rfl) (by kernel_rfl) (fun _ _ _ h => h) (by rfl) hHeld (v := ?v2) ?hy2 ?rest2
          case hy2 => (intro w' hSw; go_simp <;> try rfl)
          try simp only [Act.put, List.setIfInBounds_toArray, List.set_cons_zero, List.set_cons_succ]
          refine reg_take (i := 2) rfl (by kernel_rfl) (by kernel_rfl) (by kernel_rfl) (fun _ _ _ h => h) (by rfl) hHeld (v := ?v3) ?hy3 ?rest3
          case hy3 => (intro w' hSw; go_simp <;> try rfl)
          try simp only [Act.put, List.setIfInBounds_toArray, List.set_cons_zero, List.set_cons_succ]
          refine reg_take (i := 3) rfl (by kernel_rfl) (by kernel_rfl) (by kernel_rfl) (fun _ _ _ h => h) (by rfl) hHeld (v := ?v4) ?hy4 ?rest4
          case hy4 => (intro w' hSw; have hc := hSw.1; go_simp <;> try rfl)
          try simp only [Act.put, List.setIfInBounds_toArray, List.set_cons_zero, List.set_cons_succ]
          refine reg_take (i := 4) rfl (by kernel_rfl) (by kernel_rfl) (by kernel_rfl) (fun _ _ _ h => h) (by rfl) hHeld (v := ?v5) ?hy5 ?rest5
          case hy5 => (intro w' hSw; go_simp <;> try rfl)
          try simp only [Act.put, List.setIfInBounds_toArray, List.set_cons_zero, List.set_cons_succ]
          refine reg_take (i := 5) rfl (by kernel_rfl) (by kernel_rfl) (by kernel_rfl) (fun _ _ _ h => h) (by rfl) hHeld (v := ?v6) ?hy6 ?rest6
          case hy6 => (intro w' hSw; go_simp <;> try rfl)
          try simp only [Act.put, List.setIfInBounds_toArray, List.set_cons_zero, List.set_cons_succ]
          refine reg_take (i := 6) rfl (by kernel_rfl) (by kernel_rfl) (by kernel_rfl) (fun _ _ _ h => h) (by rfl) hHeld (v := ?v7) ?hy7 ?rest7
          case hy7 => (intro w' hSw; go_simp <;> try rfl)
          try simp only [Act.put, List.setIfInBounds_toArray, List.set_cons_zero, List.set_cons_succ]
          refine reg_take (i := 7) rfl (by kernel_rfl) (by kernel_rfl) (by kernel_rfl) (fun _ _ _ h => h) (by rfl) hHeld (v := ?v8) ?hy8 ?rest8
          case hy8 => (intro w' hSw; have hc := hSw.2; go_simp <;> try rfl)
          try simp only [Act.put, List.setIfInBounds_toArray, List.set_cons_zero, List.set_cons_succ]
          refine reg_take (i := 8) rfl (by kernel_rfl) (by kernel_rfl) (by kernel_rfl) (fun _ _ _ h => h) (by rfl) hHeld (v := ?v9) ?hy9 ?rest9
          case hy9 => (intro w' hSw; go_simp <;> try rfl)
          try simp only [Act.put, List.setIfInBounds_toArray, List.set_cons_zero, List.set_cons_succ]
          refine wpAnyH_done (by kernel_rfl) ?_ _
          go_wp2
          go_roundw
          case rel => exact ⟨i + 1, by omega, by go_num, hnx.out, below_drew2 HB.out⟩
          case measure => simp [intOf]; omega
        · have hne : Hid (xs ≠ ys) := fun e => hxy (by rw [← hx.out, ← hy.out, e])
          have hxyb : (x == y) = false := beq_eq_false_iff_ne.2 hxy
          go_upto_region 6 with (fail)
          refine wp_region_held_drew (S := fun w' => w'.cell? (pt ao i) = some (.int .u8 x) ∧ w'.cell? (pt bo i) = some (.int .u8 y)) (by kernel_rfl) (⟨hc1.out, hc2.out⟩) (fun hHeld => ?_)
          refine reg_take (i := 0) rfl (by kernel_rfl) (by kernel_rfl) (by kernel_rfl) (fun _ _ _ h => h) (by rfl) hHeld (v := ?v51) ?hy51 ?rest51
          case hy51 => (intro w' hSw; go_simp <;> try rfl)
          try simp only [Act.put, List.setIfInBounds_toArray, List.set_cons_zero, List.set_cons_succ]
          refine reg_take (i := 1) rfl (by kernel_rfl) (by kernel_rfl) (by kernel_rfl) (fun _ _ _ h => h) (by rfl) hHeld (v := ?v52) ?hy52 ?rest52
          case hy52 => (intro w' hSw; go_simp <;> try rfl)
          try simp only [Act.put, List.setIfInBounds_toArray, List.set_cons_zero, List.set_cons_succ]
          refine reg_take (i := 2) rfl (by kernel_rfl) (by kernel_rfl) (by kernel_rfl) (fun _ _ _ h => h) (by rfl) hHeld (v := ?v53) ?hy53 ?rest53
          case hy53 => (intro w' hSw; go_simp <;> try rfl)
          try simp only [Act.put, List.setIfInBounds_toArray, List.set_cons_zero, List.set_cons_succ]
          refine reg_take (i := 3) rfl (by kernel_rfl) (by kernel_rfl) (by kernel_rfl) (fun _ _ _ h => h) (by rfl) hHeld (v := ?v54) ?hy54 ?rest54
          case hy54 => (intro w' hSw; have hc := hSw.1; go_simp <;> try rfl)
          try simp only [Act.put, List.setIfInBounds_toArray, List.set_cons_zero, List.set_cons_succ]
          refine reg_take (i := 4) rfl (by kernel_rfl) (by kernel_rfl) (by kernel_rfl) (fun _ _ _ h => h) (by rfl) hHeld (v := ?v55) ?hy55 ?rest55
          case hy55 => (intro w' hSw; go_simp <;> try rfl)
          try simp only [Act.put, List.setIfInBounds_toArray, List.set_cons_zero, List.set_cons_succ]
          refine reg_take (i := 5) rfl (by kernel_rfl) (by kernel_rfl) (by kernel_rfl) (fun _ _ _ h => h) (by rfl) hHeld (v := ?v56) ?hy56 ?rest56
          case hy56 => (intro w' hSw; go_simp <;> try rfl)
          try simp only [Act.put, List.setIfInBounds_toArray, List.set_cons_zero, List.set_cons_succ]
          refine reg_take (i := 6) rfl (by kernel_rfl) (by kernel_rfl) (by kernel_rfl) (fun _ _ _ h => h) (by rfl) hHeld (v := ?v57) ?hy57 ?rest57
          case hy57 => (intro w' hSw; go_simp <;> try rfl)
          try simp only [Act.put, List.setIfInBounds_toArray, List.set_cons_zero, List.set_cons_succ]
          refine reg_take (i := 7) rfl (by kernel_rfl) (by kernel_rfl) (by kernel_rfl) (fun _ _ _ h => h) (by rfl) hHeld (v := ?v58) ?hy58 ?rest58
          case hy58 => (intro w' hSw; have hc := hSw.2; go_simp <;> try rfl)
          try simp only [Act.put, List.setIfInBounds_toArray, List.set_cons_zero, List.set_cons_succ]
          refine reg_take (i := 8) rfl (by kernel_rfl) (by kernel_rfl) (by kernel_rfl) (fun _ _ _ h => h) (by rfl) hHeld (v := ?v59) ?hy59 ?rest59
          case hy59 => (intro w' hSw; go_simp <;> try rfl)
          try simp only [Act.put, List.setIfInBounds_toArray, List.set_cons_zero, List.set_cons_succ]
          refine wpAnyH_done (by kernel_rfl) ?_ _
          go_wp2
          go_ret
          exact ⟨by rw [decide_eq_false hne.out]; rfl, below_drew2 HB.out⟩
      · obtain rfl : i = n := by omega
        have he : xs = ys := by
          have := ht.out
          rwa [List.take_of_length_le (Nat.le_of_eq hxl.out), List.take_of_length_le (Nat.le_of_eq hyl.out)] at this
        go_wp2
        go_ret
        exact ⟨by rw [decide_eq_true he]; rfl, HB.out⟩
  · have hne : xs ≠ ys := fun e => hnm (by rw [← hxl.out, ← hyl.out, e])
    have hnmi : ¬ ((n : Int) = (m : Int)) := by omega
    have hnmb : ((n : Int) == (m : Int)) = false := beq_eq_false_iff_ne.2 hnmi
    go_enter Tryd.func13, Tryd.ntmps13
    go_wp2
    go_ret
    exact ⟨by rw [decide_eq_false hne]; rfl, Below.refl _ _⟩
end Go.Proofs.YtfmpccfoemgiiaaDoor

