/-
  electionref04.Join.
-/
import Derived.Test.YtfmpccfoemgiiaaDoorDigJoin
import Derived.Test.YtfmpccfoemgiiaaDoorDigReg
namespace Go.Proofs.YtfmpccfoemgiiaaDoor
open Go.RowKit Dig

set_option maxHeartbeats 3200000 in
set_option maxRecDepth 100000 in
theorem refjoin_c (ao : Option Addr) (n c : Nat) (ps : List (List Int)) (w : World) (h : Parts w ao n c ps) (hn : n ≤ 1000) (hB : ∀ p ∈ ps, p.length ≤ 1000) :
    Calls Tryd.prog 15 #[.slice ao n c] w fun e w' => ∃ ao' m' c', e = .returned (.slice ao' m' c') ∧ Own 5 .u8 w.heap.size w' ao' m' c' (joinL ps) ∧ Below w.heap.size w w' := by
  have HPL := Lib.hid h.len
  have hcap := h.cap
  have hroom := h.room
  have HTL : Hid (∀ i, (joinL (ps.take i)).length ≤ 1004000) := fun i => take_len_le ps 1000 i hB (by rw [h.len]; exact hn) (by omega)
  have HH := Lib.hid h
  clear h
  have O1 : Own 5 .u8 w.heap.size w none 0 0 (joinL (ps.take 0)) := own_nil _ _ _ _
  go_enter Tryd.func15, Tryd.ntmps15
  go_wp2
  go_loopw [3, 4] (fun v x wr => ∃ (i l : Nat) (a : Option Addr) (d : Nat), i ≤ n ∧ x = .int .i64 i ∧ v = .slice a l d ∧ Own 5 .u8 w.heap.size wr a l d (joinL (ps.take i)) ∧ Below w.heap.size w wr)
    (fun _ x _ => n - (intOf x).toNat)
  case atStart => exact ⟨0, 0, _, _, by omega, rfl, rfl, O1, Below.refl _ _⟩
  case round =>
    clear O1
    obtain ⟨i, l, a, d, hi, rfl, rfl, O, B⟩ := hrel
    have hll : l ≤ 1004000 := by rw [← O.len]; exact HTL.out i
    have zB := B.size
    by_cases hlt : i < n
    · obtain ⟨a1, l1, d1, hc0, hL, h0⟩ := HH.out.part i hlt
      have hlo := World.block_lt_of_cell? w _ hc0
      have hix := ix28 HH.out i hlt
      have hc : wr.cell? (pt ao i) = some (.slice a1 l1 d1) := (B.cell hlo).trans hc0
      have hlt' : (i : Int) < (n : Int) := by omega
      have hl1 : l1 ≤ 1000 := by rw [← hL.len]; exact hB _ (getD_mem (by rw [HPL.out]; exact hlt))
      have HLs := Lib.hid hL
      have H0 := Lib.hid h0
      obtain ⟨b0, hb0'⟩ : ∃ b : Nat, Hid (b = l1 / 256 ^ 3 % 256) := ⟨l1 / 256 ^ 3 % 256, rfl⟩
      obtain ⟨b1, hb1'⟩ : ∃ b : Nat, Hid (b = l1 / 256 ^ 2 % 256) := ⟨l1 / 256 ^ 2 % 256, rfl⟩
      obtain ⟨b2, hb2'⟩ : ∃ b : Nat, Hid (b = l1 / 256 ^ 1 % 256) := ⟨l1 / 256 ^ 1 % 256, rfl⟩
      obtain ⟨b3, hb3'⟩ : ∃ b : Nat, Hid (b = l1 / 256 ^ 0 % 256) := ⟨l1 / 256 ^ 0 % 256, rfl⟩
      have hnx : Hid (joinL (ps.take i) ++ [(b0 : Int), (b1 : Int), (b2 : Int), (b3 : Int)] ++ ps.getD i [] = joinL (ps.take (i + 1))) := by
        show _ = _
        rw [joinL_next ps i (by rw [HPL.out]; exact hlt), hL.len, List.append_assoc, hb0'.out, hb1'.out, hb2'.out, hb3'.out]
        rfl
      have hb0 : 0 ≤ (b0 : Int) ∧ (b0 : Int) ≤ 255 := by rw [hb0'.out]; omega
      have hb1 : 0 ≤ (b1 : Int) ∧ (b1 : Int) ≤ 255 := by rw [hb1'.out]; omega
      have hb2 : 0 ≤ (b2 : Int) ∧ (b2 : Int) ≤ 255 := by rw [hb2'.out]; omega
      have hb3 : 0 ≤ (b3 : Int) ∧ (b3 : Int) ≤ 255 := by rw [hb3'.out]; omega
      have e : IntKind.u32.wrap (l1 : Int) = (l1 : Int) := by rw [IntKind.wrap_u32']; omega
      have e0 : IntKind.u8.wrap ((l1 : Int) / 16777216) = (b0 : Int) := by rw [IntKind.wrap_u8', hb0'.out]; omega
      have e1 : IntKind.u8.wrap ((l1 : Int) / 65536) = (b1 : Int) := by rw [IntKind.wrap_u8', hb1'.out]; omega
      have e2 : IntKind.u8.wrap ((l1 : Int) / 256) = (b2 : Int) := by rw [IntKind.wrap_u8', hb2'.out]; omega
      have e3 : IntKind.u8.wrap (l1 : Int) = (b3 : Int) := by rw [IntKind.wrap_u8', hb3'.out]; omega
      have bA : Below wr.heap.size wr (wr.drew.alloc (.cells #[.int .u8 (b0 : Int), .int .u8 (b1 : Int), .int .u8 (b2 : Int), .int .u8 (b3 : Int)] 5)) := (below_drew2 (Below.refl _ _)).alloc (Nat.le_refl _) _
      have BA := Lib.hid (B.trans (bA.mono zB))
      clear hL h0
      go_upto_region 6 with (fail)
      refine wp_region_held_drew (S := fun w' => Below w.heap.size w w') (by kernel_rfl) (below_drew2 B) (fun hHeld => ?_)
      refine reg_take (i := 0) rfl (by kernel_rfl) (by kernel_rfl) (by kernel_rfl) (fun _ _ _ h => h) (by rfl) hHeld (v := ?v1) ?hy1 ?rest1
      case hy1 => (intro w' hSw; go_simp <;> try rfl)
      try simp only [Act.put, List.setIfInBounds_toArray, List.set_cons_zero, List.set_cons_succ]
      refine reg_take (i := 1) rfl (by kernel_rfl) (by kernel_rfl) (by kernel_rfl) (fun _ _ _ h => h) (by rfl) hHeld (v := ?v2) ?hy2 ?rest2
      case hy2 => (intro w' hSw; go_simp <;> try rfl)
      try simp only [Act.put, List.setIfInBounds_toArray, List.set_cons_zero, List.set_cons_succ]
      refine reg_take (i := 2) rfl (by kernel_rfl) (by kernel_rfl) (by kernel_rfl) (fun _ _ _ h => h) (by rfl) hHeld (v := ?v3) ?hy3 ?rest3
      case hy3 => (intro w' hSw; go_simp <;> try rfl)
      try simp only [Act.put, List.setIfInBounds_toArray, List.set_cons_zero, List.set_cons_succ]
      refine reg_take (i := 3) rfl (by kernel_rfl) (by kernel_rfl) (by kernel_rfl) (fun _ _ _ h => h) (by rfl) hHeld (v := ?v4) ?hy4 ?rest4
      case hy4 => (intro w' hSw; go_simp <;> try rfl)
      try simp only [Act.put, List.setIfInBounds_toArray, List.set_cons_zero, List.set_cons_succ]
      refine reg_take (i := 4) rfl (by kernel_rfl) (by kernel_rfl) (by kernel_rfl) (fun _ _ _ h => h) (by rfl) hHeld (v := ?v5) ?hy5 ?rest5
      case hy5 => (intro w' hSw; go_simp <;> try rfl)
      try simp only [Act.put, List.setIfInBounds_toArray, List.set_cons_zero, List.set_cons_succ]
      refine reg_take (i := 5) rfl (by kernel_rfl) (by kernel_rfl) (by kernel_rfl) (fun _ _ _ h => h) (by rfl) hHeld (v := ?v6) ?hy6 ?rest6
      case hy6 => (intro w' hSw; go_simp <;> try rfl)
      try simp only [Act.put, List.setIfInBounds_toArray, List.set_cons_zero, List.set_cons_succ]
      refine reg_take (i := 6) rfl (by kernel_rfl) (by kernel_rfl) (by kernel_rfl) (fun _ _ _ h => h) (by rfl) hHeld (v := ?v7) ?hy7 ?rest7
      case hy7 => (intro w' hSw; go_simp <;> try rfl)
      try simp only [Act.put, List.setIfInBounds_toArray, List.set_cons_zero, List.set_cons_succ]
      refine reg_take (i := 7) rfl (by kernel_rfl) (by kernel_rfl) (by kernel_rfl) (fun _ _ _ h => h) (by rfl) hHeld (v := ?v8) ?hy8 ?rest8
      case hy8 => (intro w' hSw; go_simp <;> try rfl)
      try simp only [Act.put, List.setIfInBounds_toArray, List.set_cons_zero, List.set_cons_succ]
      refine reg_take (i := 8) rfl (by kernel_rfl) (by kernel_rfl) (by kernel_rfl) (fun _ _ _ h => h) (by rfl) hHeld (v := ?v9) ?hy9 ?rest9
      case hy9 => (intro w' hSw; go_simp <;> try rfl)
      try simp only [Act.put, List.setIfInBounds_toArray, List.set_cons_zero, List.set_cons_succ]
      refine reg_take (i := 9) rfl (by kernel_rfl) (by kernel_rfl) (by kernel_rfl) (fun _ _ _ h => h) (by rfl) hHeld (v := ?v10) ?hy10 ?rest10
      case hy10 => (intro w' hSw; go_simp <;> try rfl)
      try simp only [Act.put, List.setIfInBounds_toArray, List.set_cons_zero, List.set_cons_succ]
      refine reg_take (i := 10) rfl (by kernel_rfl) (by kernel_rfl) (by kernel_rfl) (fun _ _ _ h => h) (by rfl) hHeld (v := ?v11) ?hy11 ?rest11
      case hy11 => (intro w' hSw; go_simp <;> try rfl)
      try simp only [Act.put, List.setIfInBounds_toArray, List.set_cons_zero, List.set_cons_succ]
      refine reg_take (i := 11) rfl (by kernel_rfl) (by kernel_rfl) (by kernel_rfl) (fun _ _ _ h => h) (by rfl) hHeld (v := ?v12) ?hy12 ?rest12
      case hy12 => (intro w' hSw; go_simp <;> try rfl)
      try simp only [Act.put, List.setIfInBounds_toArray, List.set_cons_zero, List.set_cons_succ]
      refine reg_take (i := 14) rfl (by kernel_rfl) (by kernel_rfl) (by kernel_rfl) (fun _ _ _ h => h) (by rfl) hHeld (v := ?v13) ?hy13 ?rest13
      case hy13 => (intro w' hSw; go_simp <;> try rfl)
      try simp only [Act.put, List.setIfInBounds_toArray, List.set_cons_zero, List.set_cons_succ]
      refine reg_take (i := 15) rfl (by kernel_rfl) (by kernel_rfl) (by kernel_rfl) (fun _ _ _ h => h) (by rfl) hHeld (v := ?v14) ?hy14 ?rest14
      case hy14 => (intro w' hSw; go_simp <;> try rfl)
      try simp only [Act.put, List.setIfInBounds_toArray, List.set_cons_zero, List.set_cons_succ]
      refine reg_take (i := 16) rfl (by kernel_rfl) (by kernel_rfl) (by kernel_rfl) (fun _ _ _ h => h) (by rfl) hHeld (v := ?v15) ?hy15 ?rest15
      case hy15 => (intro w' hSw; go_simp <;> try rfl)
      try simp only [Act.put, List.setIfInBounds_toArray, List.set_cons_zero, List.set_cons_succ]
      refine reg_take (i := 17) rfl (by kernel_rfl) (by kernel_rfl) (by kernel_rfl) (fun _ _ _ h => h) (by rfl) hHeld (v := ?v16) ?hy16 ?rest16
      case hy16 => (intro w' hSw; have hc := (hSw.cell hlo).trans hc0; go_simp <;> try rfl)
      try simp only [Act.put, List.setIfInBounds_toArray, List.set_cons_zero, List.set_cons_succ]
      refine wpAnyH_ready (rs := [12]) (by kernel_rfl) (by simp) ?_
      refine reg_cons rfl (by rfl) (fun K hK => ?_) ?_
      · go_simp
        refine hK.out _ _ (BA.out) (fun hHeld => ?_)
        clear hK K
        try simp only [Act.put, List.setIfInBounds_toArray, List.set_cons_zero, List.set_cons_succ]
        refine wpAnyH_ready (rs := [13]) (by kernel_rfl) (by simp) ?_
        refine reg_cons rfl (by rfl) (fun K hK => ?_) ?_
        · refine wp_appL (B := w.heap.size) (O.kept bA) (four_lst wr.drew _ _ _ _ hb0 hb1 hb2 hb3) (fun e => by cases e) BA.out.size (by omega) (by omega) rfl rfl ?_
          intro a2 d2 w2 O2 b2
          refine hK.out _ _ (BA.out.trans b2) (fun hHeld => ?_)
          clear hK K
          try simp only [Act.put, List.setIfInBounds_toArray, List.set_cons_zero, List.set_cons_succ]
          refine wpAnyH_ready (rs := [18]) (by kernel_rfl) (by simp) ?_
          refine reg_cons rfl (by rfl) (fun K hK => ?_) ?_
          · refine wp_appL (B := w.heap.size) O2 (HLs.out.below hHeld) H0.out hHeld.size (by omega) (by omega) rfl rfl ?_
            intro a3 d3 w3 O3 b3
            refine hK.out _ _ (hHeld.trans b3) (fun hHeld => ?_)
            clear hK K
            try simp only [Act.put, List.setIfInBounds_toArray, List.set_cons_zero, List.set_cons_succ]
            refine reg_take (i := 19) rfl (by kernel_rfl) (by kernel_rfl) (by kernel_rfl) (fun _ _ _ h => h) (by rfl) hHeld (v := ?v17) ?hy17 ?rest17
            case hy17 => (intro w' hSw; go_simp <;> try rfl)
            try simp only [Act.put, List.setIfInBounds_toArray, List.set_cons_zero, List.set_cons_succ]
            refine wpAnyH_done (by kernel_rfl) ?_ _
            go_wp2
            rw [hnx.out] at O3
            go_roundw
            case rel => exact ⟨i + 1, l + 4 + l1, a3, d3, by omega, by go_num, rfl, O3, hHeld⟩
            case measure => simp [intOf]; omega
          exact AllReadyH.nil
        exact AllReadyH.nil
      exact AllReadyH.nil
    · obtain rfl : i = n := by omega
      rw [List.take_of_length_le (by rw [HPL.out]; omega)] at O
      go_wp2
      go_ret
      exact ⟨_, _, _, rfl, O, B⟩
end Go.Proofs.YtfmpccfoemgiiaaDoor

