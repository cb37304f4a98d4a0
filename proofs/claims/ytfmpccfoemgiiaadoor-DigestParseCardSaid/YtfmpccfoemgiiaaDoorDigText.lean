/-
  digest.Text.
-/
import Derived.Test.YtfmpccfoemgiiaaDoorDigBytes
namespace Go.Proofs.YtfmpccfoemgiiaaDoor
open Go.RowKit Dig

set_option maxHeartbeats 1600000 in
set_option maxRecDepth 100000 in
theorem text_c (D : List Int) (hD : IsD D) (w : World) :
    Calls Tryd.prog 19 #[.agg (bcells D).toArray] w fun e w' => e = .returned (.string (textS D)) ∧ Below w.heap.size w w' := by
  obtain ⟨i0, hi, hz0, hz1, hz2⟩ := info_parts info5
  have HDl := Lib.hid hD.len
  have hA : Arr (w.alloc (.cells (bcells D).toArray 25)) w.heap.size 25 (bcells D) := Arr.new _ _ _
  have HA := Lib.hid hA
  have b1 : Below w.heap.size w (w.alloc (.cells (bcells D).toArray 25)) := (Below.refl _ _).alloc (Nat.le_refl _) _
  have z1 : w.heap.size ≤ (w.alloc (.cells (bcells D).toArray 25)).heap.size := b1.size
  obtain ⟨T, hT⟩ : ∃ T, Hid (T = textS D) := ⟨_, rfl⟩
  rw [← hT.out]
  clear hA
  go_enter Tryd.func19, Tryd.ntmps19
  go_wp2_with (first
    | (at_make; refine wpList_make_own _ rfl _ _ 22 rfl w.heap.size 5 i0 (.int .u8 0) 1 Tryd.underlying22 hi hz0 hz1 _ _ _ 64 rfl rfl rfl (by rw [hz2]; omega) (by unfold maxLen; omega) z1 ?_; intro w1 hown hgr; have HA1 := Lib.hid (HA.out.kept ((Below.refl _ _).grown hgr (Nat.le_refl _) (fun k hk => by cases hk))); have O1 : Own 5 .u8 w.heap.size w1 (some ⟨w.heap.size + 1, 0, none⟩) 0 64 [] := ⟨by simpa using hown, fun x hx => by cases hx⟩; have B1 : Below w.heap.size w w1 := b1.grown hgr z1 (fun k hk => by cases hk); clear hown hgr)
    | ((with_reducible refine wpList_load_arr (d := some 7) arr25 HA1.out ?e1 ?e2 ?_); (case e1 => rfl); (case e2 => exact bcells_len (Nat.le_of_eq HDl.out))))
  go_loopw [3, 8] (fun v i wr => ∃ (i' l : Nat) (a : Option Addr) (d : Nat), i' ≤ 32 ∧ v = .slice a l d ∧ i = .int .i64 i' ∧ Own 5 .u8 w.heap.size wr a l d (hexI (D.take i')) ∧ Below w.heap.size w wr)
    (fun _ i _ => 32 - (intOf i).toNat)
  case atStart => exact ⟨0, 0, _, _, by omega, rfl, rfl, O1, B1⟩
  case round =>
    clear O1 B1
    obtain ⟨i, l, a, d, hi32, rfl, rfl, O, B⟩ := hrel
    have hl : l ≤ 64 := by have h1 := O.len; rw [hexI_len, List.length_take, HDl.out] at h1; omega
    by_cases hlt : i < 32
    · obtain ⟨b, hb, hb255⟩ := hD.at i hlt
      have hix : ∀ W, (Instr.index 25 (.agg (bcells D).toArray) (.int .i64 (i : Int))).run Tryd.prog W = .ok (.int .u8 (b : Int)) W := by
        have := run_index_arr arr25 size5 agg_u8 (cs := bcells D) i (i : Int) rfl _ (bcells_at (by rw [HDl.out]; exact hlt)) (bcells_len (Nat.le_of_eq HDl.out))
        rw [hb.out] at this
        exact this
      have q32 : (i : Int) < 32 := by omega
      obtain ⟨p, hp⟩ : ∃ p : Nat, Hid (p = b / 16) := ⟨_, rfl⟩
      obtain ⟨q, hq⟩ : ∃ q : Nat, Hid (q = b % 16) := ⟨_, rfl⟩
      have hp16 : p < 16 := by rw [hp.out]; omega
      have hq16 : q < 16 := by rw [hq.out]; omega
      have e1 : (b : Int) / 16 = (p : Int) := by rw [hp.out]; omega
      have e2 : bits .and .u8 (b : Int) 15 = (q : Int) := by
        rw [show (15 : Int) = ((15 : Nat) : Int) from rfl, u8_and_nat b 15 (by omega) (by omega), nat_mask4, hq.out]
      have x1 := hex_ix p hp16
      have x2 := hex_ix q hq16
      obtain ⟨X, hX⟩ : ∃ X, Hid (hexN p = X) := ⟨_, rfl⟩
      obtain ⟨Y, hY⟩ : ∃ Y, Hid (hexN q = Y) := ⟨_, rfl⟩
      have lX := hexN_le p hp16
      have lY := hexN_le q hq16
      rw [hX.out] at x1 lX
      rw [hY.out] at x2 lY
      have HX : Hid (hexI (D.take i) ++ [(X : Int), (Y : Int)] = hexI (D.take (i + 1))) := by
        show _ = _
        rw [← hexI_next D i (by rw [HDl.out]; exact hlt) b hb.out, ← hp.out, ← hq.out, hX.out, hY.out]
      have h0a : (0 : Int) ≤ X := by omega
      have h0b : (X : Int) ≤ 255 := by omega
      have h1a : (0 : Int) ≤ Y := by omega
      have h1b : (Y : Int) ≤ 255 := by omega
      have zB := B.size
      have bA : Below wr.heap.size wr (wr.drew.alloc (.cells #[.int .u8 (X : Int), .int .u8 (Y : Int)] 5)) := (below_drew (Below.refl _ _)).alloc (Nat.le_refl _) _
      go_wp2
      refine wp_region_held_drew (S := fun _ => True) (by kernel_rfl) (trivial) (fun hHeld => ?_)
      refine reg_take (i := 0) rfl (by kernel_rfl) (by kernel_rfl) (by kernel_rfl) (fun _ _ _ h => h) (by rfl) hHeld (v := ?v1) ?hy1 ?rest1
      case hy1 => (intro w' hSw; go_simp <;> try rfl)
      try simp only [Act.put, List.setIfInBounds_toArray, List.set_cons_zero, List.set_cons_succ]
      refine reg_take (i := 1) rfl (by kernel_rfl) (by kernel_rfl) (by kernel_rfl) (fun _ _ _ h => h) (by rfl) hHeld (v := ?v2) ?hy2 ?rest2
      case hy2 => (intro w' hSw; go_simp <;> try rfl)
      try simp only [Act.put, List.setIfInBounds_toArray, List.set_cons_zero, List.set_cons_succ]
      refine reg_take (i := 2) rfl (by kernel_rfl) (by kernel_rfl) (by kernel_rfl) (fun _ _ _ h => h) (by rfl) hHeld (v := ?v3) ?hy3 ?rest3
      case hy3 => (intro w' hSw; go_simp <;> try rfl)
      try simp only [Act.put, List.setIfInBounds_toArray, List.set_cons_zero, List.set_cons_succ]
      refine reg_take (i := 3) rfl (by kernel_rfl) (by kernel_rfl) (by kernel_rfl) (fun _ _ _ h => h) (by rfl) hHeld (v := ?v4) ?hy4 ?rest4
      case hy4 => (intro w' hSw; go_simp <;> try rfl)
      try simp only [Act.put, List.setIfInBounds_toArray, List.set_cons_zero, List.set_cons_succ]
      refine reg_take (i := 4) rfl (by kernel_rfl) (by kernel_rfl) (by kernel_rfl) (fun _ _ _ h => h) (by rfl) hHeld (v := ?v5) ?hy5 ?rest5
      case hy5 => (intro w' hSw; go_simp <;> try rfl)
      try simp only [Act.put, List.setIfInBounds_toArray, List.set_cons_zero, List.set_cons_succ]
      refine reg_take (i := 5) rfl (by kernel_rfl) (by kernel_rfl) (by kernel_rfl) (fun _ _ _ h => h) (by rfl) hHeld (v := ?v6) ?hy6 ?rest6
      case hy6 => (intro w' hSw; go_simp <;> try rfl)
      try simp only [Act.put, List.setIfInBounds_toArray, List.set_cons_zero, List.set_cons_succ]
      refine reg_take (i := 6) rfl (by kernel_rfl) (by kernel_rfl) (by kernel_rfl) (fun _ _ _ h => h) (by rfl) hHeld (v := ?v7) ?hy7 ?rest7
      case hy7 => (intro w' hSw; go_simp <;> try rfl)
      try simp only [Act.put, List.setIfInBounds_toArray, List.set_cons_zero, List.set_cons_succ]
      refine wpAnyH_ready (rs := [7]) (by kernel_rfl) (by simp) ?_
      refine reg_cons rfl (by rfl) (fun K hK => ?_) ?_
      · go_simp
        refine hK.out _ _ (trivial) (fun hHeld => ?_)
        clear hK K
        try simp only [Act.put, List.setIfInBounds_toArray, List.set_cons_zero, List.set_cons_succ]
        refine wpAnyH_ready (rs := [8]) (by kernel_rfl) (by simp) ?_
        refine reg_cons rfl (by rfl) (fun K hK => ?_) ?_
        · refine wp_appL (B := w.heap.size) (O.kept bA) (two_lst wr.drew _ _ h0a h0b h1a h1b) (fun e => by cases e) (by simp; omega) (by omega) (by omega) rfl rfl ?_
          intro a2 d2 w2 O2 b2
          refine hK.out _ _ (trivial) (fun hHeld => ?_)
          clear hK K
          try simp only [Act.put, List.setIfInBounds_toArray, List.set_cons_zero, List.set_cons_succ]
          refine reg_take (i := 9) rfl (by kernel_rfl) (by kernel_rfl) (by kernel_rfl) (fun _ _ _ h => h) (by rfl) hHeld (v := ?v8) ?hy8 ?rest8
          case hy8 => (intro w' hSw; go_simp <;> try rfl)
          try simp only [Act.put, List.setIfInBounds_toArray, List.set_cons_zero, List.set_cons_succ]
          refine wpAnyH_done (by kernel_rfl) ?_ _
          go_wp2
          rw [HX.out] at O2
          have B2 := B.trans ((bA.mono zB).trans b2)
          go_roundw
          case rel => exact ⟨i + 1, l + 2, a2, d2, by omega, rfl, by go_num, O2, B2⟩
          case measure => simp [intOf]; omega
        exact AllReadyH.nil
      exact AllReadyH.nil
    · obtain rfl : i = 32 := by omega
      rw [List.take_of_length_le (by rw [HDl.out]; omega)] at O
      have hs := own_string O
      rw [show strOf (hexI D) = T from hT.out.symm] at hs
      rw [show ((32 : Nat) : Int) = 32 from rfl]
      go_wp2
      go_ret
      exact ⟨rfl, B⟩
end Go.Proofs.YtfmpccfoemgiiaaDoor

