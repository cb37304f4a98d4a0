/-
  The walk of RandomScript.
-/
import Derived.Test.YtgomconcfjllcaaDoorRndAwake
namespace Go.Proofs.YtgomconcfjllcaaDoor
open Go.RowKit Dig Rnd

/-- A slice value reads as these calls: kinds and numbers. -/
structure LstO (w : World) (ao : Option Addr) (n c : Nat) (K N : Nat → Int) : Prop where
  cap : n ≤ c
  room : c ≤ 9223372036854775807
  isSome : 0 < n → ∃ a, ao = some a
  kind : ∀ i, i < n → w.cell? (pt ao (i * 2)) = some (.int .i64 (K i))
  num : ∀ i, i < n → w.cell? (pt ao (i * 2 + 1)) = some (.int .i64 (N i))
theorem LstO.below {w w' : World} {ao : Option Addr} {n c : Nat} {K N : Nat → Int} (h : LstO w ao n c K N) (hb : Below w.heap.size w w') : LstO w' ao n c K N :=
  ⟨h.cap, h.room, h.isSome, fun i hi => (hb.cell (World.block_lt_of_cell? w _ (h.kind i hi))).trans (h.kind i hi), fun i hi => (hb.cell (World.block_lt_of_cell? w _ (h.num i hi))).trans (h.num i hi)⟩
theorem sizeO : (Tryd.prog.info? 31).map (·.size) = some 2 := by kernel_rfl
theorem ixO {ao : Option Addr} {n c : Nat} {K N : Nat → Int} {w : World} (h : LstO w ao n c K N) (i : Nat) (hi : i < n) :
    ∀ W, (Instr.indexAt 22 (.slice ao n c) (.int .i64 (i : Int))).run Tryd.prog W = .ok (.pointer (some (pt ao (i * 2)))) W := by
  intro W
  obtain ⟨a, rfl⟩ := h.isSome (by omega)
  obtain ⟨inf, hinf, hs⟩ := Option.map_eq_some_iff.1 sizeO
  simp [Instr.indexAt, run_underlying Tryd.underlying22, asIntOf, sizeOf, typeInfo, hinf, hs, pt, hi]

theorem pt_next (ao : Option Addr) (i : Nat) : (⟨(pt ao i).block, (pt ao i).off + 1, none⟩ : Addr) = pt ao (i + 1) := by
  have h : (pt ao i).add 1 = pt ao (i + 1) := Addr.add_add _ _ _
  rw [← h]
  rfl

set_option maxHeartbeats 3200000 in
set_option maxRecDepth 100000 in
theorem scriptLaw_c (S0 : ByteArray) (ao : Option Addr) (n c : Nat) (K N : Nat → Int) (w : World) (hs0 : S0.size ≤ maxLen) (h : LstO w ao n c K N) (hTa : KTab 1 w) (hTb : KTab 0 w) :
    Calls Tryd.prog 3 #[.string S0, .slice ao n c] w fun e w' => e = .returned (.bool true) ∧ Below w.heap.size w w' := by
  have HC := Lib.hid (short_c S0 w hs0)
  have hcap := h.cap
  have hroom := h.room
  have HH := Lib.hid h
  clear hs0 h
  go_enter Tryd.func3, Tryd.ntmps3
  go_wp2_with fail
  refine HC.out.mono ?_
  rintro e w1 ⟨A, rfl, hA, rfl⟩
  have HN := Lib.hid (new_c A w)
  clear HC
  go_wp2_with fail
  refine HN.out.mono ?_
  rintro e w2 ⟨s, rfl, hs, Ss, b2⟩
  obtain ⟨V, hV⟩ : ∃ V, Hid (V = w2.alloc (.cells #[.string A, .int .u64 0] 29)) := ⟨_, rfl⟩
  have b4 : Below w2.heap.size w2 V := by rw [hV.out]; exact (Below.refl _ _).alloc (Nat.le_refl _) _
  have Sx : Src 29 V w2.heap.size A 0 := by rw [hV.out]; exact new_src 29 w2 A
  have Q0 : St2 w V s w2.heap.size A 0 0 := ⟨Ss.kept b4, Sx, Nat.ne_of_lt Ss.lt, hs, b2.size, b2.trans (b4.mono b2.size), by omega, by omega⟩
  have HQ0 := Lib.hid Q0
  clear HN hs Ss b2 b4 Sx Q0
  go_wp2_with fail
  rw [← hV.out]
  go_loopw [7] (fun i wr => ∃ (j p : Nat), j ≤ n ∧ j ≤ 8 ∧ i = .int .i64 j ∧ Hid (St2 w wr s w2.heap.size A p p))
    (fun i _ => n - (intOf i).toNat)
  case atStart => exact ⟨0, 0, by omega, by omega, rfl, HQ0⟩
  case round =>
    obtain ⟨j, p, hj, hj8, rfl, HS⟩ := hrel
    clear HQ0
    by_cases hlt : j < n ∧ j < 8
    · obtain ⟨hlt, hlt8⟩ := hlt
      have hlt' : (j : Int) < (n : Int) := by omega
      have hlt8' : (j : Int) < 8 := by omega
      have L := HH.out.below HS.out.bel
      have hix := ixO L j hlt
      obtain ⟨kd, hkd⟩ : ∃ x, Hid (x = K j) := ⟨_, rfl⟩
      obtain ⟨nm, hnm⟩ : ∃ x, Hid (x = N j) := ⟨_, rfl⟩
      have hc0 := L.kind j hlt
      have hc1 := L.num j hlt
      rw [← hkd.out] at hc0
      rw [← hnm.out] at hc1
      have hc2 : wr.cell? ⟨(pt ao (j * 2)).block, (pt ao (j * 2)).off + 1, none⟩ = some (.int .i64 nm) := by rw [pt_next]; exact hc1
      clear L hc1
      by_cases h0 : kd = 0
      · subst h0
        obtain ⟨U, hU⟩ : ∃ U, Hid (U = wr.alloc (.cells #[.int .i64 0, .int .i64 nm] 31)) := ⟨_, rfl⟩
        have bU : Below wr.heap.size wr U := by rw [hU.out]; exact (Below.refl _ _).alloc (Nat.le_refl _) _
        have HAO : Hid (Arr U wr.heap.size 31 [.int .i64 0, .int .i64 nm]) := by show Arr _ _ _ _; rw [hU.out]; exact Arr.new wr 31 [.int .i64 0, .int .i64 nm]
        have HSu := Lib.hid (HS.out.below bU)
        have HSd := Lib.hid (HSu.out.below (below_drew2 (Below.refl U.heap.size U)))
        have hos := Lib.hid HS.out.a.lt
        have hot := Lib.hid HS.out.b.lt
        clear bU
        obtain ⟨v, hv⟩ : ∃ v, Hid (v = wordN A p) := ⟨_, rfl⟩
        have hvv : ((v : Int) != (v : Int)) = false := by simp
        have H1 := Lib.hid (word_c s A p U HSu.out.a (by omega) HSu.out.k1 (hTa.below HSu.out.bel))
        rw [← hv.out] at H1
        go_wp2_with fail
        rw [← hU.out]
        refine H1.out.mono ?_
        rintro e W5 ⟨rfl, S5, G5⟩
        have HS5 := Lib.hid (HSu.out.stepS S5 G5 (nx_lt _))
        have hcN : W5.cell? ⟨wr.heap.size, 1, none⟩ = some (.int .i64 nm) := (Arr.grownBy HAO.out G5 (Nat.ne_of_gt hos.out)).cell 1
        have H2 := Lib.hid (refword_c w2.heap.size A p W5 HS5.out.b (by omega) HS5.out.m1 (hTb.below HS5.out.bel))
        rw [← hv.out] at H2
        clear H1 S5 G5
        go_wp2_with fail
        refine H2.out.mono ?_
        rintro e W7 ⟨rfl, S7, G7⟩
        have HS7 := Lib.hid (HS5.out.stepT S7 G7 (nx_lt _))
        clear H2 S7 G7
        go_wp2_with fail
        go_roundw
        case rel => exact ⟨j + 1, _, by omega, by omega, by go_num, HS7⟩
        case measure => simp [intOf]; omega
      · have hk0b : (kd == 0) = false := beq_eq_false_iff_ne.2 h0
        by_cases hk1 : kd = 1
        · subst hk1
          by_cases hin : 1 ≤ nm ∧ nm ≤ 2147483648
          · obtain ⟨nn, rfl⟩ := Int.eq_ofNat_of_zero_le (show 0 ≤ nm by omega)
            have h1 : 1 ≤ nn := by omega
            have h2 : nn ≤ 2147483648 := by omega
            clear hin h0 hk0b
            obtain ⟨U, hU⟩ : ∃ U, Hid (U = wr.alloc (.cells #[.int .i64 1, .int .i64 (nn : Int)] 31)) := ⟨_, rfl⟩
            have bU : Below wr.heap.size wr U := by rw [hU.out]; exact (Below.refl _ _).alloc (Nat.le_refl _) _
            have HAO : Hid (Arr U wr.heap.size 31 [.int .i64 1, .int .i64 (nn : Int)]) := by show Arr _ _ _ _; rw [hU.out]; exact Arr.new wr 31 [.int .i64 1, .int .i64 (nn : Int)]
            have HSu := Lib.hid (HS.out.below bU)
            have HSd := Lib.hid (HSu.out.below (below_drew2 (Below.refl U.heap.size U)))
            have hos := Lib.hid HS.out.a.lt
            have hot := Lib.hid HS.out.b.lt
            clear bU
            have hJJ : (((belN A nn 15 p).1 : Int) != ((belN A nn 15 p).1 : Int)) = false := by simp
            go_wp2_with fail
            rw [← hU.out]
            refine wp_region_held_drew (S := fun w' => Arr w' wr.heap.size 31 [.int .i64 1, .int .i64 (nn : Int)]) (by kernel_rfl) (HAO.out.drewN 1) (fun hHeld => ?_)
            refine reg_take (i := 0) rfl (by kernel_rfl) (by kernel_rfl) (by kernel_rfl) (fun _ _ _ h => h) (by rfl) hHeld (v := ?v101) ?hy101 ?rest101
            case hy101 => (intro w' hSw; go_simp <;> try rfl)
            try simp only [Act.put, List.setIfInBounds_toArray, List.set_cons_zero, List.set_cons_succ]
            refine reg_take (i := 1) rfl (by kernel_rfl) (by kernel_rfl) (by kernel_rfl) (fun _ _ _ h => h) (by rfl) hHeld (v := ?v102) ?hy102 ?rest102
            case hy102 => (intro w' hSw; go_simp <;> try rfl)
            try simp only [Act.put, List.setIfInBounds_toArray, List.set_cons_zero, List.set_cons_succ]
            refine reg_take (i := 2) rfl (by kernel_rfl) (by kernel_rfl) (by kernel_rfl) (fun _ _ _ h => h) (by rfl) hHeld (v := ?v103) ?hy103 ?rest103
            case hy103 => (intro w' hSw; have hc : w'.cell? ⟨wr.heap.size, 1, none⟩ = some (.int .i64 (nn : Int)) := hSw.cell 1; go_simp <;> try rfl)
            try simp only [Act.put, List.setIfInBounds_toArray, List.set_cons_zero, List.set_cons_succ]
            refine reg_take (i := 4) rfl (by kernel_rfl) (by kernel_rfl) (by kernel_rfl) (fun _ _ _ h => h) (by rfl) hHeld (v := ?v104) ?hy104 ?rest104
            case hy104 => (intro w' hSw; go_simp <;> try rfl)
            try simp only [Act.put, List.setIfInBounds_toArray, List.set_cons_zero, List.set_cons_succ]
            refine reg_take (i := 5) rfl (by kernel_rfl) (by kernel_rfl) (by kernel_rfl) (fun _ _ _ h => h) (by rfl) hHeld (v := ?v105) ?hy105 ?rest105
            case hy105 => (intro w' hSw; go_simp <;> try rfl)
            try simp only [Act.put, List.setIfInBounds_toArray, List.set_cons_zero, List.set_cons_succ]
            refine reg_take (i := 6) rfl (by kernel_rfl) (by kernel_rfl) (by kernel_rfl) (fun _ _ _ h => h) (by rfl) hHeld (v := ?v106) ?hy106 ?rest106
            case hy106 => (intro w' hSw; have hc : w'.cell? ⟨wr.heap.size, 1, none⟩ = some (.int .i64 (nn : Int)) := hSw.cell 1; go_simp <;> try rfl)
            try simp only [Act.put, List.setIfInBounds_toArray, List.set_cons_zero, List.set_cons_succ]
            refine wpAnyH_ready (rs := [3]) (by kernel_rfl) (by simp) ?_
            refine reg_cons rfl (by rfl) (fun K hK => ?_) ?_
            · go_simp
              refine (below_c s A p nn _ HSd.out.a (by omega) HSd.out.k1 h1 h2 (hTa.below HSd.out.bel)).mono ?_
              rintro e W5 ⟨rfl, S5, G5⟩
              have HS5 := HSd.out.stepS S5 G5 (belN_nx _ _ _ _)
              refine hK.out _ _ (Arr.grownBy hHeld G5 (Nat.ne_of_gt hos.out)) (fun hHeld => ?_)
              clear hK K
              try simp only [Act.put, List.setIfInBounds_toArray, List.set_cons_zero, List.set_cons_succ]
              refine wpAnyH_ready (rs := [7]) (by kernel_rfl) (by simp) ?_
              refine reg_cons rfl (by rfl) (fun K hK => ?_) ?_
              · go_simp
                refine (refbelow_c w2.heap.size A p nn _ HS5.b (by omega) HS5.m1 h1 h2 (hTb.below HS5.bel)).mono ?_
                rintro e W7 ⟨rfl, S7, G7⟩
                have HS7 := HS5.stepT S7 G7 (belN_nx _ _ _ _)
                refine hK.out _ _ (Arr.grownBy hHeld G7 (Nat.ne_of_gt hot.out)) (fun hHeld => ?_)
                clear hK K
                try simp only [Act.put, List.setIfInBounds_toArray, List.set_cons_zero, List.set_cons_succ]
                refine reg_take (i := 8) rfl (by kernel_rfl) (by kernel_rfl) (by kernel_rfl) (fun _ _ _ h => h) (by rfl) hHeld (v := ?v107) ?hy107 ?rest107
                case hy107 => (intro w' hSw; go_simp <;> try rfl)
                try simp only [Act.put, List.setIfInBounds_toArray, List.set_cons_zero, List.set_cons_succ]
                refine wpAnyH_done (by kernel_rfl) ?_ _
                go_wp2_with fail
                go_roundw
                case rel => exact ⟨j + 1, _, by omega, by omega, by go_num, Lib.hid HS7⟩
                case measure => simp [intOf]; omega
              exact AllReadyH.nil
            exact AllReadyH.nil
          · have hno : Hid (nm < 1 ∨ 2147483648 < nm) := by show _ ∨ _; omega
            clear hin h0 hk0b
            obtain ⟨U, hU⟩ : ∃ U, Hid (U = wr.alloc (.cells #[.int .i64 1, .int .i64 nm] 31)) := ⟨_, rfl⟩
            have bU : Below wr.heap.size wr U := by rw [hU.out]; exact (Below.refl _ _).alloc (Nat.le_refl _) _
            have HAO : Hid (Arr U wr.heap.size 31 [.int .i64 1, .int .i64 nm]) := by show Arr _ _ _ _; rw [hU.out]; exact Arr.new wr 31 [.int .i64 1, .int .i64 nm]
            have HSu := Lib.hid (HS.out.below bU)
            have HSd := Lib.hid (HSu.out.below (below_drew2 (Below.refl U.heap.size U)))
            have hos := Lib.hid HS.out.a.lt
            have hot := Lib.hid HS.out.b.lt
            clear bU

            go_wp2_with fail
            rw [← hU.out]
            refine wp_region_held_drew (S := fun w' => Arr w' wr.heap.size 31 [.int .i64 1, .int .i64 nm]) (by kernel_rfl) (HAO.out.drewN 1) (fun hHeld => ?_)
            refine reg_take (i := 0) rfl (by kernel_rfl) (by kernel_rfl) (by kernel_rfl) (fun _ _ _ h => h) (by rfl) hHeld (v := ?v201) ?hy201 ?rest201
            case hy201 => (intro w' hSw; go_simp <;> try rfl)
            try simp only [Act.put, List.setIfInBounds_toArray, List.set_cons_zero, List.set_cons_succ]
            refine reg_take (i := 1) rfl (by kernel_rfl) (by kernel_rfl) (by kernel_rfl) (fun _ _ _ h => h) (by rfl) hHeld (v := ?v202) ?hy202 ?rest202
            case hy202 => (intro w' hSw; go_simp <;> try rfl)
            try simp only [Act.put, List.setIfInBounds_toArray, List.set_cons_zero, List.set_cons_succ]
            refine reg_take (i := 2) rfl (by kernel_rfl) (by kernel_rfl) (by kernel_rfl) (fun _ _ _ h => h) (by rfl) hHeld (v := ?v203) ?hy203 ?rest203
            case hy203 => (intro w' hSw; have hc : w'.cell? ⟨wr.heap.size, 1, none⟩ = some (.int .i64 nm) := hSw.cell 1; go_simp <;> try rfl)
            try simp only [Act.put, List.setIfInBounds_toArray, List.set_cons_zero, List.set_cons_succ]
            refine reg_take (i := 4) rfl (by kernel_rfl) (by kernel_rfl) (by kernel_rfl) (fun _ _ _ h => h) (by rfl) hHeld (v := ?v204) ?hy204 ?rest204
            case hy204 => (intro w' hSw; go_simp <;> try rfl)
            try simp only [Act.put, List.setIfInBounds_toArray, List.set_cons_zero, List.set_cons_succ]
            refine reg_take (i := 5) rfl (by kernel_rfl) (by kernel_rfl) (by kernel_rfl) (fun _ _ _ h => h) (by rfl) hHeld (v := ?v205) ?hy205 ?rest205
            case hy205 => (intro w' hSw; go_simp <;> try rfl)
            try simp only [Act.put, List.setIfInBounds_toArray, List.set_cons_zero, List.set_cons_succ]
            refine reg_take (i := 6) rfl (by kernel_rfl) (by kernel_rfl) (by kernel_rfl) (fun _ _ _ h => h) (by rfl) hHeld (v := ?v206) ?hy206 ?rest206
            case hy206 => (intro w' hSw; have hc : w'.cell? ⟨wr.heap.size, 1, none⟩ = some (.int .i64 nm) := hSw.cell 1; go_simp <;> try rfl)
            try simp only [Act.put, List.setIfInBounds_toArray, List.set_cons_zero, List.set_cons_succ]
            refine wpAnyH_ready (rs := [3]) (by kernel_rfl) (by simp) ?_
            refine reg_cons rfl (by rfl) (fun K hK => ?_) ?_
            · go_simp
              refine (below_no (some ⟨s, 0, none⟩) nm _ (Or.inr hno.out)).mono ?_
              rintro e W5 ⟨rfl, rfl⟩
              refine hK.out _ _ (hHeld) (fun hHeld => ?_)
              clear hK K
              try simp only [Act.put, List.setIfInBounds_toArray, List.set_cons_zero, List.set_cons_succ]
              refine wpAnyH_ready (rs := [7]) (by kernel_rfl) (by simp) ?_
              refine reg_cons rfl (by rfl) (fun K hK => ?_) ?_
              · go_simp
                refine (refbelow_no (some ⟨w2.heap.size, 0, none⟩) nm _ hno.out).mono ?_
                rintro e W7 ⟨rfl, rfl⟩
                refine hK.out _ _ (hHeld) (fun hHeld => ?_)
                clear hK K
                try simp only [Act.put, List.setIfInBounds_toArray, List.set_cons_zero, List.set_cons_succ]
                refine reg_take (i := 8) rfl (by kernel_rfl) (by kernel_rfl) (by kernel_rfl) (fun _ _ _ h => h) (by rfl) hHeld (v := ?v207) ?hy207 ?rest207
                case hy207 => (intro w' hSw; go_simp <;> try rfl)
                try simp only [Act.put, List.setIfInBounds_toArray, List.set_cons_zero, List.set_cons_succ]
                refine wpAnyH_done (by kernel_rfl) ?_ _
                go_wp2_with fail
                go_roundw
                case rel => exact ⟨j + 1, _, by omega, by omega, by go_num, Lib.hid HSd.out⟩
                case measure => simp [intOf]; omega
              exact AllReadyH.nil
            exact AllReadyH.nil
        · have hk1b : (kd == 1) = false := beq_eq_false_iff_ne.2 hk1
          by_cases hin : 0 ≤ nm ∧ nm ≤ 12
          · obtain ⟨nn, rfl⟩ := Int.eq_ofNat_of_zero_le (show 0 ≤ nm by omega)
            have h2 : nn ≤ 12 := by omega
            have h1i : ¬ ((nn : Int) < 0) := by omega
            have h2i : (nn : Int) ≤ 12 := by omega
            clear hin
            obtain ⟨U, hU⟩ : ∃ U, Hid (U = wr.alloc (.cells #[.int .i64 kd, .int .i64 (nn : Int)] 31)) := ⟨_, rfl⟩
            have bU : Below wr.heap.size wr U := by rw [hU.out]; exact (Below.refl _ _).alloc (Nat.le_refl _) _
            have HAO : Hid (Arr U wr.heap.size 31 [.int .i64 kd, .int .i64 (nn : Int)]) := by show Arr _ _ _ _; rw [hU.out]; exact Arr.new wr 31 [.int .i64 kd, .int .i64 (nn : Int)]
            have HSu := Lib.hid (HS.out.below bU)
            have HSd := Lib.hid (HSu.out.below (below_drew2 (Below.refl U.heap.size U)))
            have hos := Lib.hid HS.out.a.lt
            have hot := Lib.hid HS.out.b.lt
            clear bU

            go_wp2_with fail
            rw [← hU.out]
            refine wp_region_held_drew (S := fun w' => Arr w' wr.heap.size 31 [.int .i64 kd, .int .i64 (nn : Int)]) (by kernel_rfl) (HAO.out.drewN 1) (fun hHeld => ?_)
            refine reg_take (i := 0) rfl (by kernel_rfl) (by kernel_rfl) (by kernel_rfl) (fun _ _ _ h => h) (by rfl) hHeld (v := ?v301) ?hy301 ?rest301
            case hy301 => (intro w' hSw; go_simp <;> try rfl)
            try simp only [Act.put, List.setIfInBounds_toArray, List.set_cons_zero, List.set_cons_succ]
            refine reg_take (i := 1) rfl (by kernel_rfl) (by kernel_rfl) (by kernel_rfl) (fun _ _ _ h => h) (by rfl) hHeld (v := ?v302) ?hy302 ?rest302
            case hy302 => (intro w' hSw; go_simp <;> try rfl)
            try simp only [Act.put, List.setIfInBounds_toArray, List.set_cons_zero, List.set_cons_succ]
            refine reg_take (i := 2) rfl (by kernel_rfl) (by kernel_rfl) (by kernel_rfl) (fun _ _ _ h => h) (by rfl) hHeld (v := ?v303) ?hy303 ?rest303
            case hy303 => (intro w' hSw; have hc : w'.cell? ⟨wr.heap.size, 1, none⟩ = some (.int .i64 (nn : Int)) := hSw.cell 1; go_simp <;> try rfl)
            try simp only [Act.put, List.setIfInBounds_toArray, List.set_cons_zero, List.set_cons_succ]
            refine reg_take (i := 4) rfl (by kernel_rfl) (by kernel_rfl) (by kernel_rfl) (fun _ _ _ h => h) (by rfl) hHeld (v := ?v304) ?hy304 ?rest304
            case hy304 => (intro w' hSw; go_simp <;> try rfl)
            try simp only [Act.put, List.setIfInBounds_toArray, List.set_cons_zero, List.set_cons_succ]
            refine reg_take (i := 5) rfl (by kernel_rfl) (by kernel_rfl) (by kernel_rfl) (fun _ _ _ h => h) (by rfl) hHeld (v := ?v305) ?hy305 ?rest305
            case hy305 => (intro w' hSw; go_simp <;> try rfl)
            try simp only [Act.put, List.setIfInBounds_toArray, List.set_cons_zero, List.set_cons_succ]
            refine reg_take (i := 6) rfl (by kernel_rfl) (by kernel_rfl) (by kernel_rfl) (fun _ _ _ h => h) (by rfl) hHeld (v := ?v306) ?hy306 ?rest306
            case hy306 => (intro w' hSw; have hc : w'.cell? ⟨wr.heap.size, 1, none⟩ = some (.int .i64 (nn : Int)) := hSw.cell 1; go_simp <;> try rfl)
            try simp only [Act.put, List.setIfInBounds_toArray, List.set_cons_zero, List.set_cons_succ]
            refine wpAnyH_ready (rs := [3]) (by kernel_rfl) (by simp) ?_
            refine reg_cons rfl (by rfl) (fun K hK => ?_) ?_
            · go_simp
              refine (perm_c s A p nn _ HSd.out.a (by omega) HSd.out.k1 (by omega) (hTa.below HSd.out.bel)).mono ?_
              rintro e W5 ⟨a5, c5, rfl, O5, S5, G5⟩
              have HS5 := HSd.out.stepS S5 G5 (prmN_nx _ _ _ _ (Nat.lt_succ_of_le HSd.out.k1))
              refine hK.out _ _ (Arr.grownBy hHeld G5 (Nat.ne_of_gt hos.out)) (fun hHeld => ?_)
              clear hK K
              try simp only [Act.put, List.setIfInBounds_toArray, List.set_cons_zero, List.set_cons_succ]
              refine wpAnyH_ready (rs := [7]) (by kernel_rfl) (by simp) ?_
              refine reg_cons rfl (by rfl) (fun K hK => ?_) ?_
              · go_simp
                refine (refperm_c w2.heap.size A p nn _ HS5.b (by omega) HS5.m1 (by omega) (hTb.below HS5.bel)).mono ?_
                rintro e W7 ⟨a7, c7, rfl, O7, S7, G7⟩
                have HS7 := HS5.stepT S7 G7 (prmN_nx _ _ _ _ (Nat.lt_succ_of_le HS5.m1))
                have O5' := O5.grownBy G7 (by have := HSd.out.b.lt; omega)
                refine hK.out _ _ (Arr.grownBy hHeld G7 (Nat.ne_of_gt hot.out)) (fun hHeld => ?_)
                clear hK K
                try simp only [Act.put, List.setIfInBounds_toArray, List.set_cons_zero, List.set_cons_succ]
                refine wpAnyH_ready (rs := [8]) (by kernel_rfl) (by simp) ?_
                refine reg_cons rfl (by rfl) (fun K hK => ?_) ?_
                · go_simp
                  refine (eqI_c a5 a7 nn c5 c7 _ _ O5'.lst O7.lst).mono ?_
                  rintro e W8 ⟨rfl, b8⟩
                  have HS8 := HS7.below b8
                  refine hK.out _ _ (Arr.kept hHeld b8) (fun hHeld => ?_)
                  clear hK K
                  try simp only [Act.put, List.setIfInBounds_toArray, List.set_cons_zero, List.set_cons_succ]
                  refine reg_take (i := 9) rfl (by kernel_rfl) (by kernel_rfl) (by kernel_rfl) (fun _ _ _ h => h) (by rfl) hHeld (v := ?v307) ?hy307 ?rest307
                  case hy307 => (intro w' hSw; go_simp <;> try rfl)
                  try simp only [Act.put, List.setIfInBounds_toArray, List.set_cons_zero, List.set_cons_succ]
                  refine wpAnyH_done (by kernel_rfl) ?_ _
                  go_wp2_with fail
                  go_roundw
                  case rel => exact ⟨j + 1, _, by omega, by omega, by go_num, Lib.hid HS8⟩
                  case measure => simp [intOf]; omega
                exact AllReadyH.nil
              exact AllReadyH.nil
            exact AllReadyH.nil
          · by_cases hlo : nm < 0
            · have hno : Hid (nm < 0 ∨ 1024 < nm) := Or.inl hlo
              clear hin
              obtain ⟨U, hU⟩ : ∃ U, Hid (U = wr.alloc (.cells #[.int .i64 kd, .int .i64 nm] 31)) := ⟨_, rfl⟩
              have bU : Below wr.heap.size wr U := by rw [hU.out]; exact (Below.refl _ _).alloc (Nat.le_refl _) _
              have HAO : Hid (Arr U wr.heap.size 31 [.int .i64 kd, .int .i64 nm]) := by show Arr _ _ _ _; rw [hU.out]; exact Arr.new wr 31 [.int .i64 kd, .int .i64 nm]
              have HSu := Lib.hid (HS.out.below bU)
              have HSd := Lib.hid (HSu.out.below (below_drew2 (Below.refl U.heap.size U)))
              have hos := Lib.hid HS.out.a.lt
              have hot := Lib.hid HS.out.b.lt
              clear bU

              go_wp2_with fail
              rw [← hU.out]
              refine wp_region_held_drew (S := fun w' => Arr w' wr.heap.size 31 [.int .i64 kd, .int .i64 nm]) (by kernel_rfl) (HAO.out.drewN 1) (fun hHeld => ?_)
              refine reg_take (i := 0) rfl (by kernel_rfl) (by kernel_rfl) (by kernel_rfl) (fun _ _ _ h => h) (by rfl) hHeld (v := ?v401) ?hy401 ?rest401
              case hy401 => (intro w' hSw; go_simp <;> try rfl)
              try simp only [Act.put, List.setIfInBounds_toArray, List.set_cons_zero, List.set_cons_succ]
              refine reg_take (i := 1) rfl (by kernel_rfl) (by kernel_rfl) (by kernel_rfl) (fun _ _ _ h => h) (by rfl) hHeld (v := ?v402) ?hy402 ?rest402
              case hy402 => (intro w' hSw; go_simp <;> try rfl)
              try simp only [Act.put, List.setIfInBounds_toArray, List.set_cons_zero, List.set_cons_succ]
              refine reg_take (i := 2) rfl (by kernel_rfl) (by kernel_rfl) (by kernel_rfl) (fun _ _ _ h => h) (by rfl) hHeld (v := ?v403) ?hy403 ?rest403
              case hy403 => (intro w' hSw; have hc : w'.cell? ⟨wr.heap.size, 1, none⟩ = some (.int .i64 nm) := hSw.cell 1; go_simp <;> try rfl)
              try simp only [Act.put, List.setIfInBounds_toArray, List.set_cons_zero, List.set_cons_succ]
              refine reg_take (i := 4) rfl (by kernel_rfl) (by kernel_rfl) (by kernel_rfl) (fun _ _ _ h => h) (by rfl) hHeld (v := ?v404) ?hy404 ?rest404
              case hy404 => (intro w' hSw; go_simp <;> try rfl)
              try simp only [Act.put, List.setIfInBounds_toArray, List.set_cons_zero, List.set_cons_succ]
              refine reg_take (i := 5) rfl (by kernel_rfl) (by kernel_rfl) (by kernel_rfl) (fun _ _ _ h => h) (by rfl) hHeld (v := ?v405) ?hy405 ?rest405
              case hy405 => (intro w' hSw; go_simp <;> try rfl)
              try simp only [Act.put, List.setIfInBounds_toArray, List.set_cons_zero, List.set_cons_succ]
              refine reg_take (i := 6) rfl (by kernel_rfl) (by kernel_rfl) (by kernel_rfl) (fun _ _ _ h => h) (by rfl) hHeld (v := ?v406) ?hy406 ?rest406
              case hy406 => (intro w' hSw; have hc : w'.cell? ⟨wr.heap.size, 1, none⟩ = some (.int .i64 nm) := hSw.cell 1; go_simp <;> try rfl)
              try simp only [Act.put, List.setIfInBounds_toArray, List.set_cons_zero, List.set_cons_succ]
              refine wpAnyH_ready (rs := [3]) (by kernel_rfl) (by simp) ?_
              refine reg_cons rfl (by rfl) (fun K hK => ?_) ?_
              · go_simp
                refine (perm_no (some ⟨s, 0, none⟩) nm _ (Or.inr hno.out)).mono ?_
                rintro e W5 ⟨rfl, rfl⟩
                refine hK.out _ _ (hHeld) (fun hHeld => ?_)
                clear hK K
                try simp only [Act.put, List.setIfInBounds_toArray, List.set_cons_zero, List.set_cons_succ]
                refine wpAnyH_ready (rs := [7]) (by kernel_rfl) (by simp) ?_
                refine reg_cons rfl (by rfl) (fun K hK => ?_) ?_
                · go_simp
                  refine (refperm_no (some ⟨w2.heap.size, 0, none⟩) nm _ hno.out).mono ?_
                  rintro e W7 ⟨rfl, rfl⟩
                  refine hK.out _ _ (hHeld) (fun hHeld => ?_)
                  clear hK K
                  try simp only [Act.put, List.setIfInBounds_toArray, List.set_cons_zero, List.set_cons_succ]
                  refine wpAnyH_ready (rs := [8]) (by kernel_rfl) (by simp) ?_
                  refine reg_cons rfl (by rfl) (fun K hK => ?_) ?_
                  · go_simp
                    refine (eqI_c none none 0 0 0 [] _ (Lst.nil _ _) (Lst.nil _ _)).mono ?_
                    rintro e W8 ⟨rfl, b8⟩
                    have HS8 := HSd.out.below b8
                    refine hK.out _ _ (Arr.kept hHeld b8) (fun hHeld => ?_)
                    clear hK K
                    try simp only [Act.put, List.setIfInBounds_toArray, List.set_cons_zero, List.set_cons_succ]
                    refine reg_take (i := 9) rfl (by kernel_rfl) (by kernel_rfl) (by kernel_rfl) (fun _ _ _ h => h) (by rfl) hHeld (v := ?v407) ?hy407 ?rest407
                    case hy407 => (intro w' hSw; go_simp <;> try rfl)
                    try simp only [Act.put, List.setIfInBounds_toArray, List.set_cons_zero, List.set_cons_succ]
                    refine wpAnyH_done (by kernel_rfl) ?_ _
                    go_wp2_with fail
                    go_roundw
                    case rel => exact ⟨j + 1, _, by omega, by omega, by go_num, Lib.hid HS8⟩
                    case measure => simp [intOf]; omega
                  exact AllReadyH.nil
                exact AllReadyH.nil
              exact AllReadyH.nil
            · have hm12 : ¬ (nm ≤ 12) := by omega
              by_cases hhi : nm > 1024
              · have hno : Hid (nm < 0 ∨ 1024 < nm) := Or.inr hhi
                clear hin
                obtain ⟨U, hU⟩ : ∃ U, Hid (U = wr.alloc (.cells #[.int .i64 kd, .int .i64 nm] 31)) := ⟨_, rfl⟩
                have bU : Below wr.heap.size wr U := by rw [hU.out]; exact (Below.refl _ _).alloc (Nat.le_refl _) _
                have HAO : Hid (Arr U wr.heap.size 31 [.int .i64 kd, .int .i64 nm]) := by show Arr _ _ _ _; rw [hU.out]; exact Arr.new wr 31 [.int .i64 kd, .int .i64 nm]
                have HSu := Lib.hid (HS.out.below bU)
                have HSd := Lib.hid (HSu.out.below (below_drew2 (Below.refl U.heap.size U)))
                have hos := Lib.hid HS.out.a.lt
                have hot := Lib.hid HS.out.b.lt
                clear bU

                go_wp2_with fail
                rw [← hU.out]
                refine wp_region_held_drew (S := fun w' => Arr w' wr.heap.size 31 [.int .i64 kd, .int .i64 nm]) (by kernel_rfl) (HAO.out.drewN 1) (fun hHeld => ?_)
                refine reg_take (i := 0) rfl (by kernel_rfl) (by kernel_rfl) (by kernel_rfl) (fun _ _ _ h => h) (by rfl) hHeld (v := ?v501) ?hy501 ?rest501
                case hy501 => (intro w' hSw; go_simp <;> try rfl)
                try simp only [Act.put, List.setIfInBounds_toArray, List.set_cons_zero, List.set_cons_succ]
                refine reg_take (i := 1) rfl (by kernel_rfl) (by kernel_rfl) (by kernel_rfl) (fun _ _ _ h => h) (by rfl) hHeld (v := ?v502) ?hy502 ?rest502
                case hy502 => (intro w' hSw; go_simp <;> try rfl)
                try simp only [Act.put, List.setIfInBounds_toArray, List.set_cons_zero, List.set_cons_succ]
                refine reg_take (i := 2) rfl (by kernel_rfl) (by kernel_rfl) (by kernel_rfl) (fun _ _ _ h => h) (by rfl) hHeld (v := ?v503) ?hy503 ?rest503
                case hy503 => (intro w' hSw; have hc : w'.cell? ⟨wr.heap.size, 1, none⟩ = some (.int .i64 nm) := hSw.cell 1; go_simp <;> try rfl)
                try simp only [Act.put, List.setIfInBounds_toArray, List.set_cons_zero, List.set_cons_succ]
                refine reg_take (i := 4) rfl (by kernel_rfl) (by kernel_rfl) (by kernel_rfl) (fun _ _ _ h => h) (by rfl) hHeld (v := ?v504) ?hy504 ?rest504
                case hy504 => (intro w' hSw; go_simp <;> try rfl)
                try simp only [Act.put, List.setIfInBounds_toArray, List.set_cons_zero, List.set_cons_succ]
                refine reg_take (i := 5) rfl (by kernel_rfl) (by kernel_rfl) (by kernel_rfl) (fun _ _ _ h => h) (by rfl) hHeld (v := ?v505) ?hy505 ?rest505
                case hy505 => (intro w' hSw; go_simp <;> try rfl)
                try simp only [Act.put, List.setIfInBounds_toArray, List.set_cons_zero, List.set_cons_succ]
                refine reg_take (i := 6) rfl (by kernel_rfl) (by kernel_rfl) (by kernel_rfl) (fun _ _ _ h => h) (by rfl) hHeld (v := ?v506) ?hy506 ?rest506
                case hy506 => (intro w' hSw; have hc : w'.cell? ⟨wr.heap.size, 1, none⟩ = some (.int .i64 nm) := hSw.cell 1; go_simp <;> try rfl)
                try simp only [Act.put, List.setIfInBounds_toArray, List.set_cons_zero, List.set_cons_succ]
                refine wpAnyH_ready (rs := [3]) (by kernel_rfl) (by simp) ?_
                refine reg_cons rfl (by rfl) (fun K hK => ?_) ?_
                · go_simp
                  refine (perm_no (some ⟨s, 0, none⟩) nm _ (Or.inr hno.out)).mono ?_
                  rintro e W5 ⟨rfl, rfl⟩
                  refine hK.out _ _ (hHeld) (fun hHeld => ?_)
                  clear hK K
                  try simp only [Act.put, List.setIfInBounds_toArray, List.set_cons_zero, List.set_cons_succ]
                  refine wpAnyH_ready (rs := [7]) (by kernel_rfl) (by simp) ?_
                  refine reg_cons rfl (by rfl) (fun K hK => ?_) ?_
                  · go_simp
                    refine (refperm_no (some ⟨w2.heap.size, 0, none⟩) nm _ hno.out).mono ?_
                    rintro e W7 ⟨rfl, rfl⟩
                    refine hK.out _ _ (hHeld) (fun hHeld => ?_)
                    clear hK K
                    try simp only [Act.put, List.setIfInBounds_toArray, List.set_cons_zero, List.set_cons_succ]
                    refine wpAnyH_ready (rs := [8]) (by kernel_rfl) (by simp) ?_
                    refine reg_cons rfl (by rfl) (fun K hK => ?_) ?_
                    · go_simp
                      refine (eqI_c none none 0 0 0 [] _ (Lst.nil _ _) (Lst.nil _ _)).mono ?_
                      rintro e W8 ⟨rfl, b8⟩
                      have HS8 := HSd.out.below b8
                      refine hK.out _ _ (Arr.kept hHeld b8) (fun hHeld => ?_)
                      clear hK K
                      try simp only [Act.put, List.setIfInBounds_toArray, List.set_cons_zero, List.set_cons_succ]
                      refine reg_take (i := 9) rfl (by kernel_rfl) (by kernel_rfl) (by kernel_rfl) (fun _ _ _ h => h) (by rfl) hHeld (v := ?v507) ?hy507 ?rest507
                      case hy507 => (intro w' hSw; go_simp <;> try rfl)
                      try simp only [Act.put, List.setIfInBounds_toArray, List.set_cons_zero, List.set_cons_succ]
                      refine wpAnyH_done (by kernel_rfl) ?_ _
                      go_wp2_with fail
                      go_roundw
                      case rel => exact ⟨j + 1, _, by omega, by omega, by go_num, Lib.hid HS8⟩
                      case measure => simp [intOf]; omega
                    exact AllReadyH.nil
                  exact AllReadyH.nil
                exact AllReadyH.nil
              · clear hin
                obtain ⟨U, hU⟩ : ∃ U, Hid (U = wr.alloc (.cells #[.int .i64 kd, .int .i64 nm] 31)) := ⟨_, rfl⟩
                have bU : Below wr.heap.size wr U := by rw [hU.out]; exact (Below.refl _ _).alloc (Nat.le_refl _) _
                have HAO : Hid (Arr U wr.heap.size 31 [.int .i64 kd, .int .i64 nm]) := by show Arr _ _ _ _; rw [hU.out]; exact Arr.new wr 31 [.int .i64 kd, .int .i64 nm]
                have HSu := Lib.hid (HS.out.below bU)
                have HSd := Lib.hid (HSu.out.below (below_drew2 (Below.refl U.heap.size U)))
                have hos := Lib.hid HS.out.a.lt
                have hot := Lib.hid HS.out.b.lt
                clear bU
                go_wp2_with fail
                rw [← hU.out]
                go_roundw
                case rel => exact ⟨j + 1, p, by omega, by omega, by go_num, HSu⟩
                case measure => simp [intOf]; omega
    · have HA := Lib.hid (awake_c wr (hTa.below HS.out.bel) (hTb.below HS.out.bel))
      obtain ⟨v, hv⟩ : ∃ v, Hid (v = wordN A p) := ⟨_, rfl⟩
      have hvv : ((v : Int) == (v : Int)) = true := beq_self_eq_true _
      by_cases hltn : j < n
      case' pos =>
        have hlt' : (j : Int) < (n : Int) := by omega
        have hlt8' : ¬ ((j : Int) < 8) := by omega
      case' neg =>
        have hlt' : ¬ ((j : Int) < (n : Int)) := by omega
      all_goals
        clear hlt
        go_wp2_with fail
        refine HA.out.mono ?_
        rintro e w5 ⟨rfl, b5⟩
        have HS5 := Lib.hid (HS.out.below b5)
        have H1 := Lib.hid (word_c s A p w5 HS5.out.a (by omega) HS5.out.k1 (hTa.below HS5.out.bel))
        rw [← hv.out] at H1
        clear HA b5
        go_wp2_with fail
        refine H1.out.mono ?_
        rintro e w6 ⟨rfl, S6, G6⟩
        have HS6 := Lib.hid (HS5.out.stepS S6 G6 (nx_lt _))
        have H2 := Lib.hid (refword_c w2.heap.size A p w6 HS6.out.b (by omega) HS6.out.m1 (hTb.below HS6.out.bel))
        rw [← hv.out] at H2
        clear H1 S6 G6
        go_wp2_with fail
        refine H2.out.mono ?_
        rintro e w7 ⟨rfl, S7, G7⟩
        have HS7 := Lib.hid (HS6.out.stepT S7 G7 (nx_lt _))
        clear H2 S7 G7
        go_wp2_with fail
        go_ret
        exact ⟨rfl, HS7.out.bel⟩
end Go.Proofs.YtgomconcfjllcaaDoor
