/-
  (*random.Source).Word.
-/
import Derived.Test.YtgomconcfjllcaaDoorRndTo
import Derived.Test.YtgomconcfjllcaaDoorDigReg
import Derived.Test.YtgomconcfjllcaaDoorDigLit
namespace Go.Proofs.YtgomconcfjllcaaDoor
open Go.RowKit Dig Rnd

theorem parts2 (w : World) (a1 a2 : Option Addr) (l1 d1 l2 d2 : Nat) (xs ys : List Int) (L1 : Lst .u8 w a1 l1 d1 xs) (z1 : a1 = none → d1 = 0) (L2 : Lst .u8 w a2 l2 d2 ys) (z2 : a2 = none → d2 = 0) :
    Parts (w.alloc (.cells #[.slice a1 l1 d1, .slice a2 l2 d2] 48)) (some ⟨w.heap.size, 0, none⟩) 2 2 [xs, ys] := by
  have b : Below w.heap.size w (w.alloc (.cells #[.slice a1 l1 d1, .slice a2 l2 d2] 48)) := (Below.refl _ _).alloc (Nat.le_refl _) _
  refine ⟨rfl, Nat.le_refl _, by omega, fun _ => ⟨_, rfl⟩, fun i hi => ?_⟩
  have hA := Arr.new w 48 [.slice a1 l1 d1, .slice a2 l2 d2]
  rcases (show i = 0 ∨ i = 1 by omega) with rfl | rfl
  · exact ⟨a1, l1, d1, by rw [pt_own]; exact hA.cell 0, L1.below b, z1⟩
  · exact ⟨a2, l2, d2, by rw [pt_own]; exact hA.cell 1, L2.below b, z2⟩
theorem dig_lst {w : World} {g : Nat} {F : List Int} (h : Arr w g 46 (bcells F)) (hF : IsD F) : Lst .u8 w (some ⟨g, 0, none⟩) 8 32 (F.take 8) := by
  have hl := hF.len
  refine ⟨by simp; omega, by omega, by omega, fun _ => ⟨_, rfl⟩, fun i hi => ?_, fun x hx => wf_u8 (hF.lo x (List.mem_of_mem_take hx)) (hF.hi x (List.mem_of_mem_take hx))⟩
  rw [pt_own, h.cell i, bcells_at (by omega)]
  have : (F.take 8).getD i 0 = F.getD i 0 := by simp [List.getD, hi]
  rw [this]
theorem src_end {t : TypeId} {w w' : World} {g k j : Nat} {S : ByteArray} (h : Src t w' g S k) (hb : Below w.heap.size w w') :
    Src t (w'.setCell ⟨g, 1, none⟩ (.int .u64 (j : Int))) g S j ∧ w.grownBy (w'.setCell ⟨g, 1, none⟩ (.int .u64 (j : Int))) (some g) :=
  ⟨Arr.set h 1 _, grown_set (grown_of_below hb _) 1 _⟩
section
variable {w : World} {a : Act} {K : Act → World → Prop} {Q : Exit → Act → World → Prop} {d : Option Tmp} {p q : Operand} {ty : TypeId} {pos : String} {after : Array Edge} {gd : Option (Nat × Bool)}
theorem wp_conv {S : ByteArray} (hx : a.eval p = .string S) (hS : S.size ≤ 1000)
    (h : ∀ w' g c, Lst .u8 w' (some ⟨g, 0, none⟩) S.size c (bytesI S) → Below w.heap.size w w' → w.heap.size ≤ g → K (a.put d (.slice (some ⟨g, 0, none⟩) S.size c)) w') :
    Oper.wp Tryd.prog ⟨d, .convert 9 48 p, ty, pos, after, gd⟩ a w K Q := by
  have h1 := h _ _ _ (str_lst w S (by unfold maxLen; omega)) ((below_drew2 (Below.refl _ _)).alloc (Nat.le_refl _) _) (Nat.le_refl _)
  have hr := run_bytes_of_string (P := Tryd.prog) w 9 48 5 S Tryd.underlying9 Tryd.underlying48 Tryd.underlying5
  unfold Oper.wp execOp
  simp only [hx, Sem.run_bind, hr, Result.andThen_ok]
  exact h1
end

set_option maxHeartbeats 3200000 in
set_option maxRecDepth 100000 in
theorem word_c (g : Nat) (S : ByteArray) (k : Nat) (w : World) (h : Src 44 w g S k) (hs : S.size ≤ 1000) (hk0 : k ≤ 18446744073709551615) (hT0 : KTab 1 w) :
    Calls Tryd.prog 11 #[.pointer (some ⟨g, 0, none⟩)] w fun e w' => e = .returned (.int .u64 (wordN S k : Nat)) ∧ Src 44 w' g S (nx k) ∧ w.grownBy w' (some g) := by
  have HS := Lib.hid hs
  have hk := Lib.hid hk0
  have HA := Lib.hid h
  have hgl := Lib.hid h.lt
  obtain ⟨F, hF⟩ : ∃ F, Hid (F = sumL (joinL [bytesI S, beN k 8])) := ⟨_, rfl⟩
  have HFL : Hid (F.length = 32) := by show _ = _; rw [hF.out]; rfl
  have HW : Hid (wordN S k = fromN F 8) := by show _ = _; rw [hF.out]; rfl
  have HFD : Hid (IsD F) := by show IsD F; rw [hF.out]; exact sumL_isD _
  have HPB : ∀ p ∈ [bytesI S, beN k 8], p.length ≤ 1000 := by
    intro p hp
    simp at hp
    rcases hp with rfl | rfl
    · rw [bytesI_len]; exact hs
    · rw [beN_len]; omega
  have HO : Hid (∀ a n c W, Parts W a n c [bytesI S, beN k 8] → KTab 1 W → Calls Tryd.prog 21 #[.slice a n c] W fun e w' => e = .returned (.agg (bcells F).toArray) ∧ Below W.heap.size W w') := fun a n c W hp hk => by
    rw [hF.out]
    exact of_c a n c _ W hp (by have := hp.len; simp at this; omega) HPB hk
  have HN : Hid (IntKind.u64.wrap ((k : Int) + 1) = ((nx k : Nat) : Int)) := by show _ = _; rw [IntKind.wrap_u64]; unfold nx; omega
  rw [HW.out]
  clear h hs hk0 HPB
  go_enter Tryd.func11, Tryd.ntmps11
  go_upto_region 3 with (fail)
  refine wp_region_held_drew (S := fun w' => Src 44 w' g S k ∧ Below w.heap.size w w') (by kernel_rfl) (⟨HA.out.drewN 1, below_drew2 (Below.refl _ _)⟩) (fun hHeld => ?_)
  refine reg_take (i := 0) rfl (by kernel_rfl) (by kernel_rfl) (by kernel_rfl) (fun _ _ _ h => h) (by rfl) hHeld (v := ?v1) ?hy1 ?rest1
  case hy1 => (intro w' hSw; go_simp <;> try rfl)
  try simp only [Act.put, List.setIfInBounds_toArray, List.set_cons_zero, List.set_cons_succ]
  refine reg_take (i := 1) rfl (by kernel_rfl) (by kernel_rfl) (by kernel_rfl) (fun _ _ _ h => h) (by rfl) hHeld (v := ?v2) ?hy2 ?rest2
  case hy2 => (intro w' hSw; go_simp <;> try rfl)
  try simp only [Act.put, List.setIfInBounds_toArray, List.set_cons_zero, List.set_cons_succ]
  refine reg_take (i := 2) rfl (by kernel_rfl) (by kernel_rfl) (by kernel_rfl) (fun _ _ _ h => h) (by rfl) hHeld (v := ?v3) ?hy3 ?rest3
  case hy3 => (intro w' hSw; go_simp <;> try rfl)
  try simp only [Act.put, List.setIfInBounds_toArray, List.set_cons_zero, List.set_cons_succ]
  refine reg_take (i := 3) rfl (by kernel_rfl) (by kernel_rfl) (by kernel_rfl) (fun _ _ _ h => h) (by rfl) hHeld (v := ?v4) ?hy4 ?rest4
  case hy4 => (intro w' hSw; have hc := hSw.1.arr.cell 0; have hc1 : w'.cell? ⟨g, 0, none⟩ = some (.string S) := hc; go_simp <;> try rfl)
  try simp only [Act.put, List.setIfInBounds_toArray, List.set_cons_zero, List.set_cons_succ]
  refine reg_take (i := 5) rfl (by kernel_rfl) (by kernel_rfl) (by kernel_rfl) (fun _ _ _ h => h) (by rfl) hHeld (v := ?v5) ?hy5 ?rest5
  case hy5 => (intro w' hSw; go_simp <;> try rfl)
  try simp only [Act.put, List.setIfInBounds_toArray, List.set_cons_zero, List.set_cons_succ]
  refine reg_take (i := 6) rfl (by kernel_rfl) (by kernel_rfl) (by kernel_rfl) (fun _ _ _ h => h) (by rfl) hHeld (v := ?v6) ?hy6 ?rest6
  case hy6 => (intro w' hSw; go_simp <;> try rfl)
  try simp only [Act.put, List.setIfInBounds_toArray, List.set_cons_zero, List.set_cons_succ]
  refine reg_take (i := 7) rfl (by kernel_rfl) (by kernel_rfl) (by kernel_rfl) (fun _ _ _ h => h) (by rfl) hHeld (v := ?v7) ?hy7 ?rest7
  case hy7 => (intro w' hSw; go_simp <;> try rfl)
  try simp only [Act.put, List.setIfInBounds_toArray, List.set_cons_zero, List.set_cons_succ]
  refine reg_take (i := 8) rfl (by kernel_rfl) (by kernel_rfl) (by kernel_rfl) (fun _ _ _ h => h) (by rfl) hHeld (v := ?v8) ?hy8 ?rest8
  case hy8 => (intro w' hSw; have hc := hSw.1.arr.cell 1; have hc1 : w'.cell? ⟨g, 1, none⟩ = some (.int .u64 (k : Int)) := hc; go_simp <;> try rfl)
  try simp only [Act.put, List.setIfInBounds_toArray, List.set_cons_zero, List.set_cons_succ]
  refine wpAnyH_ready (rs := [4, 9, 12]) (by kernel_rfl) (by simp) ?_
  refine reg_cons rfl (by rfl) (fun K hK => ?_) ?_
  · refine wp_conv rfl HS.out ?_
    intro W8 g8 c8 L8 b8 h8
    refine hK.out _ _ (⟨hHeld.1.kept b8, hHeld.2.trans (b8.mono hHeld.2.size)⟩) (fun hHeld => ?_)
    clear hK K
    try simp only [Act.put, List.setIfInBounds_toArray, List.set_cons_zero, List.set_cons_succ]
    refine wpAnyH_ready (rs := [9, 12]) (by kernel_rfl) (by simp) ?_
    refine reg_cons rfl (by rfl) (fun K hK => ?_) ?_
    · go_simp
      refine (toBytes_c k _ hk.out).mono ?_
      rintro e W9 ⟨g9, rfl, _, O9, b9⟩
      have M9 := O9.lst
      clear O9
      have L8' := L8.below b9
      refine hK.out _ _ (⟨hHeld.1.kept b9, hHeld.2.trans (b9.mono hHeld.2.size)⟩) (fun hHeld => ?_)
      clear hK K
      try simp only [Act.put, List.setIfInBounds_toArray, List.set_cons_zero, List.set_cons_succ]
      refine wpAnyH_ready (rs := [10, 12]) (by kernel_rfl) (by simp) ?_
      refine reg_cons rfl (by rfl) (fun K hK => ?_) ?_
      · have P10 := parts2 W9 _ _ _ _ _ _ _ _ L8' (fun e => by cases e) M9 (fun e => by cases e)
        have b10 : Below W9.heap.size W9 (W9.alloc (.cells #[.slice (some ⟨g8, 0, none⟩) S.size c8, .slice (some ⟨g9, 0, none⟩) 8 8] 48)) := (Below.refl _ _).alloc (Nat.le_refl _) _
        go_simp
        refine hK.out _ _ (⟨hHeld.1.kept b10, hHeld.2.trans (b10.mono hHeld.2.size)⟩) (fun hHeld => ?_)
        clear hK K
        try simp only [Act.put, List.setIfInBounds_toArray, List.set_cons_zero, List.set_cons_succ]
        refine wpAnyH_ready (rs := [11, 12]) (by kernel_rfl) (by simp) ?_
        refine reg_cons rfl (by rfl) (fun K hK => ?_) ?_
        · go_simp
          refine (HO.out _ _ _ _ P10 (hT0.below hHeld.2)).mono ?_
          rintro e W11 ⟨rfl, b11⟩
          refine hK.out _ _ (⟨hHeld.1.kept b11, hHeld.2.trans (b11.mono hHeld.2.size)⟩) (fun hHeld => ?_)
          clear hK K
          try simp only [Act.put, List.setIfInBounds_toArray, List.set_cons_zero, List.set_cons_succ]
          refine wpAnyH_ready (rs := [12]) (by kernel_rfl) (by simp) ?_
          refine reg_cons rfl (by rfl) (fun K hK => ?_) ?_
          · refine wp_alloc_arr z25 ?_
            intro W12 g12 A12 b12 h120
            have h12 : w.heap.size ≤ g12 := Nat.le_trans hHeld.2.size h120
            refine hK.out _ _ (⟨hHeld.1.kept b12, hHeld.2.trans (b12.mono hHeld.2.size)⟩) (fun hHeld => ?_)
            clear hK K
            try simp only [Act.put, List.setIfInBounds_toArray, List.set_cons_zero, List.set_cons_succ]
            refine wpAnyH_ready (rs := [13]) (by kernel_rfl) (by simp) ?_
            refine reg_cons rfl (by rfl) (fun K hK => ?_) ?_
            · refine wp_store_arr arr25 A12 rfl rfl (by rfl) (bcells_len (Nat.le_of_eq HFL.out)) (bcells_one F) ?_
              intro W13 A13 O13
              refine hK.out _ _ (⟨hHeld.1.grownBy O13.grown (Nat.ne_of_lt (Nat.lt_of_lt_of_le hgl.out h12)), O13.below hHeld.2 hHeld.2.size h12⟩) (fun hHeld => ?_)
              clear hK K
              refine wpAnyH_done (by kernel_rfl) ?_ _
              have hc1 : W13.cell? ⟨g, 1, none⟩ = some (.int .u64 (k : Int)) := hHeld.1.arr.cell 1
              have hf1 : W13.frozen? ⟨g, 1, none⟩ = false := hHeld.1.arr.frozen 1
              have hn := HN.out
              have HAA := Lib.hid A13
              have HH := Lib.hid hHeld
              clear hHeld
              go_wp2_with fail
              refine (fromBytes_c _ 8 32 (F.take 8) _ (dig_lst (HAA.out.far (Nat.ne_of_gt (Nat.lt_of_lt_of_le hgl.out h12)) _) HFD.out) (by omega)).mono ?_
              rintro e w9 ⟨rfl, rfl⟩
              go_wp2_with fail
              go_ret
              exact ⟨ret_u64 (by rw [fromN_take _ _ _ (Nat.le_refl _)]), src_end HH.out.1 HH.out.2⟩
            exact AllReadyH.nil
          exact AllReadyH.nil
        refine reg_cons rfl (by rfl) (fun K hK => ?_) ?_
        · refine wp_alloc_arr z25 ?_
          intro W14 g14 A14 b14 h140
          have h14 : w.heap.size ≤ g14 := Nat.le_trans hHeld.2.size h140
          have P10' := P10.below b14
          refine hK.out _ _ (⟨hHeld.1.kept b14, hHeld.2.trans (b14.mono hHeld.2.size)⟩) (fun hHeld => ?_)
          clear hK K
          try simp only [Act.put, List.setIfInBounds_toArray, List.set_cons_zero, List.set_cons_succ]
          refine wpAnyH_ready (rs := [11]) (by kernel_rfl) (by simp) ?_
          refine reg_cons rfl (by rfl) (fun K hK => ?_) ?_
          · go_simp
            refine (HO.out _ _ _ _ P10' (hT0.below hHeld.2)).mono ?_
            rintro e W15 ⟨rfl, b15⟩
            have A14' := A14.kept b15
            refine hK.out _ _ (⟨hHeld.1.kept b15, hHeld.2.trans (b15.mono hHeld.2.size)⟩) (fun hHeld => ?_)
            clear hK K
            try simp only [Act.put, List.setIfInBounds_toArray, List.set_cons_zero, List.set_cons_succ]
            refine wpAnyH_ready (rs := [13]) (by kernel_rfl) (by simp) ?_
            refine reg_cons rfl (by rfl) (fun K hK => ?_) ?_
            · refine wp_store_arr arr25 A14' rfl rfl (by rfl) (bcells_len (Nat.le_of_eq HFL.out)) (bcells_one F) ?_
              intro W16 A16 O16
              refine hK.out _ _ (⟨hHeld.1.grownBy O16.grown (Nat.ne_of_lt (Nat.lt_of_lt_of_le hgl.out h14)), O16.below hHeld.2 hHeld.2.size h14⟩) (fun hHeld => ?_)
              clear hK K
              refine wpAnyH_done (by kernel_rfl) ?_ _
              have hc1 : W16.cell? ⟨g, 1, none⟩ = some (.int .u64 (k : Int)) := hHeld.1.arr.cell 1
              have hf1 : W16.frozen? ⟨g, 1, none⟩ = false := hHeld.1.arr.frozen 1
              have hn := HN.out
              have HAA := Lib.hid A16
              have HH := Lib.hid hHeld
              clear hHeld
              go_wp2_with fail
              refine (fromBytes_c _ 8 32 (F.take 8) _ (dig_lst (HAA.out.far (Nat.ne_of_gt (Nat.lt_of_lt_of_le hgl.out h14)) _) HFD.out) (by omega)).mono ?_
              rintro e w9 ⟨rfl, rfl⟩
              go_wp2_with fail
              go_ret
              exact ⟨ret_u64 (by rw [fromN_take _ _ _ (Nat.le_refl _)]), src_end HH.out.1 HH.out.2⟩
            exact AllReadyH.nil
          exact AllReadyH.nil
        exact AllReadyH.nil
      refine reg_cons rfl (by rfl) (fun K hK => ?_) ?_
      · refine wp_alloc_arr z25 ?_
        intro W17 g17 A17 b17 h170
        have h17 : w.heap.size ≤ g17 := Nat.le_trans hHeld.2.size h170
        have L8'' := L8'.below b17
        have M9' := M9.below b17
        refine hK.out _ _ (⟨hHeld.1.kept b17, hHeld.2.trans (b17.mono hHeld.2.size)⟩) (fun hHeld => ?_)
        clear hK K
        try simp only [Act.put, List.setIfInBounds_toArray, List.set_cons_zero, List.set_cons_succ]
        refine wpAnyH_ready (rs := [10]) (by kernel_rfl) (by simp) ?_
        refine reg_cons rfl (by rfl) (fun K hK => ?_) ?_
        · have P18 := parts2 W17 _ _ _ _ _ _ _ _ L8'' (fun e => by cases e) M9' (fun e => by cases e)
          have b18 : Below W17.heap.size W17 (W17.alloc (.cells #[.slice (some ⟨g8, 0, none⟩) S.size c8, .slice (some ⟨g9, 0, none⟩) 8 8] 48)) := (Below.refl _ _).alloc (Nat.le_refl _) _
          have A17' := A17.kept b18
          go_simp
          refine hK.out _ _ (⟨hHeld.1.kept b18, hHeld.2.trans (b18.mono hHeld.2.size)⟩) (fun hHeld => ?_)
          clear hK K
          try simp only [Act.put, List.setIfInBounds_toArray, List.set_cons_zero, List.set_cons_succ]
          refine wpAnyH_ready (rs := [11]) (by kernel_rfl) (by simp) ?_
          refine reg_cons rfl (by rfl) (fun K hK => ?_) ?_
          · go_simp
            refine (HO.out _ _ _ _ P18 (hT0.below hHeld.2)).mono ?_
            rintro e W19 ⟨rfl, b19⟩
            have A17'' := A17'.kept b19
            refine hK.out _ _ (⟨hHeld.1.kept b19, hHeld.2.trans (b19.mono hHeld.2.size)⟩) (fun hHeld => ?_)
            clear hK K
            try simp only [Act.put, List.setIfInBounds_toArray, List.set_cons_zero, List.set_cons_succ]
            refine wpAnyH_ready (rs := [13]) (by kernel_rfl) (by simp) ?_
            refine reg_cons rfl (by rfl) (fun K hK => ?_) ?_
            · refine wp_store_arr arr25 A17'' rfl rfl (by rfl) (bcells_len (Nat.le_of_eq HFL.out)) (bcells_one F) ?_
              intro W20 A20 O20
              refine hK.out _ _ (⟨hHeld.1.grownBy O20.grown (Nat.ne_of_lt (Nat.lt_of_lt_of_le hgl.out h17)), O20.below hHeld.2 hHeld.2.size h17⟩) (fun hHeld => ?_)
              clear hK K
              refine wpAnyH_done (by kernel_rfl) ?_ _
              have hc1 : W20.cell? ⟨g, 1, none⟩ = some (.int .u64 (k : Int)) := hHeld.1.arr.cell 1
              have hf1 : W20.frozen? ⟨g, 1, none⟩ = false := hHeld.1.arr.frozen 1
              have hn := HN.out
              have HAA := Lib.hid A20
              have HH := Lib.hid hHeld
              clear hHeld
              go_wp2_with fail
              refine (fromBytes_c _ 8 32 (F.take 8) _ (dig_lst (HAA.out.far (Nat.ne_of_gt (Nat.lt_of_lt_of_le hgl.out h17)) _) HFD.out) (by omega)).mono ?_
              rintro e w9 ⟨rfl, rfl⟩
              go_wp2_with fail
              go_ret
              exact ⟨ret_u64 (by rw [fromN_take _ _ _ (Nat.le_refl _)]), src_end HH.out.1 HH.out.2⟩
            exact AllReadyH.nil
          exact AllReadyH.nil
        exact AllReadyH.nil
      exact AllReadyH.nil
    refine reg_cons rfl (by rfl) (fun K hK => ?_) ?_
    · refine wp_alloc_arr z25 ?_
      intro W21 g21 A21 b21 h210
      have h21 : w.heap.size ≤ g21 := Nat.le_trans hHeld.2.size h210
      have L8' := L8.below b21
      refine hK.out _ _ (⟨hHeld.1.kept b21, hHeld.2.trans (b21.mono hHeld.2.size)⟩) (fun hHeld => ?_)
      clear hK K
      try simp only [Act.put, List.setIfInBounds_toArray, List.set_cons_zero, List.set_cons_succ]
      refine wpAnyH_ready (rs := [9]) (by kernel_rfl) (by simp) ?_
      refine reg_cons rfl (by rfl) (fun K hK => ?_) ?_
      · go_simp
        refine (toBytes_c k _ hk.out).mono ?_
        rintro e W22 ⟨g22, rfl, _, O22, b22⟩
        have M22 := O22.lst
        clear O22
        have L8'' := L8'.below b22
        have A21' := A21.kept b22
        refine hK.out _ _ (⟨hHeld.1.kept b22, hHeld.2.trans (b22.mono hHeld.2.size)⟩) (fun hHeld => ?_)
        clear hK K
        try simp only [Act.put, List.setIfInBounds_toArray, List.set_cons_zero, List.set_cons_succ]
        refine wpAnyH_ready (rs := [10]) (by kernel_rfl) (by simp) ?_
        refine reg_cons rfl (by rfl) (fun K hK => ?_) ?_
        · have P23 := parts2 W22 _ _ _ _ _ _ _ _ L8'' (fun e => by cases e) M22 (fun e => by cases e)
          have b23 : Below W22.heap.size W22 (W22.alloc (.cells #[.slice (some ⟨g8, 0, none⟩) S.size c8, .slice (some ⟨g22, 0, none⟩) 8 8] 48)) := (Below.refl _ _).alloc (Nat.le_refl _) _
          have A21'' := A21'.kept b23
          go_simp
          refine hK.out _ _ (⟨hHeld.1.kept b23, hHeld.2.trans (b23.mono hHeld.2.size)⟩) (fun hHeld => ?_)
          clear hK K
          try simp only [Act.put, List.setIfInBounds_toArray, List.set_cons_zero, List.set_cons_succ]
          refine wpAnyH_ready (rs := [11]) (by kernel_rfl) (by simp) ?_
          refine reg_cons rfl (by rfl) (fun K hK => ?_) ?_
          · go_simp
            refine (HO.out _ _ _ _ P23 (hT0.below hHeld.2)).mono ?_
            rintro e W24 ⟨rfl, b24⟩
            have A21''' := A21''.kept b24
            refine hK.out _ _ (⟨hHeld.1.kept b24, hHeld.2.trans (b24.mono hHeld.2.size)⟩) (fun hHeld => ?_)
            clear hK K
            try simp only [Act.put, List.setIfInBounds_toArray, List.set_cons_zero, List.set_cons_succ]
            refine wpAnyH_ready (rs := [13]) (by kernel_rfl) (by simp) ?_
            refine reg_cons rfl (by rfl) (fun K hK => ?_) ?_
            · refine wp_store_arr arr25 A21''' rfl rfl (by rfl) (bcells_len (Nat.le_of_eq HFL.out)) (bcells_one F) ?_
              intro W25 A25 O25
              refine hK.out _ _ (⟨hHeld.1.grownBy O25.grown (Nat.ne_of_lt (Nat.lt_of_lt_of_le hgl.out h21)), O25.below hHeld.2 hHeld.2.size h21⟩) (fun hHeld => ?_)
              clear hK K
              refine wpAnyH_done (by kernel_rfl) ?_ _
              have hc1 : W25.cell? ⟨g, 1, none⟩ = some (.int .u64 (k : Int)) := hHeld.1.arr.cell 1
              have hf1 : W25.frozen? ⟨g, 1, none⟩ = false := hHeld.1.arr.frozen 1
              have hn := HN.out
              have HAA := Lib.hid A25
              have HH := Lib.hid hHeld
              clear hHeld
              go_wp2_with fail
              refine (fromBytes_c _ 8 32 (F.take 8) _ (dig_lst (HAA.out.far (Nat.ne_of_gt (Nat.lt_of_lt_of_le hgl.out h21)) _) HFD.out) (by omega)).mono ?_
              rintro e w9 ⟨rfl, rfl⟩
              go_wp2_with fail
              go_ret
              exact ⟨ret_u64 (by rw [fromN_take _ _ _ (Nat.le_refl _)]), src_end HH.out.1 HH.out.2⟩
            exact AllReadyH.nil
          exact AllReadyH.nil
        exact AllReadyH.nil
      exact AllReadyH.nil
    exact AllReadyH.nil
  refine reg_cons rfl (by rfl) (fun K hK => ?_) ?_
  · go_simp
    refine (toBytes_c k _ hk.out).mono ?_
    rintro e W26 ⟨g26, rfl, _, O26, b26⟩
    have M26 := O26.lst
    clear O26
    refine hK.out _ _ (⟨hHeld.1.kept b26, hHeld.2.trans (b26.mono hHeld.2.size)⟩) (fun hHeld => ?_)
    clear hK K
    try simp only [Act.put, List.setIfInBounds_toArray, List.set_cons_zero, List.set_cons_succ]
    refine wpAnyH_ready (rs := [4, 12]) (by kernel_rfl) (by simp) ?_
    refine reg_cons rfl (by rfl) (fun K hK => ?_) ?_
    · refine wp_conv rfl HS.out ?_
      intro W27 g27 c27 L27 b27 h27
      have M26' := M26.below b27
      refine hK.out _ _ (⟨hHeld.1.kept b27, hHeld.2.trans (b27.mono hHeld.2.size)⟩) (fun hHeld => ?_)
      clear hK K
      try simp only [Act.put, List.setIfInBounds_toArray, List.set_cons_zero, List.set_cons_succ]
      refine wpAnyH_ready (rs := [10, 12]) (by kernel_rfl) (by simp) ?_
      refine reg_cons rfl (by rfl) (fun K hK => ?_) ?_
      · have P28 := parts2 W27 _ _ _ _ _ _ _ _ L27 (fun e => by cases e) M26' (fun e => by cases e)
        have b28 : Below W27.heap.size W27 (W27.alloc (.cells #[.slice (some ⟨g27, 0, none⟩) S.size c27, .slice (some ⟨g26, 0, none⟩) 8 8] 48)) := (Below.refl _ _).alloc (Nat.le_refl _) _
        go_simp
        refine hK.out _ _ (⟨hHeld.1.kept b28, hHeld.2.trans (b28.mono hHeld.2.size)⟩) (fun hHeld => ?_)
        clear hK K
        try simp only [Act.put, List.setIfInBounds_toArray, List.set_cons_zero, List.set_cons_succ]
        refine wpAnyH_ready (rs := [11, 12]) (by kernel_rfl) (by simp) ?_
        refine reg_cons rfl (by rfl) (fun K hK => ?_) ?_
        · go_simp
          refine (HO.out _ _ _ _ P28 (hT0.below hHeld.2)).mono ?_
          rintro e W29 ⟨rfl, b29⟩
          refine hK.out _ _ (⟨hHeld.1.kept b29, hHeld.2.trans (b29.mono hHeld.2.size)⟩) (fun hHeld => ?_)
          clear hK K
          try simp only [Act.put, List.setIfInBounds_toArray, List.set_cons_zero, List.set_cons_succ]
          refine wpAnyH_ready (rs := [12]) (by kernel_rfl) (by simp) ?_
          refine reg_cons rfl (by rfl) (fun K hK => ?_) ?_
          · refine wp_alloc_arr z25 ?_
            intro W30 g30 A30 b30 h300
            have h30 : w.heap.size ≤ g30 := Nat.le_trans hHeld.2.size h300
            refine hK.out _ _ (⟨hHeld.1.kept b30, hHeld.2.trans (b30.mono hHeld.2.size)⟩) (fun hHeld => ?_)
            clear hK K
            try simp only [Act.put, List.setIfInBounds_toArray, List.set_cons_zero, List.set_cons_succ]
            refine wpAnyH_ready (rs := [13]) (by kernel_rfl) (by simp) ?_
            refine reg_cons rfl (by rfl) (fun K hK => ?_) ?_
            · refine wp_store_arr arr25 A30 rfl rfl (by rfl) (bcells_len (Nat.le_of_eq HFL.out)) (bcells_one F) ?_
              intro W31 A31 O31
              refine hK.out _ _ (⟨hHeld.1.grownBy O31.grown (Nat.ne_of_lt (Nat.lt_of_lt_of_le hgl.out h30)), O31.below hHeld.2 hHeld.2.size h30⟩) (fun hHeld => ?_)
              clear hK K
              refine wpAnyH_done (by kernel_rfl) ?_ _
              have hc1 : W31.cell? ⟨g, 1, none⟩ = some (.int .u64 (k : Int)) := hHeld.1.arr.cell 1
              have hf1 : W31.frozen? ⟨g, 1, none⟩ = false := hHeld.1.arr.frozen 1
              have hn := HN.out
              have HAA := Lib.hid A31
              have HH := Lib.hid hHeld
              clear hHeld
              go_wp2_with fail
              refine (fromBytes_c _ 8 32 (F.take 8) _ (dig_lst (HAA.out.far (Nat.ne_of_gt (Nat.lt_of_lt_of_le hgl.out h30)) _) HFD.out) (by omega)).mono ?_
              rintro e w9 ⟨rfl, rfl⟩
              go_wp2_with fail
              go_ret
              exact ⟨ret_u64 (by rw [fromN_take _ _ _ (Nat.le_refl _)]), src_end HH.out.1 HH.out.2⟩
            exact AllReadyH.nil
          exact AllReadyH.nil
        refine reg_cons rfl (by rfl) (fun K hK => ?_) ?_
        · refine wp_alloc_arr z25 ?_
          intro W32 g32 A32 b32 h320
          have h32 : w.heap.size ≤ g32 := Nat.le_trans hHeld.2.size h320
          have P28' := P28.below b32
          refine hK.out _ _ (⟨hHeld.1.kept b32, hHeld.2.trans (b32.mono hHeld.2.size)⟩) (fun hHeld => ?_)
          clear hK K
          try simp only [Act.put, List.setIfInBounds_toArray, List.set_cons_zero, List.set_cons_succ]
          refine wpAnyH_ready (rs := [11]) (by kernel_rfl) (by simp) ?_
          refine reg_cons rfl (by rfl) (fun K hK => ?_) ?_
          · go_simp
            refine (HO.out _ _ _ _ P28' (hT0.below hHeld.2)).mono ?_
            rintro e W33 ⟨rfl, b33⟩
            have A32' := A32.kept b33
            refine hK.out _ _ (⟨hHeld.1.kept b33, hHeld.2.trans (b33.mono hHeld.2.size)⟩) (fun hHeld => ?_)
            clear hK K
            try simp only [Act.put, List.setIfInBounds_toArray, List.set_cons_zero, List.set_cons_succ]
            refine wpAnyH_ready (rs := [13]) (by kernel_rfl) (by simp) ?_
            refine reg_cons rfl (by rfl) (fun K hK => ?_) ?_
            · refine wp_store_arr arr25 A32' rfl rfl (by rfl) (bcells_len (Nat.le_of_eq HFL.out)) (bcells_one F) ?_
              intro W34 A34 O34
              refine hK.out _ _ (⟨hHeld.1.grownBy O34.grown (Nat.ne_of_lt (Nat.lt_of_lt_of_le hgl.out h32)), O34.below hHeld.2 hHeld.2.size h32⟩) (fun hHeld => ?_)
              clear hK K
              refine wpAnyH_done (by kernel_rfl) ?_ _
              have hc1 : W34.cell? ⟨g, 1, none⟩ = some (.int .u64 (k : Int)) := hHeld.1.arr.cell 1
              have hf1 : W34.frozen? ⟨g, 1, none⟩ = false := hHeld.1.arr.frozen 1
              have hn := HN.out
              have HAA := Lib.hid A34
              have HH := Lib.hid hHeld
              clear hHeld
              go_wp2_with fail
              refine (fromBytes_c _ 8 32 (F.take 8) _ (dig_lst (HAA.out.far (Nat.ne_of_gt (Nat.lt_of_lt_of_le hgl.out h32)) _) HFD.out) (by omega)).mono ?_
              rintro e w9 ⟨rfl, rfl⟩
              go_wp2_with fail
              go_ret
              exact ⟨ret_u64 (by rw [fromN_take _ _ _ (Nat.le_refl _)]), src_end HH.out.1 HH.out.2⟩
            exact AllReadyH.nil
          exact AllReadyH.nil
        exact AllReadyH.nil
      refine reg_cons rfl (by rfl) (fun K hK => ?_) ?_
      · refine wp_alloc_arr z25 ?_
        intro W35 g35 A35 b35 h350
        have h35 : w.heap.size ≤ g35 := Nat.le_trans hHeld.2.size h350
        have L27' := L27.below b35
        have M26'' := M26'.below b35
        refine hK.out _ _ (⟨hHeld.1.kept b35, hHeld.2.trans (b35.mono hHeld.2.size)⟩) (fun hHeld => ?_)
        clear hK K
        try simp only [Act.put, List.setIfInBounds_toArray, List.set_cons_zero, List.set_cons_succ]
        refine wpAnyH_ready (rs := [10]) (by kernel_rfl) (by simp) ?_
        refine reg_cons rfl (by rfl) (fun K hK => ?_) ?_
        · have P36 := parts2 W35 _ _ _ _ _ _ _ _ L27' (fun e => by cases e) M26'' (fun e => by cases e)
          have b36 : Below W35.heap.size W35 (W35.alloc (.cells #[.slice (some ⟨g27, 0, none⟩) S.size c27, .slice (some ⟨g26, 0, none⟩) 8 8] 48)) := (Below.refl _ _).alloc (Nat.le_refl _) _
          have A35' := A35.kept b36
          go_simp
          refine hK.out _ _ (⟨hHeld.1.kept b36, hHeld.2.trans (b36.mono hHeld.2.size)⟩) (fun hHeld => ?_)
          clear hK K
          try simp only [Act.put, List.setIfInBounds_toArray, List.set_cons_zero, List.set_cons_succ]
          refine wpAnyH_ready (rs := [11]) (by kernel_rfl) (by simp) ?_
          refine reg_cons rfl (by rfl) (fun K hK => ?_) ?_
          · go_simp
            refine (HO.out _ _ _ _ P36 (hT0.below hHeld.2)).mono ?_
            rintro e W37 ⟨rfl, b37⟩
            have A35'' := A35'.kept b37
            refine hK.out _ _ (⟨hHeld.1.kept b37, hHeld.2.trans (b37.mono hHeld.2.size)⟩) (fun hHeld => ?_)
            clear hK K
            try simp only [Act.put, List.setIfInBounds_toArray, List.set_cons_zero, List.set_cons_succ]
            refine wpAnyH_ready (rs := [13]) (by kernel_rfl) (by simp) ?_
            refine reg_cons rfl (by rfl) (fun K hK => ?_) ?_
            · refine wp_store_arr arr25 A35'' rfl rfl (by rfl) (bcells_len (Nat.le_of_eq HFL.out)) (bcells_one F) ?_
              intro W38 A38 O38
              refine hK.out _ _ (⟨hHeld.1.grownBy O38.grown (Nat.ne_of_lt (Nat.lt_of_lt_of_le hgl.out h35)), O38.below hHeld.2 hHeld.2.size h35⟩) (fun hHeld => ?_)
              clear hK K
              refine wpAnyH_done (by kernel_rfl) ?_ _
              have hc1 : W38.cell? ⟨g, 1, none⟩ = some (.int .u64 (k : Int)) := hHeld.1.arr.cell 1
              have hf1 : W38.frozen? ⟨g, 1, none⟩ = false := hHeld.1.arr.frozen 1
              have hn := HN.out
              have HAA := Lib.hid A38
              have HH := Lib.hid hHeld
              clear hHeld
              go_wp2_with fail
              refine (fromBytes_c _ 8 32 (F.take 8) _ (dig_lst (HAA.out.far (Nat.ne_of_gt (Nat.lt_of_lt_of_le hgl.out h35)) _) HFD.out) (by omega)).mono ?_
              rintro e w9 ⟨rfl, rfl⟩
              go_wp2_with fail
              go_ret
              exact ⟨ret_u64 (by rw [fromN_take _ _ _ (Nat.le_refl _)]), src_end HH.out.1 HH.out.2⟩
            exact AllReadyH.nil
          exact AllReadyH.nil
        exact AllReadyH.nil
      exact AllReadyH.nil
    refine reg_cons rfl (by rfl) (fun K hK => ?_) ?_
    · refine wp_alloc_arr z25 ?_
      intro W39 g39 A39 b39 h390
      have h39 : w.heap.size ≤ g39 := Nat.le_trans hHeld.2.size h390
      have M26' := M26.below b39
      refine hK.out _ _ (⟨hHeld.1.kept b39, hHeld.2.trans (b39.mono hHeld.2.size)⟩) (fun hHeld => ?_)
      clear hK K
      try simp only [Act.put, List.setIfInBounds_toArray, List.set_cons_zero, List.set_cons_succ]
      refine wpAnyH_ready (rs := [4]) (by kernel_rfl) (by simp) ?_
      refine reg_cons rfl (by rfl) (fun K hK => ?_) ?_
      · refine wp_conv rfl HS.out ?_
        intro W40 g40 c40 L40 b40 h40
        have M26'' := M26'.below b40
        have A39' := A39.kept b40
        refine hK.out _ _ (⟨hHeld.1.kept b40, hHeld.2.trans (b40.mono hHeld.2.size)⟩) (fun hHeld => ?_)
        clear hK K
        try simp only [Act.put, List.setIfInBounds_toArray, List.set_cons_zero, List.set_cons_succ]
        refine wpAnyH_ready (rs := [10]) (by kernel_rfl) (by simp) ?_
        refine reg_cons rfl (by rfl) (fun K hK => ?_) ?_
        · have P41 := parts2 W40 _ _ _ _ _ _ _ _ L40 (fun e => by cases e) M26'' (fun e => by cases e)
          have b41 : Below W40.heap.size W40 (W40.alloc (.cells #[.slice (some ⟨g40, 0, none⟩) S.size c40, .slice (some ⟨g26, 0, none⟩) 8 8] 48)) := (Below.refl _ _).alloc (Nat.le_refl _) _
          have A39'' := A39'.kept b41
          go_simp
          refine hK.out _ _ (⟨hHeld.1.kept b41, hHeld.2.trans (b41.mono hHeld.2.size)⟩) (fun hHeld => ?_)
          clear hK K
          try simp only [Act.put, List.setIfInBounds_toArray, List.set_cons_zero, List.set_cons_succ]
          refine wpAnyH_ready (rs := [11]) (by kernel_rfl) (by simp) ?_
          refine reg_cons rfl (by rfl) (fun K hK => ?_) ?_
          · go_simp
            refine (HO.out _ _ _ _ P41 (hT0.below hHeld.2)).mono ?_
            rintro e W42 ⟨rfl, b42⟩
            have A39''' := A39''.kept b42
            refine hK.out _ _ (⟨hHeld.1.kept b42, hHeld.2.trans (b42.mono hHeld.2.size)⟩) (fun hHeld => ?_)
            clear hK K
            try simp only [Act.put, List.setIfInBounds_toArray, List.set_cons_zero, List.set_cons_succ]
            refine wpAnyH_ready (rs := [13]) (by kernel_rfl) (by simp) ?_
            refine reg_cons rfl (by rfl) (fun K hK => ?_) ?_
            · refine wp_store_arr arr25 A39''' rfl rfl (by rfl) (bcells_len (Nat.le_of_eq HFL.out)) (bcells_one F) ?_
              intro W43 A43 O43
              refine hK.out _ _ (⟨hHeld.1.grownBy O43.grown (Nat.ne_of_lt (Nat.lt_of_lt_of_le hgl.out h39)), O43.below hHeld.2 hHeld.2.size h39⟩) (fun hHeld => ?_)
              clear hK K
              refine wpAnyH_done (by kernel_rfl) ?_ _
              have hc1 : W43.cell? ⟨g, 1, none⟩ = some (.int .u64 (k : Int)) := hHeld.1.arr.cell 1
              have hf1 : W43.frozen? ⟨g, 1, none⟩ = false := hHeld.1.arr.frozen 1
              have hn := HN.out
              have HAA := Lib.hid A43
              have HH := Lib.hid hHeld
              clear hHeld
              go_wp2_with fail
              refine (fromBytes_c _ 8 32 (F.take 8) _ (dig_lst (HAA.out.far (Nat.ne_of_gt (Nat.lt_of_lt_of_le hgl.out h39)) _) HFD.out) (by omega)).mono ?_
              rintro e w9 ⟨rfl, rfl⟩
              go_wp2_with fail
              go_ret
              exact ⟨ret_u64 (by rw [fromN_take _ _ _ (Nat.le_refl _)]), src_end HH.out.1 HH.out.2⟩
            exact AllReadyH.nil
          exact AllReadyH.nil
        exact AllReadyH.nil
      exact AllReadyH.nil
    exact AllReadyH.nil
  refine reg_cons rfl (by rfl) (fun K hK => ?_) ?_
  · refine wp_alloc_arr z25 ?_
    intro W44 g44 A44 b44 h440
    have h44 : w.heap.size ≤ g44 := Nat.le_trans hHeld.2.size h440
    refine hK.out _ _ (⟨hHeld.1.kept b44, hHeld.2.trans (b44.mono hHeld.2.size)⟩) (fun hHeld => ?_)
    clear hK K
    try simp only [Act.put, List.setIfInBounds_toArray, List.set_cons_zero, List.set_cons_succ]
    refine wpAnyH_ready (rs := [4, 9]) (by kernel_rfl) (by simp) ?_
    refine reg_cons rfl (by rfl) (fun K hK => ?_) ?_
    · refine wp_conv rfl HS.out ?_
      intro W45 g45 c45 L45 b45 h45
      have A44' := A44.kept b45
      refine hK.out _ _ (⟨hHeld.1.kept b45, hHeld.2.trans (b45.mono hHeld.2.size)⟩) (fun hHeld => ?_)
      clear hK K
      try simp only [Act.put, List.setIfInBounds_toArray, List.set_cons_zero, List.set_cons_succ]
      refine wpAnyH_ready (rs := [9]) (by kernel_rfl) (by simp) ?_
      refine reg_cons rfl (by rfl) (fun K hK => ?_) ?_
      · go_simp
        refine (toBytes_c k _ hk.out).mono ?_
        rintro e W46 ⟨g46, rfl, _, O46, b46⟩
        have M46 := O46.lst
        clear O46
        have L45' := L45.below b46
        have A44'' := A44'.kept b46
        refine hK.out _ _ (⟨hHeld.1.kept b46, hHeld.2.trans (b46.mono hHeld.2.size)⟩) (fun hHeld => ?_)
        clear hK K
        try simp only [Act.put, List.setIfInBounds_toArray, List.set_cons_zero, List.set_cons_succ]
        refine wpAnyH_ready (rs := [10]) (by kernel_rfl) (by simp) ?_
        refine reg_cons rfl (by rfl) (fun K hK => ?_) ?_
        · have P47 := parts2 W46 _ _ _ _ _ _ _ _ L45' (fun e => by cases e) M46 (fun e => by cases e)
          have b47 : Below W46.heap.size W46 (W46.alloc (.cells #[.slice (some ⟨g45, 0, none⟩) S.size c45, .slice (some ⟨g46, 0, none⟩) 8 8] 48)) := (Below.refl _ _).alloc (Nat.le_refl _) _
          have A44''' := A44''.kept b47
          go_simp
          refine hK.out _ _ (⟨hHeld.1.kept b47, hHeld.2.trans (b47.mono hHeld.2.size)⟩) (fun hHeld => ?_)
          clear hK K
          try simp only [Act.put, List.setIfInBounds_toArray, List.set_cons_zero, List.set_cons_succ]
          refine wpAnyH_ready (rs := [11]) (by kernel_rfl) (by simp) ?_
          refine reg_cons rfl (by rfl) (fun K hK => ?_) ?_
          · go_simp
            refine (HO.out _ _ _ _ P47 (hT0.below hHeld.2)).mono ?_
            rintro e W48 ⟨rfl, b48⟩
            have A44'''' := A44'''.kept b48
            refine hK.out _ _ (⟨hHeld.1.kept b48, hHeld.2.trans (b48.mono hHeld.2.size)⟩) (fun hHeld => ?_)
            clear hK K
            try simp only [Act.put, List.setIfInBounds_toArray, List.set_cons_zero, List.set_cons_succ]
            refine wpAnyH_ready (rs := [13]) (by kernel_rfl) (by simp) ?_
            refine reg_cons rfl (by rfl) (fun K hK => ?_) ?_
            · refine wp_store_arr arr25 A44'''' rfl rfl (by rfl) (bcells_len (Nat.le_of_eq HFL.out)) (bcells_one F) ?_
              intro W49 A49 O49
              refine hK.out _ _ (⟨hHeld.1.grownBy O49.grown (Nat.ne_of_lt (Nat.lt_of_lt_of_le hgl.out h44)), O49.below hHeld.2 hHeld.2.size h44⟩) (fun hHeld => ?_)
              clear hK K
              refine wpAnyH_done (by kernel_rfl) ?_ _
              have hc1 : W49.cell? ⟨g, 1, none⟩ = some (.int .u64 (k : Int)) := hHeld.1.arr.cell 1
              have hf1 : W49.frozen? ⟨g, 1, none⟩ = false := hHeld.1.arr.frozen 1
              have hn := HN.out
              have HAA := Lib.hid A49
              have HH := Lib.hid hHeld
              clear hHeld
              go_wp2_with fail
              refine (fromBytes_c _ 8 32 (F.take 8) _ (dig_lst (HAA.out.far (Nat.ne_of_gt (Nat.lt_of_lt_of_le hgl.out h44)) _) HFD.out) (by omega)).mono ?_
              rintro e w9 ⟨rfl, rfl⟩
              go_wp2_with fail
              go_ret
              exact ⟨ret_u64 (by rw [fromN_take _ _ _ (Nat.le_refl _)]), src_end HH.out.1 HH.out.2⟩
            exact AllReadyH.nil
          exact AllReadyH.nil
        exact AllReadyH.nil
      exact AllReadyH.nil
    refine reg_cons rfl (by rfl) (fun K hK => ?_) ?_
    · go_simp
      refine (toBytes_c k _ hk.out).mono ?_
      rintro e W50 ⟨g50, rfl, _, O50, b50⟩
      have M50 := O50.lst
      clear O50
      have A44' := A44.kept b50
      refine hK.out _ _ (⟨hHeld.1.kept b50, hHeld.2.trans (b50.mono hHeld.2.size)⟩) (fun hHeld => ?_)
      clear hK K
      try simp only [Act.put, List.setIfInBounds_toArray, List.set_cons_zero, List.set_cons_succ]
      refine wpAnyH_ready (rs := [4]) (by kernel_rfl) (by simp) ?_
      refine reg_cons rfl (by rfl) (fun K hK => ?_) ?_
      · refine wp_conv rfl HS.out ?_
        intro W51 g51 c51 L51 b51 h51
        have M50' := M50.below b51
        have A44'' := A44'.kept b51
        refine hK.out _ _ (⟨hHeld.1.kept b51, hHeld.2.trans (b51.mono hHeld.2.size)⟩) (fun hHeld => ?_)
        clear hK K
        try simp only [Act.put, List.setIfInBounds_toArray, List.set_cons_zero, List.set_cons_succ]
        refine wpAnyH_ready (rs := [10]) (by kernel_rfl) (by simp) ?_
        refine reg_cons rfl (by rfl) (fun K hK => ?_) ?_
        · have P52 := parts2 W51 _ _ _ _ _ _ _ _ L51 (fun e => by cases e) M50' (fun e => by cases e)
          have b52 : Below W51.heap.size W51 (W51.alloc (.cells #[.slice (some ⟨g51, 0, none⟩) S.size c51, .slice (some ⟨g50, 0, none⟩) 8 8] 48)) := (Below.refl _ _).alloc (Nat.le_refl _) _
          have A44''' := A44''.kept b52
          go_simp
          refine hK.out _ _ (⟨hHeld.1.kept b52, hHeld.2.trans (b52.mono hHeld.2.size)⟩) (fun hHeld => ?_)
          clear hK K
          try simp only [Act.put, List.setIfInBounds_toArray, List.set_cons_zero, List.set_cons_succ]
          refine wpAnyH_ready (rs := [11]) (by kernel_rfl) (by simp) ?_
          refine reg_cons rfl (by rfl) (fun K hK => ?_) ?_
          · go_simp
            refine (HO.out _ _ _ _ P52 (hT0.below hHeld.2)).mono ?_
            rintro e W53 ⟨rfl, b53⟩
            have A44'''' := A44'''.kept b53
            refine hK.out _ _ (⟨hHeld.1.kept b53, hHeld.2.trans (b53.mono hHeld.2.size)⟩) (fun hHeld => ?_)
            clear hK K
            try simp only [Act.put, List.setIfInBounds_toArray, List.set_cons_zero, List.set_cons_succ]
            refine wpAnyH_ready (rs := [13]) (by kernel_rfl) (by simp) ?_
            refine reg_cons rfl (by rfl) (fun K hK => ?_) ?_
            · refine wp_store_arr arr25 A44'''' rfl rfl (by rfl) (bcells_len (Nat.le_of_eq HFL.out)) (bcells_one F) ?_
              intro W54 A54 O54
              refine hK.out _ _ (⟨hHeld.1.grownBy O54.grown (Nat.ne_of_lt (Nat.lt_of_lt_of_le hgl.out h44)), O54.below hHeld.2 hHeld.2.size h44⟩) (fun hHeld => ?_)
              clear hK K
              refine wpAnyH_done (by kernel_rfl) ?_ _
              have hc1 : W54.cell? ⟨g, 1, none⟩ = some (.int .u64 (k : Int)) := hHeld.1.arr.cell 1
              have hf1 : W54.frozen? ⟨g, 1, none⟩ = false := hHeld.1.arr.frozen 1
              have hn := HN.out
              have HAA := Lib.hid A54
              have HH := Lib.hid hHeld
              clear hHeld
              go_wp2_with fail
              refine (fromBytes_c _ 8 32 (F.take 8) _ (dig_lst (HAA.out.far (Nat.ne_of_gt (Nat.lt_of_lt_of_le hgl.out h44)) _) HFD.out) (by omega)).mono ?_
              rintro e w9 ⟨rfl, rfl⟩
              go_wp2_with fail
              go_ret
              exact ⟨ret_u64 (by rw [fromN_take _ _ _ (Nat.le_refl _)]), src_end HH.out.1 HH.out.2⟩
            exact AllReadyH.nil
          exact AllReadyH.nil
        exact AllReadyH.nil
      exact AllReadyH.nil
    exact AllReadyH.nil
  exact AllReadyH.nil
end Go.Proofs.YtgomconcfjllcaaDoor

