/-
  The walk of DigestText.
-/
import Derived.Test.YtfmpccfoemgiiaaDoorDigAwake
import Derived.Test.YtfmpccfoemgiiaaDoorDigRefText
import Derived.Test.YtfmpccfoemgiiaaDoorDigTextMath
import Derived.Test.YtfmpccfoemgiiaaDoorDigReg
import Derived.Test.YtfmpccfoemgiiaaDoorDigSumLaw
namespace Go.Proofs.YtfmpccfoemgiiaaDoor
open Go.RowKit Dig

set_option maxHeartbeats 3200000 in
set_option maxRecDepth 100000 in
theorem textLaw_c (D : List Int) (w : World) (hD : IsD D) (hK : KTab 1 w) :
    Calls Tryd.prog 6 #[.agg (bcells D).toArray] w fun e w' => e = .returned (.bool true) ∧ Below w.heap.size w w' := by
  have HL : Hid (D.length = 32) := hD.len
  have HT : Hid (∀ w', Calls Tryd.prog 19 #[.agg (bcells D).toArray] w' fun e w'' => e = .returned (.string (textS D)) ∧ Below w'.heap.size w' w'') := fun w' => text_c D hD w'
  have HU : Hid (∀ w', Calls Tryd.prog 20 #[.agg (bcells D).toArray] w' fun e w'' => e = .returned (.string (textS D)) ∧ Below w'.heap.size w' w'') := fun w' => reftext_c D hD w'
  have HP : Hid (∀ w', Calls Tryd.prog 18 #[.string (textS D)] w' fun e w'' => e = .returned (.tuple #[.agg (bcells D).toArray, .bool true]) ∧ Below w'.heap.size w' w'') := fun w' => (parse_c (textS D) w' (by rw [str_len D hD.len]; omega)).mono fun e w'' ⟨h, b⟩ => by
    refine ⟨?_, b⟩
    rcases h with ⟨_, _, rfl⟩ | ⟨h, _⟩
    · rw [text_pd hD]
    · exact absurd ⟨str_len D hD.len, text_hex hD⟩ h
  have heq := eq_bytes D hD.len
  obtain ⟨T, hT⟩ : ∃ T, Hid (T = textS D) := ⟨_, rfl⟩
  rw [← hT.out] at HT HU HP
  have hbeq : (T.toList == T.toList) = true := beq_self_eq_true _
  have b1 : Below w.heap.size w (w.alloc (.cells (bcells D).toArray 25)) := (Below.refl _ _).alloc (Nat.le_refl _) _
  have A1 := Arr.new w 25 (bcells D)
  obtain ⟨V, hV⟩ : ∃ V, Hid (V = w.alloc (.cells (bcells D).toArray 25)) := ⟨_, rfl⟩
  rw [← hV.out] at b1 A1
  have HA := Lib.hid A1
  have HB := Lib.hid b1
  clear A1 b1 hD
  go_enter Tryd.func6, Tryd.ntmps6
  go_upto_region 1 with (fail)
  rw [show (w.alloc (.cells (bcells D).toArray 25)) = V from hV.out.symm]
  go_wp2_with (((with_reducible refine wpList_load_arr (d := some 6) arr25 HA.out ?e1 ?e2 ?_); (case e1 => rfl); (case e2 => exact bcells_len (Nat.le_of_eq HL.out))))
  refine (HT.out _).mono ?_
  rintro e w1 ⟨rfl, b1⟩
  have HA1 := Lib.hid (HA.out.kept b1)
  have B1 := Lib.hid (HB.out.trans (b1.mono HB.out.size))
  clear b1 HA HB
  go_wp2_with fail
  refine (HP.out _).mono ?_
  rintro e w2 ⟨rfl, b2⟩
  have HA2 := Lib.hid (HA1.out.kept b2)
  have B2 := Lib.hid (B1.out.trans (b2.mono B1.out.size))
  have b3 : Below w2.heap.size w2 (w2.alloc (.cells #[.int .u8 0, .int .u8 0, .int .u8 0, .int .u8 0, .int .u8 0, .int .u8 0, .int .u8 0, .int .u8 0, .int .u8 0, .int .u8 0, .int .u8 0, .int .u8 0, .int .u8 0, .int .u8 0, .int .u8 0, .int .u8 0, .int .u8 0, .int .u8 0, .int .u8 0, .int .u8 0, .int .u8 0, .int .u8 0, .int .u8 0, .int .u8 0, .int .u8 0, .int .u8 0, .int .u8 0, .int .u8 0, .int .u8 0, .int .u8 0, .int .u8 0, .int .u8 0] 25)) := (Below.refl _ _).alloc (Nat.le_refl _) _
  have HA3 : Hid (Arr (w2.alloc (.cells #[.int .u8 0, .int .u8 0, .int .u8 0, .int .u8 0, .int .u8 0, .int .u8 0, .int .u8 0, .int .u8 0, .int .u8 0, .int .u8 0, .int .u8 0, .int .u8 0, .int .u8 0, .int .u8 0, .int .u8 0, .int .u8 0, .int .u8 0, .int .u8 0, .int .u8 0, .int .u8 0, .int .u8 0, .int .u8 0, .int .u8 0, .int .u8 0, .int .u8 0, .int .u8 0, .int .u8 0, .int .u8 0, .int .u8 0, .int .u8 0, .int .u8 0, .int .u8 0] 25)) w2.heap.size 25 (bcells [])) := Arr.new w2 25 (bcells [])
  have HA4 := Lib.hid (HA2.out.kept b3)
  have B3 := Lib.hid (B2.out.trans (b3.mono B2.out.size))
  have hlt := Lib.hid HA2.out.lt
  clear b2 b3 HA1 B1 HA2
  go_wp2_with (((with_reducible refine wpList_store_arr (x := .tmp 3) (y := .tmp 9) (cs := bcells D) arr25 HA3.out ?e1 ?e2 ?e3 ?e4 ?e5 ?_); (case e1 => rfl); (case e2 => rfl); (case e3 => exact bcells_len (Nat.zero_le _)); (case e4 => exact bcells_len (Nat.le_of_eq HL.out)); (case e5 => exact bcells_one D); intro w3 hA9 hO9))
  have AR2 := Lib.hid hA9
  have AR1 := Lib.hid (hO9.arr HA4.out (Nat.ne_of_lt hlt.out))
  have BR := Lib.hid (hO9.below B3.out B3.out.size (Nat.le_of_lt hlt.out))
  have KR := Lib.hid (hK.below BR.out)
  clear hA9 hO9 HA3 HA4 B3 B2
  refine wp_region_held_drew (S := fun w' => KTab 1 w' ∧ Arr w' w.heap.size 25 (bcells D) ∧ Arr w' w2.heap.size 25 (bcells D) ∧ Below w.heap.size w w') (by kernel_rfl) (⟨KR.out, AR1.out.drew, AR2.out.drew, below_drew BR.out⟩) (fun hHeld => ?_)
  refine wpAnyH_ready (rs := [0]) (by kernel_rfl) (by simp) ?_
  refine reg_cons rfl (by rfl) (fun K hK => ?_) ?_
  · go_simp
    refine (awake_c _ hHeld.1).mono ?_
    rintro e v2 ⟨rfl, h1B⟩
    refine hK.out _ _ (⟨hHeld.1.below h1B, hHeld.2.1.kept h1B, hHeld.2.2.1.kept h1B, hHeld.2.2.2.trans (h1B.mono hHeld.2.2.2.size)⟩) (fun hHeld => ?_)
    clear hK K
    try simp only [Act.put, List.setIfInBounds_toArray, List.set_cons_zero, List.set_cons_succ]
    refine reg_take (i := 1) rfl (by kernel_rfl) (by kernel_rfl) (by kernel_rfl) (fun _ _ _ h => h) (by rfl) hHeld (v := ?v3) ?hy3 ?rest3
    case hy3 => (intro w' hSw; go_simp <;> try rfl)
    try simp only [Act.put, List.setIfInBounds_toArray, List.set_cons_zero, List.set_cons_succ]
    refine reg_take (i := 2) rfl (by kernel_rfl) (by kernel_rfl) (by kernel_rfl) (fun _ _ _ h => h) (by rfl) hHeld (v := ?v4) ?hy4 ?rest4
    case hy4 => (intro w' hSw; refine exec_load_arr arr25 ?_ hSw.2.1 (bcells_len (Nat.le_of_eq HL.out)); rfl)
    try simp only [Act.put, List.setIfInBounds_toArray, List.set_cons_zero, List.set_cons_succ]
    refine reg_take (i := 4) rfl (by kernel_rfl) (by kernel_rfl) (by kernel_rfl) (fun _ _ _ h => h) (by rfl) hHeld (v := ?v5) ?hy5 ?rest5
    case hy5 => (intro w' hSw; refine exec_load_arr arr25 ?_ hSw.2.1 (bcells_len (Nat.le_of_eq HL.out)); rfl)
    try simp only [Act.put, List.setIfInBounds_toArray, List.set_cons_zero, List.set_cons_succ]
    refine wpAnyH_ready (rs := [3]) (by kernel_rfl) (by simp) ?_
    refine reg_cons rfl (by rfl) (fun K hK => ?_) ?_
    · go_simp
      refine (HT.out _).mono ?_
      rintro e v7 ⟨rfl, h6B⟩
      refine hK.out _ _ (⟨hHeld.1.below h6B, hHeld.2.1.kept h6B, hHeld.2.2.1.kept h6B, hHeld.2.2.2.trans (h6B.mono hHeld.2.2.2.size)⟩) (fun hHeld => ?_)
      clear hK K
      try simp only [Act.put, List.setIfInBounds_toArray, List.set_cons_zero, List.set_cons_succ]
      refine wpAnyH_ready (rs := [5]) (by kernel_rfl) (by simp) ?_
      refine reg_cons rfl (by rfl) (fun K hK => ?_) ?_
      · go_simp
        refine (HU.out _).mono ?_
        rintro e v9 ⟨rfl, h8B⟩
        refine hK.out _ _ (⟨hHeld.1.below h8B, hHeld.2.1.kept h8B, hHeld.2.2.1.kept h8B, hHeld.2.2.2.trans (h8B.mono hHeld.2.2.2.size)⟩) (fun hHeld => ?_)
        clear hK K
        try simp only [Act.put, List.setIfInBounds_toArray, List.set_cons_zero, List.set_cons_succ]
        refine reg_take (i := 6) rfl (by kernel_rfl) (by kernel_rfl) (by kernel_rfl) (fun _ _ _ h => h) (by rfl) hHeld (v := ?v10) ?hy10 ?rest10
        case hy10 => (intro w' hSw; go_simp <;> try rfl)
        try simp only [Act.put, List.setIfInBounds_toArray, List.set_cons_zero, List.set_cons_succ]
        refine reg_take (i := 7) rfl (by kernel_rfl) (by kernel_rfl) (by kernel_rfl) (fun _ _ _ h => h) (by rfl) hHeld (v := ?v11) ?hy11 ?rest11
        case hy11 => (intro w' hSw; go_simp <;> try rfl)
        try simp only [Act.put, List.setIfInBounds_toArray, List.set_cons_zero, List.set_cons_succ]
        refine reg_take (i := 8) rfl (by kernel_rfl) (by kernel_rfl) (by kernel_rfl) (fun _ _ _ h => h) (by rfl) hHeld (v := ?v12) ?hy12 ?rest12
        case hy12 => (intro w' hSw; go_simp <;> try rfl)
        try simp only [Act.put, List.setIfInBounds_toArray, List.set_cons_zero, List.set_cons_succ]
        refine reg_take (i := 9) rfl (by kernel_rfl) (by kernel_rfl) (by kernel_rfl) (fun _ _ _ h => h) (by rfl) hHeld (v := ?v13) ?hy13 ?rest13
        case hy13 => (intro w' hSw; go_simp <;> try rfl)
        try simp only [Act.put, List.setIfInBounds_toArray, List.set_cons_zero, List.set_cons_succ]
        refine reg_take (i := 10) rfl (by kernel_rfl) (by kernel_rfl) (by kernel_rfl) (fun _ _ _ h => h) (by rfl) hHeld (v := ?v14) ?hy14 ?rest14
        case hy14 => (intro w' hSw; go_simp <;> try rfl)
        try simp only [Act.put, List.setIfInBounds_toArray, List.set_cons_zero, List.set_cons_succ]
        refine reg_take (i := 11) rfl (by kernel_rfl) (by kernel_rfl) (by kernel_rfl) (fun _ _ _ h => h) (by rfl) hHeld (v := ?v15) ?hy15 ?rest15
        case hy15 => (intro w' hSw; go_simp <;> try rfl)
        try simp only [Act.put, List.setIfInBounds_toArray, List.set_cons_zero, List.set_cons_succ]
        refine reg_take (i := 12) rfl (by kernel_rfl) (by kernel_rfl) (by kernel_rfl) (fun _ _ _ h => h) (by rfl) hHeld (v := ?v16) ?hy16 ?rest16
        case hy16 => (intro w' hSw; refine exec_load_arr arr25 ?_ hSw.2.2.1 (bcells_len (Nat.le_of_eq HL.out)); rfl)
        try simp only [Act.put, List.setIfInBounds_toArray, List.set_cons_zero, List.set_cons_succ]
        refine reg_take (i := 13) rfl (by kernel_rfl) (by kernel_rfl) (by kernel_rfl) (fun _ _ _ h => h) (by rfl) hHeld (v := ?v17) ?hy17 ?rest17
        case hy17 => (intro w' hSw; refine exec_load_arr arr25 ?_ hSw.2.1 (bcells_len (Nat.le_of_eq HL.out)); rfl)
        try simp only [Act.put, List.setIfInBounds_toArray, List.set_cons_zero, List.set_cons_succ]
        refine reg_take (i := 14) rfl (by kernel_rfl) (by kernel_rfl) (by kernel_rfl) (fun _ _ _ h => h) (by rfl) hHeld (v := ?v18) ?hy18 ?rest18
        case hy18 => (intro w' hSw; go_simp <;> try rfl)
        try simp only [Act.put, List.setIfInBounds_toArray, List.set_cons_zero, List.set_cons_succ]
        refine reg_take (i := 15) rfl (by kernel_rfl) (by kernel_rfl) (by kernel_rfl) (fun _ _ _ h => h) (by rfl) hHeld (v := ?v19) ?hy19 ?rest19
        case hy19 => (intro w' hSw; go_simp <;> try rfl)
        try simp only [Act.put, List.setIfInBounds_toArray, List.set_cons_zero, List.set_cons_succ]
        refine reg_take (i := 16) rfl (by kernel_rfl) (by kernel_rfl) (by kernel_rfl) (fun _ _ _ h => h) (by rfl) hHeld (v := ?v20) ?hy20 ?rest20
        case hy20 => (intro w' hSw; go_simp <;> try rfl)
        try simp only [Act.put, List.setIfInBounds_toArray, List.set_cons_zero, List.set_cons_succ]
        refine wpAnyH_done (by kernel_rfl) ?_ _
        go_wp2
        go_ret
        exact ⟨rfl, hHeld.2.2.2⟩
      exact AllReadyH.nil
    exact AllReadyH.nil
  exact AllReadyH.nil
end Go.Proofs.YtfmpccfoemgiiaaDoor

