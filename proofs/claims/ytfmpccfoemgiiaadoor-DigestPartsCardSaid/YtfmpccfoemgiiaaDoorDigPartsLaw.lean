/-
  The walk of DigestParts.
-/
import Derived.Test.YtfmpccfoemgiiaaDoorDigOf
import Derived.Test.YtfmpccfoemgiiaaDoorDigCut
import Derived.Test.YtfmpccfoemgiiaaDoorDigAwake
namespace Go.Proofs.YtfmpccfoemgiiaaDoor
open Go.RowKit Dig

namespace Dig
theorem joinL_inj : ∀ (ps qs : List (List Int)), (∀ p ∈ ps, p.length ≤ 1000) → (∀ q ∈ qs, q.length ≤ 1000) → joinL ps = joinL qs → ps = qs := by
  intro ps
  induction ps with
  | nil =>
    intro qs _ _ h
    cases qs with
    | nil => rfl
    | cons q qs =>
      have e : joinL (q :: qs) = (beN q.length 4 ++ q) ++ joinL qs := rfl
      have := congrArg List.length h
      rw [e, List.length_append, List.length_append, beN_len] at this
      simp [joinL] at this
      try omega
  | cons p ps ih =>
    intro qs hp hq h
    have ep : joinL (p :: ps) = beN p.length 4 ++ (p ++ joinL ps) := by
      show (beN p.length 4 ++ p) ++ joinL ps = _
      rw [List.append_assoc]
    cases qs with
    | nil =>
      have := congrArg List.length h
      rw [ep, List.length_append, beN_len] at this
      simp [joinL] at this
      try omega
    | cons q qs =>
      have eq' : joinL (q :: qs) = beN q.length 4 ++ (q ++ joinL qs) := by
        show (beN q.length 4 ++ q) ++ joinL qs = _
        rw [List.append_assoc]
      rw [ep, eq'] at h
      obtain ⟨h1, h2⟩ := List.append_inj h (by rw [beN_len, beN_len])
      have hpl := hp p (List.mem_cons_self ..)
      have hql := hq q (List.mem_cons_self ..)
      have hl : p.length = q.length := by
        simp only [beN, List.cons.injEq] at h1
        omega
      obtain ⟨h3, h4⟩ := List.append_inj h2 hl
      rw [h3, ih qs (fun x hx => hp x (List.mem_cons_of_mem _ hx)) (fun x hx => hq x (List.mem_cons_of_mem _ hx)) h4]
/-- As many parts, and the first i of them equal. -/
def samT (xs ys : List (List Int)) (i : Nat) : Bool := decide (xs.length = ys.length ∧ xs.take i = ys.take i)
theorem samT_next {xs ys : List (List Int)} {i : Nat} (h : samT xs ys i = true) (hi : i < xs.length) : samT xs ys (i + 1) = decide (xs.getD i [] = ys.getD i []) := by
  obtain ⟨hl, ht⟩ := of_decide_eq_true h
  have e : ∀ (zs : List (List Int)), i < zs.length → zs.take (i + 1) = zs.take i ++ [zs.getD i []] := fun zs hz => by
    rw [List.take_succ_eq_append_getElem hz]
    simp [List.getD, hz]
  unfold samT
  rw [e xs hi, e ys (by omega), ht]
  simp [hl]
theorem samT_false {xs ys : List (List Int)} {i : Nat} (h : samT xs ys i = false) : xs ≠ ys := by
  intro e
  subst e
  simp [samT] at h
theorem samT_true {xs ys : List (List Int)} (h : samT xs ys xs.length = true) : xs = ys := by
  obtain ⟨hl, ht⟩ := of_decide_eq_true h
  rwa [List.take_of_length_le (Nat.le_refl _), hl, List.take_of_length_le (Nat.le_refl _)] at ht
end Dig

set_option maxHeartbeats 3200000 in
set_option maxRecDepth 100000 in
theorem partsLaw_c (ao : Option Addr) (n c : Nat) (ps : List (List Int)) (bo : Option Addr) (m d : Nat) (qs : List (List Int)) (w : World) (h1 : Parts w ao n c ps) (h2 : Parts w bo m d qs) (hK : KTab 1 w) :
    Calls Tryd.prog 5 #[.slice ao n c, .slice bo m d] w fun e w' => e = .returned (.bool true) ∧ Below w.heap.size w w' := by
  have HC := Lib.hid (cut_c ao n c ps 6 30 w h1 (by omega) (by omega))
  have HP2 := Lib.hid h2
  clear h1 h2
  go_enter Tryd.func5, Tryd.ntmps5
  go_wp2_with fail
  refine HC.out.mono ?_
  rintro e w1 ⟨a1, n1, c1, xs, rfl, hn1, PX1, hx, b1⟩
  have hx' : Hid (∀ q ∈ xs, q.length ≤ 1000) := fun q hm => by have := hx q hm; omega
  have HC2 := Lib.hid (cut_c bo m d qs 6 30 w1 (HP2.out.below b1) (by omega) (by omega))
  clear hx HC HP2
  go_wp2_with fail
  refine HC2.out.mono ?_
  rintro e w2 ⟨a2, n2, c2, ys, rfl, hn2, PY2, hy, b2⟩
  have hy' : Hid (∀ q ∈ ys, q.length ≤ 1000) := fun q hm => by have := hy q hm; omega
  have HPX := Lib.hid (PX1.below b2)
  have HPY := Lib.hid PY2
  have B2 := Lib.hid (b1.trans (b2.mono b1.size))
  have hxl := Lib.hid PX1.len
  have hyl := Lib.hid PY2.len
  have hcap1 := PX1.cap
  have hcap2 := PY2.cap
  have hr1 := PX1.room
  have hr2 := PY2.room
  clear hy b1 b2 PX1 PY2 HC2
  obtain ⟨L1, hL1⟩ : ∃ L, Hid (L = joinL xs) := ⟨_, rfl⟩
  obtain ⟨L2, hL2⟩ : ∃ L, Hid (L = joinL ys) := ⟨_, rfl⟩
  obtain ⟨q, hq⟩ : ∃ q : Bool, Hid (((n1 : Int) == (n2 : Int)) = q) := ⟨_, rfl⟩
  have hqi := hq.out
  have hq0 : Hid (q = samT xs ys 0) := by
    show _ = _
    rw [← hq.out, samT, hxl.out, hyl.out]
    simp only [List.take_zero, and_true]
    rcases Nat.decEq n1 n2 with h | h
    · rw [decide_eq_false h, beq_eq_false_iff_ne.2 (by omega)]
    · rw [decide_eq_true h, beq_iff_eq.2 (by omega)]
  go_wp2
  try clear hqi
  go_loopw [5, 6] (fun v x wr => ∃ i : Nat, i ≤ n1 ∧ x = .int .i64 i ∧ v = .bool (samT xs ys i) ∧ Below w2.heap.size w2 wr)
    (fun _ x _ => n1 - (intOf x).toNat)
  case atStart => exact ⟨0, Nat.zero_le _, rfl, by rw [hq0.out], Below.refl _ _⟩
  case round =>
    obtain ⟨i, hi, rfl, rfl, hB⟩ := hrel
    have HB := Lib.hid hB
    clear hB
    cases hG : samT xs ys i with
    | false =>
      have hdec : Hid (decide (L1 = L2) = false) := decide_eq_false (fun e => samT_false hG (joinL_inj xs ys hx'.out hy'.out (by rw [← hL1.out, ← hL2.out, e])))
      clear hG
      have PX4 := HPX.out.below HB.out
      have PY4 := HPY.out.below HB.out
      have B4 := B2.out.trans (HB.out.mono B2.out.size)
      have HA := Lib.hid (awake_c wr (hK.below B4))
      clear HB
      go_wp2_with fail
      refine HA.out.mono ?_
      rintro e w5 ⟨rfl, b5⟩
      have PX5 := PX4.below b5
      have PY5 := PY4.below b5
      have B5 := B4.trans (b5.mono B4.size)
      have HJ := Lib.hid (join_c a1 _ c1 xs w5 PX5 (by omega) hx'.out)
      rw [← hL1.out] at HJ
      clear b5 PX4 PY4 B4 HA
      go_wp2_with fail
      refine HJ.out.mono ?_
      rintro e w6 ⟨a6, m6, c6, rfl, O6, b6⟩
      have PY6 := PY5.below b6
      have B6 := B5.trans (b6.mono B5.size)
      have HJ2 := Lib.hid (join_c a2 n2 c2 ys w6 PY6 (by omega) hy'.out)
      rw [← hL2.out] at HJ2
      clear b6 PX5 PY5 B5 HJ
      go_wp2_with fail
      refine HJ2.out.mono ?_
      rintro e w7 ⟨a7, m7, c7, rfl, O7, b7⟩
      have B7 := B6.trans (b7.mono B6.size)
      have HE := Lib.hid (eq_c a6 m6 c6 L1 a7 m7 c7 L2 w7 (O6.lst.below b7) O7.lst)
      rw [hdec.out] at HE
      clear b7 PY6 B6 HJ2 O6 O7
      go_wp2_with fail
      refine HE.out.mono ?_
      rintro e w8 ⟨rfl, b8⟩
      have B8 := B7.trans (b8.mono B7.size)
      clear b8 B7 HE
      go_wp2_with fail
      go_ret
      exact ⟨rfl, B8⟩
    | true =>
      by_cases hlt : i < n1
      · have hlti : (i : Int) < (n1 : Int) := by omega
        have hl2 : i < n2 := by have := (of_decide_eq_true hG).1; rw [hxl.out, hyl.out] at this; omega
        have hnx0 := samT_next hG (by rw [hxl.out]; exact hlt)
        obtain ⟨b, hb⟩ : ∃ b : Bool, Hid (decide (xs.getD i [] = ys.getD i []) = b) := ⟨_, rfl⟩
        have hnx : Hid (samT xs ys (i + 1) = b) := by show _ = _; rw [hnx0, hb.out]
        obtain ⟨p1, l1, d1, hc1, hLA, _⟩ := HPX.out.part i hlt
        obtain ⟨p2, l2, d2, hc2, hLB, _⟩ := HPY.out.part i hl2
        have hlo1 := World.block_lt_of_cell? w2 _ hc1
        have hlo2 := World.block_lt_of_cell? w2 _ hc2
        have hix1 := ix28 HPX.out i hlt
        have hix2 := ix28 HPY.out i hl2
        have HE : Hid (∀ w', Below w2.heap.size w2 w' → Calls Tryd.prog 13 #[.slice p1 l1 d1, .slice p2 l2 d2] w' fun e w'' => e = .returned (.bool b) ∧ Below w'.heap.size w' w'') := fun w' hb' => by
          have := eq_c p1 l1 d1 _ p2 l2 d2 _ w' (hLA.below hb') (hLB.below hb')
          rw [hb.out] at this
          exact this
        clear hG hnx0 hLA hLB
        go_upto_region 6 with (fail)
        refine wp_region_held_drew (S := fun w' => Below w2.heap.size w2 w') (by kernel_rfl) (below_drew2 HB.out) (fun hHeld => ?_)
        refine reg_take (i := 0) rfl (by kernel_rfl) (by kernel_rfl) (by kernel_rfl) (fun _ _ _ h => h) (by rfl) hHeld (v := ?v1) ?hy1 ?rest1
        case hy1 => (intro w' hSw; go_simp <;> try rfl)
        try simp only [Act.put, List.setIfInBounds_toArray, List.set_cons_zero, List.set_cons_succ]
        refine reg_take (i := 1) rfl (by kernel_rfl) (by kernel_rfl) (by kernel_rfl) (fun _ _ _ h => h) (by rfl) hHeld (v := ?v2) ?hy2 ?rest2
        case hy2 => (intro w' hSw; go_simp <;> try rfl)
        try simp only [Act.put, List.setIfInBounds_toArray, List.set_cons_zero, List.set_cons_succ]
        refine reg_take (i := 2) rfl (by kernel_rfl) (by kernel_rfl) (by kernel_rfl) (fun _ _ _ h => h) (by rfl) hHeld (v := ?v3) ?hy3 ?rest3
        case hy3 => (intro w' hSw; go_simp <;> try rfl)
        try simp only [Act.put, List.setIfInBounds_toArray, List.set_cons_zero, List.set_cons_succ]
        refine reg_take (i := 3) rfl (by kernel_rfl) (by kernel_rfl) (by kernel_rfl) (fun _ _ _ h => h) (by rfl) hHeld (v := ?v4) ?hy4 ?rest4
        case hy4 => (intro w' hSw; have hc := (hSw.cell hlo1).trans hc1; go_simp <;> try rfl)
        try simp only [Act.put, List.setIfInBounds_toArray, List.set_cons_zero, List.set_cons_succ]
        refine reg_take (i := 4) rfl (by kernel_rfl) (by kernel_rfl) (by kernel_rfl) (fun _ _ _ h => h) (by rfl) hHeld (v := ?v5) ?hy5 ?rest5
        case hy5 => (intro w' hSw; go_simp <;> try rfl)
        try simp only [Act.put, List.setIfInBounds_toArray, List.set_cons_zero, List.set_cons_succ]
        refine reg_take (i := 5) rfl (by kernel_rfl) (by kernel_rfl) (by kernel_rfl) (fun _ _ _ h => h) (by rfl) hHeld (v := ?v6) ?hy6 ?rest6
        case hy6 => (intro w' hSw; go_simp <;> try rfl)
        try simp only [Act.put, List.setIfInBounds_toArray, List.set_cons_zero, List.set_cons_succ]
        refine reg_take (i := 6) rfl (by kernel_rfl) (by kernel_rfl) (by kernel_rfl) (fun _ _ _ h => h) (by rfl) hHeld (v := ?v7) ?hy7 ?rest7
        case hy7 => (intro w' hSw; go_simp <;> try rfl)
        try simp only [Act.put, List.setIfInBounds_toArray, List.set_cons_zero, List.set_cons_succ]
        refine reg_take (i := 7) rfl (by kernel_rfl) (by kernel_rfl) (by kernel_rfl) (fun _ _ _ h => h) (by rfl) hHeld (v := ?v8) ?hy8 ?rest8
        case hy8 => (intro w' hSw; have hc := (hSw.cell hlo2).trans hc2; go_simp <;> try rfl)
        try simp only [Act.put, List.setIfInBounds_toArray, List.set_cons_zero, List.set_cons_succ]
        refine wpAnyH_ready (rs := [8]) (by kernel_rfl) (by simp) ?_
        refine reg_cons rfl (by rfl) (fun K hK => ?_) ?_
        · go_simp
          refine (HE.out _ hHeld).mono ?_
          rintro e v9 ⟨rfl, b9⟩
          refine hK.out _ _ (hHeld.trans (b9.mono hHeld.size)) (fun hHeld => ?_)
          clear hK K
          try simp only [Act.put, List.setIfInBounds_toArray, List.set_cons_zero, List.set_cons_succ]
          refine reg_take (i := 9) rfl (by kernel_rfl) (by kernel_rfl) (by kernel_rfl) (fun _ _ _ h => h) (by rfl) hHeld (v := ?v9) ?hy9 ?rest9
          case hy9 => (intro w' hSw; go_simp <;> try rfl)
          try simp only [Act.put, List.setIfInBounds_toArray, List.set_cons_zero, List.set_cons_succ]
          refine wpAnyH_done (by kernel_rfl) ?_ _
          go_wp2
          go_roundw
          case rel => exact ⟨i + 1, by omega, by go_num, by rw [hnx.out], hHeld⟩
          case measure => simp [intOf]; omega
        exact AllReadyH.nil
      · obtain rfl : i = n1 := by omega
        have hdec : Hid (decide (L1 = L2) = true) := by
          have he : xs = ys := samT_true (by rw [hxl.out]; exact hG)
          exact decide_eq_true (by rw [hL1.out, hL2.out, he])
        clear hG
        have PX4 := HPX.out.below HB.out
        have PY4 := HPY.out.below HB.out
        have B4 := B2.out.trans (HB.out.mono B2.out.size)
        have HA := Lib.hid (awake_c wr (hK.below B4))
        clear HB
        go_wp2_with fail
        refine HA.out.mono ?_
        rintro e w5 ⟨rfl, b5⟩
        have PX5 := PX4.below b5
        have PY5 := PY4.below b5
        have B5 := B4.trans (b5.mono B4.size)
        have HJ := Lib.hid (join_c a1 _ c1 xs w5 PX5 (by omega) hx'.out)
        rw [← hL1.out] at HJ
        clear b5 PX4 PY4 B4 HA
        go_wp2_with fail
        refine HJ.out.mono ?_
        rintro e w6 ⟨a6, m6, c6, rfl, O6, b6⟩
        have PY6 := PY5.below b6
        have B6 := B5.trans (b6.mono B5.size)
        have HJ2 := Lib.hid (join_c a2 n2 c2 ys w6 PY6 (by omega) hy'.out)
        rw [← hL2.out] at HJ2
        clear b6 PX5 PY5 B5 HJ
        go_wp2_with fail
        refine HJ2.out.mono ?_
        rintro e w7 ⟨a7, m7, c7, rfl, O7, b7⟩
        have B7 := B6.trans (b7.mono B6.size)
        have HE := Lib.hid (eq_c a6 m6 c6 L1 a7 m7 c7 L2 w7 (O6.lst.below b7) O7.lst)
        rw [hdec.out] at HE
        clear b7 PY6 B6 HJ2 O6 O7
        go_wp2_with fail
        refine HE.out.mono ?_
        rintro e w8 ⟨rfl, b8⟩
        have B8 := B7.trans (b8.mono B7.size)
        clear b8 B7 HE
        go_wp2_with fail
        go_ret
        exact ⟨rfl, B8⟩
end Go.Proofs.YtfmpccfoemgiiaaDoor

