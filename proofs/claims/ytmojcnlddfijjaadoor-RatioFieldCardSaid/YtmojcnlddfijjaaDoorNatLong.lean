/-
  nat.divideLong.
-/
import Derived.Test.YtmojcnlddfijjaaDoorNatDigit
import Derived.Test.YtmojcnlddfijjaaDoorNatBitLen
import Derived.Deep.RegionHeld3
import Derived.Deep.RegionLaw
namespace Go.Proofs.YtmojcnlddfijjaaDoor
open Go.RowKit NatMath

/-- The shift that sets the top bit of a number of t + 2 limbs. -/
theorem shift_facts {V t : Nat} (hl : (limbs V).length = t + 2) : ∃ s : Nat, s < 32 ∧ (s : Int) = 32 - (Lib.bitLen ((limbs V).getD (t + 1) 0).toNat : Int) ∧ 2147483648 * 4294967296 ^ (t + 1) ≤ V * 2 ^ s ∧ V * 2 ^ s < 4294967296 ^ (t + 2) := by
  have hok := limbs_ok V
  obtain ⟨x, hx⟩ := getD_nat hok (t + 1)
  have hb := hok.getD (t + 1)
  rw [← hx] at hb
  rw [← hx, Int.toNat_natCast]
  have hx0 : x ≠ 0 := by
    intro h0
    have hn := limbs_nf V
    apply hn
    rw [List.getLast?_eq_getElem?, hl, show t + 2 - 1 = t + 1 by omega, List.getElem?_eq_getElem (by omega)]
    have : (limbs V)[t + 1] = (limbs V).getD (t + 1) 0 := by simp [List.getD, show t + 1 < (limbs V).length by omega]
    rw [this, ← hx, h0]
    rfl
  obtain ⟨h1, h2, h3⟩ := Lib.bitLenAux_bounds 64 x (by omega) hx0
  obtain ⟨k, hk⟩ : ∃ k, Lib.bitLenAux 64 x = k + 1 := ⟨Lib.bitLenAux 64 x - 1, by omega⟩
  have e : Lib.bitLen x = k + 1 := hk
  rw [hk] at h2 h3
  rw [Nat.add_sub_cancel] at h2
  have hk32 : k < 32 := by
    rcases Nat.lt_or_ge k 32 with h | h
    · exact h
    · have : 2 ^ 32 ≤ 2 ^ k := Nat.pow_le_pow_right (by omega) h
      omega
  have hs := NatMath.bitLen_shift h2 h3 hk32
  refine ⟨31 - k, by omega, by rw [e]; omega, ?_⟩
  exact top_shift (m := t + 1) hl hx hs.1 hs.2.1 hs.2.2

set_option maxHeartbeats 6400000 in
set_option maxRecDepth 100000 in
theorem divideLong_c (ao bo : Option Addr) (n c t d A V : Nat) (w : World) (h : Lst .u32 w ao n c (limbs A)) (k : Lst .u32 w bo (t + 2) d (limbs V)) (hn : n ≤ 1073741820) (hle : V ≤ A) :
    Calls Tryd.prog 85 #[.slice ao n c, .slice bo (t + 2) d] w fun e w' => ∃ ao' n' c' bo' m' d', e = .returned (.tuple #[.slice ao' n' c', .slice bo' m' d']) ∧ n' ≤ n ∧ m' ≤ t + 2 ∧ Own 77 .u32 w.heap.size w' ao' n' c' (limbs (A / V)) ∧ Own 77 .u32 w.heap.size w' bo' m' d' (limbs (A % V)) ∧ Below w.heap.size w w' := by
  obtain ⟨i0, hi, hz0, hz1, hz2⟩ := info_parts info60
  have hlA := h.len
  have hlV := k.len
  have htn : t + 2 ≤ n := by rw [← hlA, ← hlV]; exact limbs_len_mono hle
  obtain ⟨s, hs, hse, hV0, hV1⟩ := shift_facts hlV
  have hr := k.room
  have hc := k.cap
  have hr2 := h.room
  have hc2 := h.cap
  have hib := ixs k (show t + 1 < t + 2 by omega) (show (t : Int) + 2 - 1 = ((t + 1 : Nat) : Int) by omega)
  obtain ⟨x, HX, hx0, hx1, hcx⟩ := k.at (t + 1) (by omega)
  rw [← HX.out] at hse
  have HL := Lib.hid (Tryd.bits_LeadingZeros32 x w hx0 hx1)
  rw [← hse] at HL
  have HV0 := Lib.hid hV0; have HV1 := Lib.hid hV1
  have HLA := Lib.hid hlA; have HLV := Lib.hid hlV; have HLE := Lib.hid hle
  clear hV0 hV1 hlA hlV hse hle
  go_enter Tryd.func85, Tryd.ntmps85
  go_wp2_with fail
  refine HL.out.mono ?_
  rintro e w' ⟨rfl, rfl⟩
  go_wp2_with fail
  have H1 := Lib.hid (h.drewN 1)
  have K1 := Lib.hid (k.drewN 1)
  clear h k hcx hib
  have hsl : (0 : Int) ≤ (t : Int) + 2 ∧ (t : Int) + 2 ≤ (t : Int) + 2 + 1 := by omega
  go_region_held3 (fun _ => True) (trivial) (first
    | (go_at_call_of 103 (Value.slice ao n c); refine (shiftLeft_c _ _ _ s _ _ H1.out (by omega) hs).mono ?_; rintro e w1 ⟨D0, rfl, o1, hv1, b1⟩)
    | (go_at_call 103; refine (shiftLeft_c _ _ _ s _ _ (K1.out.below b1) (by omega) hs).mono ?_; rintro e w2 ⟨M0, rfl, o2, hv2, b2⟩))
  have o1' : Own 77 .u32 w'.heap.size w1 (some ⟨w'.heap.size, 0, none⟩) (n + 1) (n + 1) D0 := o1
  have b1' : Below w'.heap.size w' w1 := ⟨b1.os, b1.tape, b1.output, b1.size, b1.block⟩
  rw [val_limbs] at hv1 hv2
  have g01 := o1'.blkLt.2
  have g12 := o2.blkLt.2
  have o1w := o1'.kept (b2.mono (Nat.le_refl _))
  have b2' : Below w'.heap.size w' w2 := b1'.trans (b2.mono (by omega))
  have hMl := Lib.hid o2.len
  have lM : Lst .u32 w2 (some ⟨w1.heap.size, 0, none⟩) (t + 2) (t + 2 + 1) (M0.take (t + 2)) := o2.lst.take (by omega)
  have hvM : val (M0.take (t + 2)) = V * 2 ^ s := by
    rw [← hv2]
    exact (val_take_lt (by rw [hMl.out]; omega) (by rw [hv2]; exact HV1.out)).1
  obtain ⟨M, hM⟩ : ∃ M, Hid (M = M0.take (t + 2)) := ⟨_, rfl⟩
  rw [← hM.out] at lM hvM
  have HVM := Lib.hid hvM
  obtain ⟨N, hN⟩ : ∃ N, N = n - t - 1 := ⟨_, rfl⟩
  have hNi : (n : Int) + 1 - ((t : Int) + 2) = (N : Int) := by omega
  have hNb : N ≤ n := by omega
  have HD0 := Lib.hid hv1
  have HNN := Lib.hid hN
  have HN1 : Hid (N + t + 1 = n) := by show N + t + 1 = n; omega
  clear o1 b1 hv1 hv2 hvM o2 o1' b1' b2 hN
  go_wp2_with (at_make; refine wpList_make_full _ rfl _ _ 23 rfl w'.heap.size 77 i0 (.int .u32 0) 1 Tryd.underlying23 hi hz0 hz1 _ _ _ _ N rfl rfl (by omega) (by omega) ?b2 ?b3 (by omega) ?_)
  case b2 => rw [hz2]; omega
  case b3 => unfold maxLen; omega
  intro w3 hown hgr
  have o3 : Own 77 .u32 w'.heap.size w3 (some ⟨w2.heap.size, 0, none⟩) N N (List.replicate N 0) := Own.made (wf_u32 (by omega) (by omega)) hown
  have b3 : Below w'.heap.size w' w3 := b2'.grown hgr (by omega) (fun k hk => by cases hk)
  have oD := o1w.grown hgr (fun a ha => by simp)
  have lM3 := lM.grown hgr (fun i hi => by simp)
  have hDl := Lib.hid oD.len
  have hst : LongInv (A * 2 ^ s) (V * 2 ^ s) D0 (List.replicate N 0) (n + 1 - (t + 2)) :=
    long_start oD.lst.ok oD.len HD0.out (by have := val_lt (limbs_ok A); rw [val_limbs, HLA.out] at this; exact this) hs (by omega) (by omega) (by simpa using HV0.out) _ (by rw [List.length_replicate]; omega) (Ok.zeros _)
  rw [show n + 1 - (t + 2) = N by omega] at hst
  have HG12 := Lib.hid g12
  have HG01 := Lib.hid g01
  clear hown hgr o1w b2' lM g12 g01
  go_wp2_with fail
  go_loopw [9] (fun i9 wr => ∃ (j : Nat) (D Q : List Int), j ≤ N ∧ i9 = .int .i64 ((j : Int) - 1) ∧ LongInv (A * 2 ^ s) (V * 2 ^ s) D Q j ∧ Own 77 .u32 w'.heap.size wr (some ⟨w'.heap.size, 0, none⟩) (n + 1) (n + 1) D ∧ Own 77 .u32 w'.heap.size wr (some ⟨w2.heap.size, 0, none⟩) N N Q ∧ Lst .u32 wr (some ⟨w1.heap.size, 0, none⟩) (t + 2) (t + 2 + 1) M ∧ Below w'.heap.size w' wr)
    (fun i _ => (intOf i + 1).toNat)
  case atStart => exact ⟨N, D0, _, Nat.le_refl _, rfl, hst, oD, o3, lM3, b3⟩
  case round =>
    obtain ⟨j, D, Q, hj, rfl, hinv, oD', oQ, lM', bb⟩ := hrel
    clear hst oD o3 lM3 b3
    by_cases hlt : 0 < j
    · obtain ⟨u, rfl⟩ : ∃ u, j = u + 1 := ⟨j - 1, by omega⟩
      have hDl' := oD'.len
      have hQl := oQ.len
      obtain ⟨P, hP⟩ : ∃ P, P = D.take u := ⟨_, rfl⟩
      obtain ⟨S, hS⟩ : ∃ S, S = (D.drop u).take (t + 3) := ⟨_, rfl⟩
      obtain ⟨T, hT⟩ : ∃ T, T = (D.drop u).drop (t + 3) := ⟨_, rfl⟩
      have hD : D = P ++ S ++ T := by rw [hP, hS, hT, List.append_assoc, List.take_append_drop, List.take_append_drop]
      have hPl : P.length = u := by rw [hP, List.length_take]; omega
      have hN1 := HN1.out
      have hSl : S.length = t + 3 := by rw [hS, List.length_take, List.length_drop]; omega
      have hST : D.drop u = S ++ T := by rw [hS, hT, List.take_append_drop]
      rw [hD, List.append_assoc] at hinv
      have hbd := hinv.bound hPl
      have okST : Ok (S ++ T) := fun y hy => hinv.okD y (List.mem_append.2 (Or.inr hy))
      have hV1 := HV1.out
      have hsplit := val_take_lt (D := S ++ T) (m := t + 3) (by rw [List.length_append]; omega) (by rw [show t + 3 = (t + 2) + 1 by omega, Nat.pow_succ]; omega)
      rw [List.take_left' hSl, List.drop_left' hSl] at hsplit
      have oD2 := oD'
      rw [hD] at oD2
      have e0 : ((u + 1 : Nat) : Int) - 1 = (u : Int) := by omega
      have hsl1 : (0 : Int) ≤ (u : Int) ∧ (u : Int) ≤ (u : Int) + ((t : Int) + 2) + 1 ∧ (u : Int) + ((t : Int) + 2) + 1 ≤ (n : Int) + 1 := by omega
      have hun : u + t + 3 ≤ n + 1 := by omega
      have HQL := Lib.hid hQl
      rw [e0]
      clear e0
      go_wp2_with fail
      rw [show ((u : Int) + max ((t : Int) + 2) 0 + 1).toNat - u = t + 3 by omega]
      have hcall := divideStep_c w'.heap.size w'.heap.size w1.heap.size (n + 1) (n + 1) u (n + 1 - u) t (t + 2 + 1) P S T M wr oD2 hPl hSl (by omega) (by omega) lM' (by have := HG01.out; omega) (by omega) (by rw [HVM.out]; exact HV0.out) (by rw [HVM.out, hsplit.1]; exact hbd)
      rw [HVM.out] at hcall
      have HC := Lib.hid hcall
      clear hcall
      refine HC.out.mono ?_
      rintro e w4 ⟨S', rfl, hdig, o4, hl4, hv4, gr4⟩
      have okS' : Ok (S' ++ T) := by
        have := o4.lst.ok
        rw [List.append_assoc] at this
        exact fun y hy => this y (List.mem_append.2 (Or.inr hy))
      have hvST : val (S' ++ T) = val (S ++ T) % (V * 2 ^ s) := by
        rw [val_append, hsplit.2, Nat.mul_zero, Nat.add_zero, hv4, hsplit.1]
      have hV0' : 0 < V * 2 ^ s := by
        rcases Nat.eq_zero_or_pos (V * 2 ^ s) with h | h
        · rw [h] at hbd; omega
        · exact h
      obtain ⟨q, hq⟩ : ∃ q, q = val S / (V * 2 ^ s) := ⟨_, rfl⟩
      rw [← hq] at hdig
      have hstep := hinv.step hPl (by rw [HQL.out]; omega) hV0' okS' hvST (d := q) (by rw [hq, hsplit.1]) hdig
      rw [← List.append_assoc] at hstep
      have oQ4 := oQ.grown gr4 (fun a ha => by cases ha; have := HG12.out; have := HG01.out; simp; omega)
      have lM4 := lM'.grown gr4 (fun i hi => by rw [pt_at]; have := HG01.out; simp; omega)
      have bb4 := bb.grown gr4 bb.size (fun k hk => by cases hk; exact Nat.le_refl _)
      have hia := ix oQ4.lst u (by omega)
      obtain ⟨z, _, _, _, hcz⟩ := oQ4.lst.at u (by omega)
      have hfz := oQ4.frozen (i := u) (by omega)
      have hwf : (Lit.int .u32 (q : Int)).wf = true := wf_u32 (by omega) (by omega)
      have r1 := oQ4.set (i := u) (by omega) hwf
      have hQb := oQ4.setOnly (i := u) (by omega) (.int .u32 (q : Int))
      have r2 := o4.grown hQb (fun a ha => by cases ha; have := HG12.out; have := HG01.out; simp [Value.ownBlock]; omega)
      have r3 := lM4.grown hQb (fun i hi => by rw [pt_at]; have := HG12.out; simp [Value.ownBlock]; omega)
      have r4 := bb4.setCell (oQ4.base (i := u) (by omega)) (.int .u32 (q : Int))
      rw [pt_own] at hia hcz hfz r1 r2 r3 r4
      have R0 := Lib.hid hstep; have R1 := Lib.hid r1; have R2 := Lib.hid r2; have R3 := Lib.hid r3; have R4 := Lib.hid r4
      rw [← hq]
      clear hstep r1 r2 r3 r4 hQb hwf bb4 lM4 oQ4 hvST okS' hv4 hl4 o4 hinv oD' oD2 oQ lM' bb hbd okST hV1 hsplit hD hST hP hS hT HC hq
      go_wp2_with fail
      go_roundw
      case rel => exact ⟨u, _, _, by omega, rfl, R0.out, R2.out, R1.out, R3.out, R4.out⟩
      case measure => simp [intOf] <;> omega
    · obtain rfl : j = 0 := by omega
      have hdone := hinv.done
      have hDl' := oD'.len
      have hmx : max ((t : Int) + 2) 0 = (t : Int) + 2 := by omega
      have hsl2 : (0 : Int) ≤ (t : Int) + 2 ∧ (t : Int) + 2 ≤ (n : Int) + 1 := by omega
      have hDt := val_take_lt (D := D) (m := t + 2) (by omega) (by rw [hdone.2]; exact Nat.lt_trans (Nat.mod_lt _ (by have := hinv.lt; omega)) HV1.out)
      have hs2 : 0 < 2 ^ s := Nat.pow_pos (by omega)
      rw [hdone.2, Nat.mul_mod_mul_right] at hDt
      have hq := hdone.1
      rw [Nat.mul_div_mul_right _ _ hs2] at hq
      have hrv : val (D.take (t + 2)) / 2 ^ s = A % V := by rw [hDt.1, Nat.mul_div_cancel _ hs2]
      have OQ := Lib.hid (oQ.drewN 1)
      have LR := Lib.hid ((oD'.drewN 1).lst.take (show t + 2 ≤ n + 1 by omega))
      have BB := Lib.hid (below_drewN bb 1)
      have HQ := Lib.hid hq; have HR := Lib.hid hrv
      clear hdone hDt hq hrv hinv oD' oQ lM' bb
      go_wp2_with fail
      go_region_held3 (fun _ => True) (trivial) (first
        | (go_at_call 60; refine (trim_c _ _ _ Q _ OQ.out.lst).mono ?_; rintro e w' ⟨rfl, a2, n2, c2, rfl, k2, kh2⟩)
        | (go_at_call 105; refine (shiftRight_c _ _ _ s _ _ LR.out (by omega) hs).mono ?_; rintro e w5 ⟨a5, n5, c5, hn5, rfl, o5, b5⟩))
      go_wp2_with fail
      go_ret2
      have hlen2 := k2.len
      have hle2 := limbs_val_length OQ.out.lst.ok
      rw [hlen2, OQ.out.len] at hle2
      have oq : Own 77 .u32 w'.heap.size (wr.drewN 1) a2 n2 c2 (Q.take n2) := OQ.out.head kh2 hle2
      rw [← hlen2, ← limbs_take OQ.out.lst.ok, HQ.out] at oq
      rw [HR.out] at o5
      have hsz := BB.out.size
      refine ⟨a2, n2, c2, a5, n5, c5, rfl, by omega, hn5, ?_, ?_, BB.out.trans (b5.mono hsz)⟩
      · rw [← hlen2, HQ.out]
        exact oq.kept b5
      · exact ⟨⟨o5.1.1, by
          rcases o5.1.2 with h | ⟨q, cap, cur, h1, h2, h3⟩
          · exact Or.inl h
          · exact Or.inr ⟨q, cap, cur, h1, Nat.le_trans hsz h2, h3⟩⟩, o5.2⟩
end Go.Proofs.YtmojcnlddfijjaaDoor
