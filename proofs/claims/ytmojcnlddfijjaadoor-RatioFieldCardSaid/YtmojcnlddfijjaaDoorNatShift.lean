/-
  nat.shiftLeft, nat.shiftRight.
-/
import Derived.Test.YtmojcnlddfijjaaDoorNatCut
import Derived.Test.YtmojcnlddfijjaaDoorNatMath
namespace Go.Proofs.YtmojcnlddfijjaaDoor
open Go.RowKit NatMath

set_option maxHeartbeats 3200000 in
set_option maxRecDepth 100000 in
theorem shiftLeft_c (ao : Option Addr) (n c s : Nat) (xs : List Int) (w : World) (h : Lst .u32 w ao n c xs) (hn : n ≤ 1073741824) (hs : s < 32) :
    Calls Tryd.prog 103 #[.slice ao n c, .int .i64 s] w fun e w' => ∃ D, e = .returned (.slice (some ⟨w.heap.size, 0, none⟩) (n + 1) (n + 1)) ∧ Own 77 .u32 w.heap.size w' (some ⟨w.heap.size, 0, none⟩) (n + 1) (n + 1) D ∧ val D = val xs * 2 ^ s ∧ Below w.heap.size w w' := by
  obtain ⟨i0, hi, hz0, hz1, hz2⟩ := info_parts info60
  have hlen := Lib.hid h.len
  have hok := Lib.hid h.ok
  have hlow := Lib.hid h.block
  have hr := h.room
  have hc := h.cap
  have hs0 : decide ((s : Int) < 0) = false := by simp
  go_enter Tryd.func103, Tryd.ntmps103
  go_wp2_with (at_make; refine wpList_make_full _ rfl _ _ 23 rfl w.heap.size 77 i0 (.int .u32 0) 1 Tryd.underlying23 hi hz0 hz1 _ _ _ _ (n + 1) rfl rfl (by omega) (by omega) ?b2 ?b3 (Nat.le_refl _) ?_)
  case b2 => rw [hz2]; omega
  case b3 => unfold maxLen; omega
  intro w1 hown hgr
  have b1 : Below w.heap.size w w1 := below_grown_none (Below.refl _ _) hgr (Nat.le_refl _)
  have o1 : Own 77 .u32 w.heap.size w1 (some ⟨w.heap.size, 0, none⟩) (n + 1) (n + 1) (List.replicate (xs.length + 1) 0) := by
    rw [hlen.out]
    exact Own.made (wf_u32 (by omega) (by omega)) hown
  have hst := ShlInv.start xs s
  have ha := h.below b1
  clear hown hgr h
  go_wp2_with fail
  go_loopw [15] (fun i wr => ∃ (t : Nat) (D : List Int), t ≤ n ∧ i = .int .i64 t ∧ ShlInv xs D s t ∧ Own 77 .u32 w.heap.size wr (some ⟨w.heap.size, 0, none⟩) (n + 1) (n + 1) D ∧ Lst .u32 wr ao n c xs ∧ Below w.heap.size w wr)
    (fun i _ => n - (intOf i).toNat)
  case atStart => exact ⟨0, _, Nat.zero_le _, rfl, hst, o1, ha, b1⟩
  case round =>
    obtain ⟨t, D, ht, rfl, hinv, ho, ha, hb⟩ := hrel
    clear hst o1 b1
    by_cases hlt : t < n
    · have hia := ix ha t hlt
      obtain ⟨x, HX, hx0, hx1, hcx⟩ := ha.at t hlt
      obtain ⟨X, rfl⟩ := Int.eq_ofNat_of_zero_le hx0
      have hip := ix ho.lst t (by omega)
      obtain ⟨y, HY, hy0, hy1, hcy⟩ := ho.lst.at t (by omega)
      obtain ⟨Y, rfl⟩ := Int.eq_ofNat_of_zero_le hy0
      have hip2 := ix ho.lst (t + 1) (by omega)
      rw [show ((t + 1 : Nat) : Int) = (t : Int) + 1 from by omega] at hip2
      have hfz := ho.frozen (i := t) (by omega)
      have hbd := shl_bound (show X ≤ 4294967295 by omega) hs
      have eW : ((X * 2 ^ s : Nat) : Int) = (X : Int) * 2 ^ s := by simp
      have hq0 : (0 : Int) ≤ (X : Int) * 2 ^ s := by rw [← eW]; omega
      have hq1 : (X : Int) * 2 ^ s ≤ 9223372036854775807 := by rw [← eW]; omega
      have e1 : ((Y ||| X * 2 ^ s % 4294967296 : Nat) : Int) = bits .or .u32 (Y : Int) ((X : Int) * 2 ^ s % 4294967296) := by
        rw [← eW, show ((X * 2 ^ s : Nat) : Int) % 4294967296 = ((X * 2 ^ s % 4294967296 : Nat) : Int) by omega]
        exact (u32_or_nat Y (X * 2 ^ s % 4294967296) (by omega) (by omega)).symm
      have e2 : ((X * 2 ^ s / 4294967296 : Nat) : Int) = (X : Int) * 2 ^ s / 4294967296 := by rw [← eW]; omega
      have hst := hinv.step hs (by rw [hlen.out]; exact hlt) hok.out HX.out HY.out
      have hk1 := hst.ok.getD (t + 1)
      have hk0 := hst.ok.getD t
      have hlD := hinv.len
      rw [NatMath.getD_set_self (by rw [List.length_set, hlD, hlen.out]; omega)] at hk1
      rw [NatMath.getD_set_ne (by omega), NatMath.getD_set_self (by rw [hlD, hlen.out]; omega)] at hk0
      rw [e1, e2] at hst
      rw [e1] at hk0
      rw [e2] at hk1
      have hw1 : (Lit.int .u32 (bits .or .u32 (Y : Int) ((X : Int) * 2 ^ s % 4294967296))).wf = true := wf_u32 hk0.1 hk0.2
      have hw2 : (Lit.int .u32 ((X : Int) * 2 ^ s / 4294967296)).wf = true := wf_u32 hk1.1 hk1.2
      have q1 := ho.set (i := t) (by omega) hw1
      have q2 := q1.set (i := t + 1) (by omega) hw2
      have hfz2 := q1.frozen (i := t + 1) (by omega)
      obtain ⟨z, _, _, _, hcz⟩ := q1.lst.at (t + 1) (by omega)
      have hB1 := ho.base (i := t) (by omega)
      have hB2 := ho.base (i := t + 1) (by omega)
      have g1 := ha.stored hlow.out hB1 (.int .u32 (bits .or .u32 (Y : Int) ((X : Int) * 2 ^ s % 4294967296)))
      have g2 := g1.stored hlow.out hB2 (.int .u32 ((X : Int) * 2 ^ s / 4294967296))
      have f2 := (hb.setCell hB1 (.int .u32 (bits .or .u32 (Y : Int) ((X : Int) * 2 ^ s % 4294967296)))).setCell hB2 (.int .u32 ((X : Int) * 2 ^ s / 4294967296))
      have R1 := Lib.hid hst; have R2 := Lib.hid q2; have R3 := Lib.hid g2; have R4 := Lib.hid f2
      clear e1 e2 hst hk1 hk0 hlD hw1 hw2 q1 q2 hB1 hB2 g1 g2 f2 hinv ho ha hb eW
      go_wp2_with fail
      go_roundw
      case rel => exact ⟨t + 1, _, by omega, by go_num, R1.out, R2.out, R3.out, R4.out⟩
      case measure => simp [intOf]; omega
    · obtain rfl : t = n := by omega
      rw [← hlen.out] at hinv
      have hv := Lib.hid hinv.done
      clear hinv
      go_wp2_with fail
      go_ret
      exact ⟨D, rfl, ho, hv.out, hb⟩

set_option maxHeartbeats 3200000 in
set_option maxRecDepth 100000 in
theorem shiftRight_c (ao : Option Addr) (n c s : Nat) (xs : List Int) (w : World) (h : Lst .u32 w ao n c xs) (hn : n ≤ 1073741824) (hs : s < 32) :
    Calls Tryd.prog 105 #[.slice ao n c, .int .i64 s] w fun e w' => ∃ ao' n' c', n' ≤ n ∧ e = .returned (.slice ao' n' c') ∧ Own 77 .u32 w.heap.size w' ao' n' c' (limbs (val xs / 2 ^ s)) ∧ Below w.heap.size w w' := by
  obtain ⟨i0, hi, hz0, hz1, hz2⟩ := info_parts info60
  have hlen := Lib.hid h.len
  have hok := Lib.hid h.ok
  have hlow := Lib.hid h.block
  have hr := h.room
  have hc := h.cap
  have hs0 : decide ((s : Int) < 0) = false := by simp
  go_enter Tryd.func105, Tryd.ntmps105
  go_wp2_with (at_make; refine wpList_make_full _ rfl _ _ 23 rfl w.heap.size 77 i0 (.int .u32 0) 1 Tryd.underlying23 hi hz0 hz1 _ _ _ _ n rfl rfl (by omega) (by omega) ?b2 ?b3 (Nat.le_refl _) ?_)
  case b2 => rw [hz2]; omega
  case b3 => unfold maxLen; omega
  intro w1 hown hgr
  have b1 : Below w.heap.size w w1 := below_grown_none (Below.refl _ _) hgr (Nat.le_refl _)
  have o1 : Own 77 .u32 w.heap.size w1 (some ⟨w.heap.size, 0, none⟩) n n (List.replicate xs.length 0) := by
    rw [hlen.out]
    exact Own.made (wf_u32 (by omega) (by omega)) hown
  have hst := ShrInv.start xs s
  rw [hlen.out] at hst
  have ha := h.below b1
  have hlen' := hlen
  rw [hlen.out] at o1
  clear hown hgr h
  go_wp2_with fail
  go_loopw [6, 7] (fun ab i wr => ∃ (j A : Nat) (D : List Int), j ≤ n ∧ i = .int .i64 ((j : Int) - 1) ∧ ab = .int .u32 A ∧ A ≤ 4294967295 ∧ ShrInv xs D s A j ∧ Own 77 .u32 w.heap.size wr (some ⟨w.heap.size, 0, none⟩) n n D ∧ Lst .u32 wr ao n c xs ∧ Below w.heap.size w wr)
    (fun _ i _ => (intOf i + 1).toNat)
  case atStart => exact ⟨n, 0, _, Nat.le_refl _, rfl, rfl, by omega, hst, o1, ha, b1⟩
  case round =>
    obtain ⟨j, A, D, hj, rfl, rfl, hA, hinv, ho, ha, hb⟩ := hrel
    clear hst o1 b1
    by_cases hlt : 0 < j
    · obtain ⟨t, rfl⟩ : ∃ t, j = t + 1 := ⟨j - 1, by omega⟩
      have hia := ix ha t (by omega)
      obtain ⟨x, HX, hx0, hx1, hcx⟩ := ha.at t (by omega)
      obtain ⟨X, rfl⟩ := Int.eq_ofNat_of_zero_le hx0
      have hip := ix ho.lst t (by omega)
      obtain ⟨y, _, _, _, hcy⟩ := ho.lst.at t (by omega)
      have hfz := ho.frozen (i := t) (by omega)
      have e0 : ((t + 1 : Nat) : Int) - 1 = (t : Int) := by omega
      have eo := or_u64 (A : Int) (X : Int) (by omega) (by omega) hx0 hx1
      have e1 : (((A * 4294967296 + X) / 2 ^ s % 4294967296 : Nat) : Int) = ((A : Int) * 4294967296 + (X : Int)) / 2 ^ s % 4294967296 := by simp
      have hst := hinv.step hs (by rw [hlen.out]; omega) hok.out HX.out
      rw [e1] at hst
      have hk := Nat.mod_lt ((A * 4294967296 + X) / 2 ^ s) (show 0 < 4294967296 by omega)
      have hw1 : (Lit.int .u32 (((A : Int) * 4294967296 + (X : Int)) / 2 ^ s % 4294967296)).wf = true := wf_u32 (by omega) (by omega)
      have hB1 := ho.base (i := t) (by omega)
      have q1 := ho.set (i := t) (by omega) hw1
      have g1 := ha.stored hlow.out hB1 (.int .u32 (((A : Int) * 4294967296 + (X : Int)) / 2 ^ s % 4294967296))
      have f1 := hb.setCell hB1 (.int .u32 (((A : Int) * 4294967296 + (X : Int)) / 2 ^ s % 4294967296))
      have R1 := Lib.hid hst; have R2 := Lib.hid q1; have R3 := Lib.hid g1; have R4 := Lib.hid f1
      rw [e0]
      clear e1 hst hk hw1 q1 hB1 g1 f1 hinv ho ha hb e0
      go_wp2_with fail
      go_region_law (fail)
      all_goals
        go_wp2_with fail
        go_roundw
        case rel => exact ⟨t, X, _, by omega, rfl, rfl, by omega, R1.out, R2.out.drewN 1, R3.out.drewN 1, R4.out.drew⟩
        case measure => simp [intOf] <;> omega
    · obtain rfl : j = 0 := by omega
      have hv := Lib.hid hinv.done
      clear hinv
      go_wp2_with fail
      refine (trim_c _ _ _ D _ ho.lst).mono ?_
      rintro e w' ⟨rfl, a2, n2, c2, rfl, k2, kh2⟩
      go_wp2_with fail
      go_ret
      have hlen2 := k2.len
      have hle2 := limbs_val_length ho.lst.ok
      rw [hlen2, ho.len] at hle2
      refine ⟨a2, n2, c2, hle2, rfl, ?_, hb⟩
      rw [← hv.out, limbs_take ho.lst.ok, hlen2]
      exact ho.head kh2 hle2
end Go.Proofs.YtmojcnlddfijjaaDoor
