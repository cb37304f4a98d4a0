/-
  electionref01.To, electionlaw01.is.
-/
import Derived.Test.YtmojcnlddfijjaaGreatDoorNatRef
namespace Go.Proofs.YtmojcnlddfijjaaGreatDoor
open Go.RowKit NatMath

/-- Behind i bits. -/
structure ToInv (bs : List Bool) (D : List Int) (N i : Nat) : Prop where
  eq : val D = bval (bs.take i)
  len : D.length = N
  ok : Ok D

theorem ToInv.start (bs : List Bool) (N : Nat) : ToInv bs (List.replicate N 0) N 0 := ⟨by simp [val_zeros, bval], by simp, Ok.zeros N⟩

theorem ToInv.small {bs : List Bool} {D : List Int} {N i : Nat} (h : ToInv bs D N i) : (D.getD (i / 32) 0).toNat < 2 ^ (i % 32) := by
  rw [getD_val h.ok]
  have hb := bval_lt (bs.take i)
  rw [← h.eq] at hb
  have h1 : (bs.take i).length ≤ i := List.length_take_le _ _
  have h2 : val D < 2 ^ i := Nat.lt_of_lt_of_le hb (Nat.pow_le_pow_right (by omega) h1)
  have h3 : val D / 4294967296 ^ (i / 32) < 2 ^ (i % 32) := by
    rw [Nat.div_lt_iff_lt_mul (Nat.pow_pos (by omega))]
    have e : 2 ^ (i % 32) * 4294967296 ^ (i / 32) = 2 ^ i := by
      rw [show (4294967296 : Nat) = 2 ^ 32 by decide, ← Nat.pow_mul, ← Nat.pow_add]
      congr 1
      omega
    rw [e]; exact h2
  exact Nat.lt_of_le_of_lt (Nat.mod_le _ _) h3

theorem ToInv.zero {bs : List Bool} {D : List Int} {N i : Nat} (h : ToInv bs D N i) (hb : bs.getD i false = false) : ToInv bs D N (i + 1) := ⟨by rw [bval_take_succ, hb, h.eq]; simp [b2n], h.len, h.ok⟩
theorem ToInv.one {bs : List Bool} {D : List Int} {N i : Nat} (h : ToInv bs D N i) (hi : i / 32 < N) (hb : bs.getD i false = true) {x : Nat} (hx : (x : Int) = D.getD (i / 32) 0) : ToInv bs (D.set (i / 32) ((x + 2 ^ (i % 32) : Nat) : Int)) N (i + 1) := by
  have hs := h.small
  rw [← hx, Int.toNat_natCast] at hs
  have hp : 2 ^ (i % 32) ≤ 2147483648 := by
    have : 2 ^ (i % 32) ≤ 2 ^ 31 := Nat.pow_le_pow_right (by omega) (by omega)
    exact this
  have hv := val_set D (i / 32) ((x + 2 ^ (i % 32) : Nat) : Int) (by rw [h.len]; exact hi)
  rw [← hx, Int.toNat_natCast, Int.toNat_natCast] at hv
  refine ⟨?_, by simpa using h.len, h.ok.set _ (by omega) (by omega)⟩
  rw [bval_take_succ, hb, ← h.eq]
  have e : 2 ^ (i % 32) * 4294967296 ^ (i / 32) = 2 ^ i := by
    rw [show (4294967296 : Nat) = 2 ^ 32 by decide, ← Nat.pow_mul, ← Nat.pow_add]
    congr 1
    omega
  rw [Nat.add_mul, e] at hv
  simp only [b2n, if_true, Nat.one_mul]
  omega
/-- The limbs of the bits of a number. -/
theorem ToInv.done {v : Nat} {D : List Int} (h : ToInv (bitsN v) D (((bitsN v).length + 31) / 32) (bitsN v).length) : D = limbs v := by
  have hv := h.eq
  rw [List.take_of_length_le (Nat.le_refl _), bval_bitsN] at hv
  rw [← hv]
  refine (limbs_of_length h.ok ?_).symm
  rw [h.len, hv]
  by_cases h0 : v = 0
  · subst h0; rw [bitsN_zero, limbs_zero]; simp
  · have hpos : 0 < (bitsN v).length := by rw [bitsN_pos h0]; simp
    have h1 : 2 ^ ((bitsN v).length - 1) ≤ v := by
      rcases Nat.lt_or_ge v (2 ^ ((bitsN v).length - 1)) with hlt | hge
      · have := bitsN_length v _ hlt
        omega
      · exact hge
    have h2 : 4294967296 ^ (((bitsN v).length + 31) / 32 - 1) ≤ v := by
      refine Nat.le_trans ?_ h1
      rw [show (4294967296 : Nat) = 2 ^ 32 by decide, ← Nat.pow_mul]
      exact Nat.pow_le_pow_right (by omega) (by omega)
    have := limbs_len_ge h2
    omega

theorem or_bit_eq {X s : Nat} (hs : s < 32) (hX : X < 2 ^ s) : bits .or .u32 (X : Int) (2 ^ s % 4294967296) = ((X + 2 ^ s : Nat) : Int) := by
  have hp : 2 ^ s ≤ 2 ^ 31 := Nat.pow_le_pow_right (by omega) (by omega)
  have hp2 : (2 : Nat) ^ 31 = 2147483648 := by decide
  have e : ((2 : Int) ^ s % 4294967296) = ((2 ^ s : Nat) : Int) := by
    have : ((2 : Int) ^ s) = ((2 ^ s : Nat) : Int) := by simp
    rw [this]
    omega
  rw [e, u32_or_nat X (2 ^ s) (by omega) (by omega), Nat.or_comm, nat_join s (2 ^ s) X (Nat.mod_self _) hX, Nat.add_comm]

set_option maxHeartbeats 3200000 in
set_option maxRecDepth 100000 in
theorem to_c (ao : Option Addr) (n c : Nat) (xs : List Bool) (w : World) (h : LstB w ao n c xs) (hn : n ≤ 1073741824) :
    Calls Tryz.prog 56 #[.slice ao n c] w fun e w' => ∃ ao' n' c', e = .returned (.slice ao' n' c') ∧ Own 66 .u32 w.heap.size w' ao' n' c' (limbs (bval xs)) ∧ Below w.heap.size w w' := by
  obtain ⟨i0, hi, hz0, hz1, hz2⟩ := info_parts info60
  obtain ⟨v, hv⟩ : ∃ v, Hid (v = bval xs) := ⟨_, rfl⟩
  have htr := trimT_c ao n c xs w h (by omega)
  have hbl := bitsN_val_length xs
  rw [h.len] at hbl
  rw [← hv.out] at htr hbl ⊢
  have HTR := Lib.hid htr
  clear htr h
  go_enter Tryz.func56, Tryz.ntmps56
  go_wp2_with fail
  refine HTR.out.mono ?_
  rintro e w1 ⟨a1, n1, c1, rfl, o1, b1⟩
  have hl1 := Lib.hid o1.len
  rw [hl1.out] at hbl
  have hr1 := o1.lst.room
  have hc1 := o1.lst.cap
  go_wp2_with (at_make; refine wpList_make_full _ rfl _ _ 23 rfl w1.heap.size 66 i0 (.int .u32 0) 1 Tryz.underlying23 hi hz0 hz1 _ _ _ _ ((n1 + 31) / 32) rfl rfl (by omega) (by omega) ?b2 ?b3 (Nat.le_refl _) ?_)
  case b2 => rw [hz2]; omega
  case b3 => unfold maxLen; omega
  intro w2 hown hgr
  have b2 : Below w1.heap.size w1 w2 := below_grown_none (Below.refl _ _) hgr (Nat.le_refl _)
  have o2 : Own 66 .u32 w1.heap.size w2 (some ⟨w1.heap.size, 0, none⟩) ((n1 + 31) / 32) ((n1 + 31) / 32) (List.replicate ((n1 + 31) / 32) 0) := Own.made (wf_u32 (by omega) (by omega)) hown
  obtain ⟨N, hN⟩ : ∃ N, Hid (N = (n1 + 31) / 32) := ⟨_, rfl⟩
  rw [← hN.out] at o2 ⊢
  have hT := o1.lst.below b2
  have hlow := Lib.hid (o1.lst.block)
  have hst := ToInv.start (bitsN v) N
  have B2 := belowOn b1 b2 b1.size
  have hNle : N ≤ 1073741824 := by rw [hN.out]; omega
  have hw1 := b1.size
  clear hown hgr b2 HTR o1
  go_wp2_with fail
  go_loopw [4] (fun i wr => ∃ (t : Nat) (D : List Int), t ≤ n1 ∧ i = .int .i64 t ∧ ToInv (bitsN v) D N t ∧ Own 66 .u32 w1.heap.size wr (some ⟨w1.heap.size, 0, none⟩) N N D ∧ LstB wr a1 n1 c1 (bitsN v) ∧ Below w.heap.size w wr)
    (fun i _ => n1 - (intOf i).toNat)
  case atStart => exact ⟨0, _, Nat.zero_le _, rfl, hst, o2, hT, B2⟩
  case round =>
    obtain ⟨t, D, ht, rfl, hinv, ho, hk, hb⟩ := hrel
    clear hst o2 hT B2 b1
    by_cases hlt : t < n1
    · have hia := ixB hk t hlt
      have hcl := hk.cell t hlt
      cases hbit : (bitsN v).getD t false with
      | false =>
        rw [hbit] at hcl
        have R1 := Lib.hid (hinv.zero hbit)
        clear hbit hinv
        go_wp2_with fail
        go_roundw
        case rel => exact ⟨t + 1, D, by omega, by go_num, R1.out, ho, hk, hb⟩
        case measure => simp [intOf]; omega
      | true =>
        rw [hbit] at hcl
        have htN : t / 32 < N := by rw [hN.out]; omega
        have hin := ix ho.lst (t / 32) htN
        obtain ⟨x, HX, hx0, hx1, hcx⟩ := ho.lst.at (t / 32) htN
        obtain ⟨X, rfl⟩ := Int.eq_ofNat_of_zero_le hx0
        have hfz := ho.frozen htN
        rw [pt_own] at hin hcx hfz
        have hsm := hinv.small
        rw [← HX.out, Int.toNat_natCast] at hsm
        have hor := or_bit_eq (Nat.mod_lt t (show 32 > 0 by omega)) hsm
        have hs := hinv.one htN hbit HX.out
        have hwf : (Lit.int .u32 ((X + 2 ^ (t % 32) : Nat) : Int)).wf = true := by
          have := hs.ok.getD (t / 32)
          rw [getD_set_self (by rw [hinv.len]; exact htN)] at this
          exact wf_u32 this.1 this.2
        have hbase := ho.base htN
        have r2 := ho.set htN hwf
        have r3 : LstB (wr.setCell (pt (some ⟨w1.heap.size, 0, none⟩) (t / 32)) (.int .u32 ((X + 2 ^ (t % 32) : Nat) : Int))) a1 n1 c1 (bitsN v) :=
          ⟨hk.len, hk.cap, hk.room, hk.isSome, fun i hi => by
            rw [World.cell?_setCell_other _ _ (pt a1 i) _ (fun e => by have := hlow.out i hi; rw [← e, pt_own] at this; simp at this)]
            exact hk.cell i hi, hk.nil0⟩
        have r4 := hb.setCell (Nat.le_trans hw1 hbase) (.int .u32 ((X + 2 ^ (t % 32) : Nat) : Int))
        rw [pt_own] at r2 r3 r4
        rw [← hor] at hs r2 r3 r4
        have R1 := Lib.hid hs; have R2 := Lib.hid r2; have R3 := Lib.hid r3; have R4 := Lib.hid r4
        clear hsm hor hs hwf hbase r2 r3 r4 hinv ho hk hb hbit
        go_wp2_with fail
        go_roundw
        case rel => exact ⟨t + 1, _, by omega, by go_num, R1.out, R2.out, R3.out, R4.out⟩
        case measure => simp [intOf]; omega
    · obtain rfl : t = n1 := by omega
      have hfin : D = limbs v := by
        have h1 := hinv
        rw [hN.out, ← hl1.out] at h1
        exact h1.done
      have HF := Lib.hid hfin
      clear hfin hinv hk
      go_wp2_with fail
      go_ret
      refine ⟨_, N, N, rfl, ?_, hb⟩
      rw [← HF.out]
      exact ⟨ownsRow_low ho.1 hw1, ho.2⟩
end Go.Proofs.YtmojcnlddfijjaaGreatDoor
