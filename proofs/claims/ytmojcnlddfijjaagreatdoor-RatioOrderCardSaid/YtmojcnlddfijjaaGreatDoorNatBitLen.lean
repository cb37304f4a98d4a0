/-
  nat.Bits.
-/
import Derived.Test.YtmojcnlddfijjaaGreatDoorNatRef
import Derived.Test.YtmojcnlddfijjaaGreatDoorShelf
namespace Go.Proofs.YtmojcnlddfijjaaGreatDoor
open Go.RowKit NatMath

theorem bits_top {v : Nat} (h : v ≠ 0) : (bitsN v).length = 32 * ((limbs v).length - 1) + Lib.bitLen ((limbs v).getD ((limbs v).length - 1) 0).toNat ∧ Lib.bitLen ((limbs v).getD ((limbs v).length - 1) 0).toNat ≤ 32 := by
  have hok := limbs_ok v
  obtain ⟨n, hn⟩ : ∃ n, (limbs v).length = n + 1 := by
    refine ⟨(limbs v).length - 1, ?_⟩
    rw [limbs_pos h]
    simp
  rw [hn, Nat.add_sub_cancel]
  obtain ⟨t, ht⟩ : ∃ t, t = ((limbs v).getD n 0).toNat := ⟨_, rfl⟩
  rw [← ht]
  have hv := val_take_succ (limbs v) n
  rw [List.take_of_length_le (by omega), val_limbs, ← ht] at hv
  have hlow := val_lt (hok.take n)
  rw [List.length_take, hn, Nat.min_eq_left (by omega)] at hlow
  obtain ⟨low, hl⟩ : ∃ low, low = val ((limbs v).take n) := ⟨_, rfl⟩
  rw [← hl] at hv hlow
  have hPe : 4294967296 ^ n = 2 ^ (32 * n) := by rw [Nat.pow_mul, show (2 ^ 32 : Nat) = 4294967296 by decide]
  obtain ⟨P, hP⟩ : ∃ P, P = 4294967296 ^ n := ⟨_, rfl⟩
  rw [← hP] at hv hlow
  have ht0 : t ≠ 0 := by
    intro h0
    subst h0
    have := limbs_length v n (by rw [← hP]; omega)
    omega
  have ht1 : t < 4294967296 := by
    have hg : (limbs v).getD n 0 ≤ 4294967295 := by
      have : (limbs v).getD n 0 ∈ limbs v := by
        rw [List.getD, List.getElem?_eq_getElem (by omega)]
        exact List.getElem_mem _
      exact (hok _ this).2
    omega
  obtain ⟨h1, h2, h3⟩ := Lib.bitLenAux_bounds 64 t (by omega) ht0
  obtain ⟨k, hk⟩ : ∃ k, Lib.bitLenAux 64 t = k + 1 := ⟨Lib.bitLenAux 64 t - 1, by omega⟩
  show _ = 32 * n + Lib.bitLenAux 64 t ∧ Lib.bitLenAux 64 t ≤ 32
  rw [hk] at h2 h3 ⊢
  rw [Nat.add_sub_cancel] at h2
  have hup : v < 2 ^ (32 * n + (k + 1)) := by
    rw [Nat.pow_add, ← hPe, ← hP, Nat.mul_comm]
    have : (t + 1) * P ≤ 2 ^ (k + 1) * P := Nat.mul_le_mul_right P h3
    rw [Nat.add_mul] at this
    omega
  have hdn : 2 ^ (32 * n + k) ≤ v := by
    rw [Nat.pow_add, ← hPe, ← hP, Nat.mul_comm]
    have : 2 ^ k * P ≤ t * P := Nat.mul_le_mul_right P h2
    omega
  have e1 := bitsN_length v _ hup
  have e2 := bitsN_len_ge hdn
  have e3 : k < 32 := by
    rcases Nat.lt_or_ge k 32 with h | h
    · exact h
    · have : 2 ^ 32 ≤ 2 ^ k := Nat.pow_le_pow_right (by omega) h
      omega
  omega

set_option maxHeartbeats 1600000 in
set_option maxRecDepth 100000 in
theorem bits_c (ao : Option Addr) (n c : Nat) (xs : List Int) (w : World) (h : Lst .u32 w ao n c xs) (hn : n ≤ 1073741824) :
    Calls Tryz.prog 64 #[.slice ao n c] w fun e w' => e = .returned (.int .i64 (bitsN (val xs)).length) ∧ w = w' := by
  obtain ⟨v, hv⟩ : ∃ v, Hid (v = val xs) := ⟨_, rfl⟩
  have hle := limbs_val_length h.ok
  rw [h.len] at hle
  have ht := trim_c ao n c xs w h
  rw [← hv.out] at ht hle ⊢
  have HTR := Lib.hid ht
  clear ht h
  by_cases h0 : v = 0
  · subst h0
    rw [bitsN_zero]
    go_enter Tryz.func64, Tryz.ntmps64
    go_wp2_with fail
    refine HTR.out.mono ?_
    rintro e w' ⟨rfl, a1, n1, c1, rfl, h1, -⟩
    have hz : n1 = 0 := by rw [← h1.len, limbs_zero]; rfl
    subst hz
    go_wp2_with fail
    go_ret
    exact ⟨rfl, rfl⟩
  · have hb := Lib.hid (bits_top h0)
    go_enter Tryz.func64, Tryz.ntmps64
    go_wp2_with fail
    refine HTR.out.mono ?_
    rintro e w' ⟨rfl, a1, n1, c1, rfl, h1, -⟩
    have hl := h1.len
    rw [hl] at hle
    have hpos : 0 < n1 := by
      rw [← hl, limbs_pos h0]
      simp
    have hbt := hb.out
    rw [hl] at hbt
    have HB := Lib.hid hbt.1
    have hb32 := hbt.2
    have hr := h1.room
    have hc := h1.cap
    have hia := ix h1 (n1 - 1) (by omega)
    rw [show ((n1 - 1 : Nat) : Int) = (n1 : Int) - 1 by omega] at hia
    obtain ⟨x, HX, hx0, hx1, hcx⟩ := h1.at (n1 - 1) (by omega)
    rw [← HX.out] at HB hb32
    have hnz : ((n1 : Int) == 0) = false := by simp; omega
    have HL := Lib.hid (Tryz.bits_Len32 x w hx0 hx1)
    obtain ⟨B, hB⟩ : ∃ B, Lib.bitLen x.toNat = B := ⟨_, rfl⟩
    rw [hB] at HL HB hb32
    clear hb hbt hl h1 HTR hB
    go_wp2_with fail
    refine HL.out.mono ?_
    rintro e w' ⟨rfl, rfl⟩
    go_wp2_with fail
    go_ret
    refine ⟨?_, rfl⟩
    rw [show (((bitsN v).length : Nat) : Int) = 32 * ((n1 : Int) - 1) + (B : Int) by rw [HB.out]; omega]
    rfl
end Go.Proofs.YtmojcnlddfijjaaGreatDoor
