/-
  nat.Uint64.
-/
import Derived.Test.YtmojcnlddfijjaaGreatDoorNatRef
namespace Go.Proofs.YtmojcnlddfijjaaGreatDoor
open Go.RowKit NatMath

theorem limbs_two {v : Nat} : (limbs v).length ≤ 2 ↔ v < 18446744073709551616 := by
  constructor
  · intro h
    have h1 := val_lt (limbs_ok v)
    rw [val_limbs] at h1
    have h2 : 4294967296 ^ (limbs v).length ≤ 4294967296 ^ 2 := Nat.pow_le_pow_right (by omega) h
    omega
  · intro h
    exact limbs_length v 2 (by omega)

theorem or_limb {j n1 V : Nat} {x : Int} (h2 : n1 ≤ 2) (hlt : j < n1) (hx0 : 0 ≤ x) (hx1 : x ≤ 4294967295) (hV : V < 4294967296 ^ j) :
    bits .or .u64 (V : Int) (IntKind.u64.wrap (x * 2 ^ (32 * j))) = ((V + x.toNat * 4294967296 ^ j : Nat) : Int) := by
  obtain ⟨X, rfl⟩ := Int.eq_ofNat_of_zero_le hx0
  have hj : j = 0 ∨ j = 1 := by omega
  rcases hj with rfl | rfl
  · have : V = 0 := by simpa using hV
    subst this
    simp only [Nat.mul_zero, Int.pow_zero, Int.mul_one, Int.toNat_natCast, Nat.pow_zero, Nat.mul_one, Nat.zero_add]
    rw [IntKind.wrap_u64, show ((X : Int) % 18446744073709551616) = (X : Int) by omega, u64_or_nat 0 X (by omega) (by omega), Nat.zero_or]
  · have hV' : V < 4294967296 := by simpa using hV
    have e : IntKind.u64.wrap ((X : Int) * 2 ^ (32 * 1)) = ((X * 4294967296 : Nat) : Int) := by
      rw [IntKind.wrap_u64]
      omega
    rw [e, u64_or_nat V (X * 4294967296) (by omega) (by omega), Nat.or_comm, nat_join 32 _ _ (by omega) (by omega), Nat.add_comm]
    simp

set_option maxHeartbeats 1600000 in
set_option maxRecDepth 100000 in
theorem uint64_c (ao : Option Addr) (n c : Nat) (xs : List Int) (w : World) (h : Lst .u32 w ao n c xs) (b : Bool) (hb : b = decide (val xs < 18446744073709551616)) :
    Calls Tryz.prog 78 #[.slice ao n c] w fun e w' => e = .returned (.tuple #[.int .u64 (if b then (val xs : Int) else 0), .bool b]) ∧ w = w' := by
  obtain ⟨v, hv⟩ : ∃ v, Hid (v = val xs) := ⟨_, rfl⟩
  have ht := trim_c ao n c xs w h
  rw [← hv.out] at ht hb ⊢
  have HTR := Lib.hid ht
  have hcase : (b = true ∧ (limbs v).length ≤ 2) ∨ (b = false ∧ 2 < (limbs v).length) := by
    by_cases h2 : (limbs v).length ≤ 2
    · exact Or.inl ⟨by rw [hb]; simpa using limbs_two.1 h2, h2⟩
    · refine Or.inr ⟨?_, by omega⟩
      rw [hb]
      have := fun h3 => h2 (limbs_two.2 h3)
      simpa using this
  clear ht hb h
  go_enter Tryz.func78, Tryz.ntmps78
  go_wp2_with fail
  refine HTR.out.mono ?_
  rintro e w' ⟨rfl, a1, n1, c1, rfl, h1, -⟩
  have hlen := Lib.hid h1.len
  rw [hlen.out] at hcase
  have hr := h1.room
  have hc := h1.cap
  clear HTR
  rcases hcase with ⟨rfl, h2⟩ | ⟨rfl, h2⟩
  · go_wp2_with fail
    go_loop [4, 14] (fun s4 i => ∃ j : Nat, j ≤ n1 ∧ i = .int .i64 j ∧ s4 = .int .u64 (val ((limbs v).take j))) (fun _ i => n1 - (intOf i).toNat)
    case atStart => exact ⟨0, Nat.zero_le _, rfl, rfl⟩
    case round =>
      obtain ⟨j, hj, rfl, rfl⟩ := hrel
      by_cases hlt : j < n1
      · have hia := ix h1 j hlt
        obtain ⟨x, HX, hx0, hx1, hcx⟩ := h1.at j hlt
        go_wp2_with fail
        have hbit : bits BinOp.or IntKind.u64 (↑(val (List.take j (limbs v)))) (IntKind.u64.wrap (x * 2 ^ (32 * j))) = ((val (List.take (j + 1) (limbs v)) : Nat) : Int) := by
          rw [val_take_succ, ← HX.out]
          exact or_limb h2 hlt hx0 hx1 (Nat.lt_of_lt_of_le (val_lt (fun y hy => limbs_ok v y (List.mem_of_mem_take hy))) (Nat.pow_le_pow_right (by omega) (List.length_take_le j _)))
        refine ⟨⟨j + 1, by omega, ?_, ?_⟩, ?_⟩
        · push_cast; rfl
        · rw [hbit]
        · simp only [intOf]
          omega
      · obtain rfl : j = n1 := by omega
        have hv2 : val ((limbs v).take j) = v := by rw [List.take_of_length_le (by rw [hlen.out]; exact Nat.le_refl _), val_limbs]
        have HV := Lib.hid hv2
        rw [hv2]
        clear hv2
        go_wp2_with fail
        go_ret2
        exact ⟨rfl, rfl⟩
  · go_wp2_with fail
    go_ret2
    exact ⟨rfl, rfl⟩
end Go.Proofs.YtmojcnlddfijjaaGreatDoor
