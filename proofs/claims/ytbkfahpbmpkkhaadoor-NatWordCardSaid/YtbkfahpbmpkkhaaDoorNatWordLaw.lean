/-
  The walk of NatWord.
-/
import Derived.Test.YtbkfahpbmpkkhaaDoorNatSum
import Derived.Test.YtbkfahpbmpkkhaaDoorNatUint
namespace Go.Proofs.YtbkfahpbmpkkhaaDoor
open Go.RowKit NatMath

set_option maxHeartbeats 3200000 in
set_option maxRecDepth 100000 in
theorem word_c (x : Int) (h0 : 0 ≤ x) (h1 : x ≤ 18446744073709551615) (ao : Option Addr) (n c : Nat) (xs : List Int) (w : World)
    (h : Lst .u32 w ao n c xs) (htab : Tab w) :
    Calls Tryd.prog 12 #[.int .u64 x, .slice ao n c] w fun e w' => e = .returned (.bool true) ∧ Below w.heap.size w w' := by
  have HT := Lib.hid htab; clear htab
  go_enter Tryd.func12, Tryd.ntmps12
  go_wp2_with fail
  refine (short_c _ _ _ xs 6 _ h).mono ?_
  rintro e w' ⟨rfl, n1, hn1, rfl, La⟩
  clear h
  obtain ⟨X, hX⟩ : ∃ X, Hid (X = xs.take 6) := ⟨_, rfl⟩
  rw [← hX.out] at La
  go_wp2_with fail
  refine (of_c x _ h0 h1).mono ?_
  rintro e w1 ⟨a1, l1, c1, hl1, rfl, o1, b1⟩
  have hu := uint64_c _ _ _ _ _ o1.lst true (by rw [val_limbs]; simp; omega)
  rw [val_limbs] at hu
  have ex : ((x.toNat : Nat) : Int) = x := by omega
  simp only [if_true, ex] at hu
  have HU := Lib.hid hu
  clear hu ex
  have A1 := La.below b1
  have bb1 := b1
  clear b1 La o1
  go_wp2_with fail
  refine HU.out.mono ?_
  rintro e w' ⟨rfl, rfl⟩
  clear HU
  have hkey : ∀ b : Bool, b = decide (val X < 18446744073709551616) → ∀ l2 : Nat, Hid (l2 = (bitsN (val X)).length) → (b = true ∧ l2 ≤ 64) ∨ (b = false ∧ 64 < l2) := by
    intro b hb l2 hl
    have hl' := hl.out
    by_cases hv : val X < 18446744073709551616
    · refine Or.inl ⟨by rw [hb]; simpa using hv, ?_⟩
      have := bitsN_length (val X) 64 hv
      omega
    · refine Or.inr ⟨by rw [hb]; simpa using hv, ?_⟩
      have := bitsN_len_ge (m := val X) (k := 64) (by omega)
      omega
  obtain ⟨b, hb⟩ : ∃ b, Hid (b = decide (val X < 18446744073709551616)) := ⟨_, rfl⟩
  obtain ⟨K, hK⟩ : ∃ K : Int, Hid (K = if b then (val X : Int) else 0) := ⟨_, rfl⟩
  have hu := uint64_c _ _ _ X _ A1 b hb.out
  rw [← hK.out] at hu
  have HU := Lib.hid hu
  clear hu
  go_wp2_with fail
  refine HU.out.mono ?_
  rintro e w' ⟨rfl, rfl⟩
  clear HU
  go_wp2_with fail
  refine (from_c _ _ _ X _ A1 (by omega)).mono ?_
  rintro e w2 ⟨a2, l2, c2, rfl, o2, b2⟩
  have hl2 : Hid (l2 = (bitsN (val X)).length) := o2.len.symm
  have hc := hkey b hb.out l2 hl2
  have A2 := A1.below b2
  have bb2 := Below.on bb1 b2 bb1.size
  have hr2 := o2.lst.room
  have hcp2 := o2.lst.cap
  clear o2 b2 A1 bb1
  have HA := Lib.hid (awake_c w2 (HT.out.below bb2))
  rcases hc with ⟨rfl, hle⟩ | ⟨rfl, hgt⟩
  · go_wp2_with fail
    refine HA.out.mono ?_
    rintro e w3 ⟨rfl, b3⟩
    have A3 := A2.below b3
    have bb3 := Below.on bb2 b3 bb2.size
    clear A2 b3 bb2 HA
    have hk : K = (val X : Int) := by simpa using hK.out
    have hlt : val X < 18446744073709551616 := by simpa using hb.out.symm
    have ek : Int.toNat K = val X := by omega
    have ho := of_c K w3 (by omega) (by omega)
    rw [ek] at ho
    have HO := Lib.hid ho
    clear ho hk hlt ek
    go_wp2_with fail
    refine HO.out.mono ?_
    rintro e w4 ⟨a4, l4, c4, hl4, rfl, o4, b4⟩
    have A4 := A3.below b4
    have O4 := o4.lst
    have bb4 := Below.on bb3 b4 bb3.size
    clear A3 b4 bb3 HO o4
    go_wp2_with fail
    refine (norm_c _ _ _ X _ A4 (by omega)).mono ?_
    rintro e w5 ⟨a5, l5, c5, hl5, rfl, o5, b5⟩
    have O5 := O4.below b5
    have N5 := o5.lst
    have bb5 := Below.on bb4 b5 bb4.size
    clear A4 b5 bb4 o5 O4
    have HE := Lib.hid (eq_c _ _ _ _ _ _ _ _ _ O5 N5)
    go_wp2_with fail
    refine HE.out.mono ?_
    rintro e w6 ⟨rfl, q, rfl⟩
    simp only [decide_true]
    go_wp2_with fail
    go_ret
    exact ⟨rfl, below_drewN bb5 q⟩
  · have hk : K = 0 := by simpa using hK.out
    obtain rfl := hk
    have hnot : decide ((l2 : Int) ≤ 64) = false := by simp; omega
    go_wp2_with fail
    refine HA.out.mono ?_
    rintro e w3 ⟨rfl, b3⟩
    have bb3 := Below.on bb2 b3 bb2.size
    go_wp2_with fail
    go_ret
    exact ⟨rfl, bb3⟩

theorem word_l (x : Int) (ao : Option Addr) (n c : Nat) (xs : List Int) (w : World) (h0 : 0 ≤ x) (h1 : x ≤ 18446744073709551615)
    (h : Lst .u32 w ao n c xs) (htab : Tab w) :
    Calls Tryd.prog 12 #[.int .u64 x, .slice ao n c] w fun e w' => e = .returned (.bool true) ∧ Below w.heap.size w w' :=
  word_c x h0 h1 ao n c xs w h htab
end Go.Proofs.YtbkfahpbmpkkhaaDoor
