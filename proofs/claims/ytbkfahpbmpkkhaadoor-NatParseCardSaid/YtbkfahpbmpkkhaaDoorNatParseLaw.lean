/-
  The walk of NatParse.
-/
import Derived.Test.YtbkfahpbmpkkhaaDoorNatParse
import Derived.Test.YtbkfahpbmpkkhaaDoorNatRead
namespace Go.Proofs.YtbkfahpbmpkkhaaDoor
open Go.RowKit NatMath

theorem numB_dig {s : ByteArray} (h : numB s = true) : DigTo s s.size := by
  by_cases hN : Numeral s
  · exact hN.1
  · rw [numB_false hN] at h
    cases h


set_option maxHeartbeats 3200000 in
set_option maxRecDepth 100000 in
theorem parseLaw_c (s : ByteArray) (w : World) (_ : s.size ≤ maxLen) (htab : Tab w) :
    Calls Tryd.prog 10 #[.string s] w fun e w' => e = .returned (.bool true) ∧ Below w.heap.size w w' := by
  have HT := Lib.hid htab; clear htab
  go_enter Tryd.func10, Tryd.ntmps10
  go_wp2_with fail
  obtain ⟨T, hT⟩ : ∃ T, s.extract 0 (min (s.size : Int) 40).toNat = T := ⟨_, rfl⟩
  have hTs : T.size ≤ 40 := by
    rw [← hT, ByteArray.size_extract]
    omega
  rw [hT]
  obtain ⟨b, hb⟩ : ∃ b, numB T = b := ⟨_, rfl⟩
  have hr := fun w0 => read_c T w0 hTs
  rw [hb] at hr
  have HR := Lib.hid hr
  clear hr
  cases b with
  | true =>
    have hd := numB_dig hb
    have HP := Lib.hid (parse_c T w hTs hb hd)
    obtain ⟨V, hV⟩ : ∃ V, Hid (V = numG T 0 T.size) := ⟨_, rfl⟩
    have hV0 : V < 2 ^ 160 := by
      have h1 := numG_lt hd 0 T.size (by omega)
      have h2 : 10 ^ T.size ≤ 10 ^ 40 := Nat.pow_le_pow_right (by omega) hTs
      have h3 : (10 : Nat) ^ 40 ≤ 2 ^ 160 := by decide
      rw [hV.out]
      omega
    have HV := Lib.hid hV0
    rw [← hV.out] at HR HP
    clear hb hd hV0
    refine HP.out.mono ?_
    rintro e w1 ⟨a1, n1, c1, hn1, rfl, o1, b1⟩
    have A1 := o1.lst
    have bb1 := b1
    clear o1 b1 HP
    go_wp2_with fail
    refine (HR.out w1).mono ?_
    rintro e w2 ⟨a2, n2, c2, rfl, ho, b2⟩
    have o2 := ho trivial
    have A2 := A1.below b2
    have B2 := o2.lst
    have hn2 := o2.bound HV.out
    have bb2 := Below.on bb1 b2 bb1.size
    have HA := Lib.hid (awake_c w2 (HT.out.below bb2))
    clear ho o2 A1 b2 bb1 HR
    go_wp2_with fail
    refine HA.out.mono ?_
    rintro e w3 ⟨rfl, b3⟩
    have A3 := A2.below b3
    have B3 := B2.below b3
    have bb3 := Below.on bb2 b3 bb2.size
    have HI := Lib.hid (is_c _ _ _ _ _ _ _ _ _ A3 B3 (by omega) (bval_bitsN _))
    clear A2 B2 b3 bb2 HA
    go_wp2_with fail
    refine HI.out.mono ?_
    rintro e w4 ⟨rfl, b4⟩
    go_wp2_with fail
    go_ret
    exact ⟨rfl, Below.on bb3 b4 bb3.size⟩
  | false =>
    have HP := Lib.hid (parse_no_c T w hTs hb)
    clear hb
    refine HP.out.mono ?_
    rintro e w' ⟨rfl, rfl⟩
    go_wp2_with fail
    refine (HR.out w).mono ?_
    rintro e w2 ⟨a2, n2, c2, rfl, ho, b2⟩
    have HA := Lib.hid (awake_c w2 (HT.out.below b2))
    clear ho HR
    go_wp2_with fail
    refine HA.out.mono ?_
    rintro e w3 ⟨rfl, b3⟩
    go_wp2_with fail
    go_ret
    exact ⟨rfl, Below.on b2 b3 b2.size⟩
end Go.Proofs.YtbkfahpbmpkkhaaDoor
