/-
  The walk of FixedParse.
-/
import Derived.Test.YtmojcnlddfijjaaDoorFixRef
import Derived.Test.YtmojcnlddfijjaaDoorFixParse
import Derived.Test.YtmojcnlddfijjaaDoorFixRead3
import Derived.Deep.QuietTactic
import Derived.BigQuiet
namespace Go.Proofs.YtmojcnlddfijjaaDoor
open Go.RowKit NatMath FixMath

theorem lt_len (v : Nat) : v < 10 ^ (Lib.decDigits v).length := by
  rw [Lib.decDigits_length]; exact Lib.lt_pow_nDigits v
theorem ftx_lt {T : ByteArray} {v D : Nat} (h : T.data.toList = ftx v D) (hs : T.size ≤ 30) : v < 2 ^ 160 := by
  have hl : T.data.toList.length = T.size := rfl
  have hp : 0 < 10 ^ D := Nat.pow_pos (by omega)
  have h36 : (10 : Nat) ^ 36 < 2 ^ 160 := by decide
  rw [h] at hl
  unfold ftx at hl
  by_cases h0 : D = 0
  · rw [if_pos h0] at hl
    have h1 := lt_len v
    have h2 : 10 ^ (Lib.decDigits v).length ≤ 10 ^ 36 := Nat.pow_le_pow_right (by omega) (by omega)
    omega
  · rw [if_neg h0] at hl
    simp [low_len] at hl
    have h1 := lt_len (v / 10 ^ D)
    have h2 : 10 ^ (Lib.decDigits (v / 10 ^ D)).length * 10 ^ D ≤ 10 ^ 36 := by rw [← Nat.pow_add]; exact Nat.pow_le_pow_right (by omega) (by omega)
    have h3 : v < (v / 10 ^ D + 1) * 10 ^ D := by
      have := Nat.div_add_mod v (10 ^ D)
      have h4 := Nat.mod_lt v hp
      rw [Nat.add_mul, Nat.one_mul, Nat.mul_comm (v / 10 ^ D)]
      omega
    have h4 : (v / 10 ^ D + 1) * 10 ^ D ≤ 10 ^ (Lib.decDigits (v / 10 ^ D)).length * 10 ^ D := Nat.mul_le_mul_right _ h1
    omega

set_option maxHeartbeats 3200000 in
set_option maxRecDepth 100000 in
theorem fparseLaw_c (s : ByteArray) (x : Int) (w : World) (_ : s.size ≤ maxLen) (htab : Tab w) :
    Calls Tryd.prog 8 #[.string s, .int .i64 x] w fun e w' => e = .returned (.bool true) ∧ Below w.heap.size w w' := by
  have HT := Lib.hid htab; clear htab
  obtain ⟨D, hD, hin⟩ := in_any x
  have HIN := Lib.hid hin
  clear hin
  go_enter Tryd.func8, Tryd.ntmps8
  go_wp2_with fail
  go_quiet ((go_at_call 19; exact Calls.quiet_of_same (HIN.out _)))
  obtain ⟨T, hT⟩ : ∃ T, s.extract 0 (min (s.size : Int) 30).toNat = T := ⟨_, rfl⟩
  have hTs : T.size ≤ 30 := by
    rw [← hT, ByteArray.size_extract]
    omega
  rw [hT]
  clear hT
  have bb := below_drewN (Below.refl w.heap.size w) nq
  obtain ⟨u, hu⟩ : ∃ u, u = w.drewN nq := ⟨_, rfl⟩
  rw [← hu] at bb ⊢
  clear hu
  have HR := Lib.hid (fun w1 => read3_c T D w1 hTs hD)
  by_cases hv : ∃ v, T.data.toList = ftx v D
  · obtain ⟨v, hv⟩ := hv
    have HV := Lib.hid hv
    have hv160 : Hid (v < 2 ^ 160) := by
      show v < 2 ^ 160
      exact ftx_lt hv hTs
    have hok := isTx_true hv
    rw [hok] at HR
    clear hv hok
    have HC := Lib.hid (fparse_yes_c T D v u (by omega) hD HV.out)
    go_wp2_with fail
    refine HC.out.mono ?_
    rintro e v1 ⟨a2, l2, c2, rfl, o2, k1⟩
    clear HC
    have P := o2.lst
    replace bb := Below.on bb k1 bb.size
    clear k1
    have HC := Lib.hid (HR.out v1)
    go_wp2_with fail
    refine HC.out.mono ?_
    rintro e v2 ⟨a3, l3, c3, rfl, o3, k2⟩
    clear HC
    have Q := (o3 v HV.out).lst
    have hl3 := (o3 v HV.out).bound hv160.out
    replace P := P.below k2
    replace bb := Below.on bb k2 bb.size
    clear k2
    have HC := Lib.hid (fawake_c v2 (HT.out.below bb))
    go_wp2_with fail
    refine HC.out.mono ?_
    rintro e v3 ⟨rfl, k3⟩
    clear HC
    replace P := P.below k3; replace Q := Q.below k3
    replace bb := Below.on bb k3 bb.size
    clear k3
    have HC := Lib.hid (fis_c _ _ _ _ _ _ _ _ v3 P Q (by omega) (bval_bitsN _))
    clear P Q
    go_wp2_with fail
    refine HC.out.mono ?_
    rintro e v4 ⟨rfl, k4⟩
    clear HC
    replace bb := Below.on bb k4 bb.size
    clear k4
    go_wp2_with fail
    go_ret
    exact ⟨rfl, bb⟩
  · have hno : ∀ v, T.data.toList ≠ ftx v D := fun v h => hv ⟨v, h⟩
    have HNO := Lib.hid hno
    have hok := isTx_false hno
    rw [hok] at HR
    clear hno hv hok
    have HC := Lib.hid (fparse_no_c T D u (by omega) hD HNO.out)
    go_wp2_with fail
    refine HC.out.mono ?_
    rintro e v1 ⟨rfl, k1⟩
    clear HC
    replace bb := Below.on bb k1 bb.size
    clear k1
    have HC := Lib.hid (HR.out v1)
    go_wp2_with fail
    refine HC.out.mono ?_
    rintro e v2 ⟨a3, l3, c3, rfl, _o3, k2⟩
    clear HC
    replace bb := Below.on bb k2 bb.size
    clear k2
    have HC := Lib.hid (fawake_c v2 (HT.out.below bb))
    go_wp2_with fail
    refine HC.out.mono ?_
    rintro e v3 ⟨rfl, k3⟩
    clear HC
    replace bb := Below.on bb k3 bb.size
    clear k3
    go_wp2_with fail
    go_ret
    exact ⟨rfl, bb⟩
end Go.Proofs.YtmojcnlddfijjaaDoor
