/-
  The walk of FixedText.
-/
import Derived.Test.YtmojcnlddfijjaaDoorFixRef
import Derived.Test.YtmojcnlddfijjaaDoorFixParse
import Derived.Test.YtmojcnlddfijjaaDoorFixRead3
namespace Go.Proofs.YtmojcnlddfijjaaDoor
open Go.RowKit NatMath FixMath

theorem ftx_short {v D : Nat} (hv : v < 2 ^ 96) (hD : D ≤ 6) : (⟨(ftx v D).toArray⟩ : ByteArray).size ≤ 40 := by
  have h1 : ∀ u, u ≤ v → (Lib.decDigits u).length ≤ 29 := fun u hu => by
    refine dec_len 28 u ?_
    have : (2 : Nat) ^ 96 ≤ 10 ^ 29 := by decide
    omega
  show (ftx v D).length ≤ 40
  unfold ftx
  split
  · have := h1 v (Nat.le_refl _); omega
  · have := h1 (v / 10 ^ D) (Nat.div_le_self _ _)
    simp [low_len]
    omega

set_option maxHeartbeats 3200000 in
set_option maxRecDepth 100000 in
theorem ftextLaw_c (ao : Option Addr) (n c : Nat) (xs : List Int) (x : Int) (w : World) (h : Lst .u32 w ao n c xs) (htab : Tab w) :
    Calls Tryd.prog 7 #[.slice ao n c, .int .i64 x] w fun e w' => e = .returned (.bool true) ∧ Below w.heap.size w w' := by
  have HT := Lib.hid htab; clear htab
  go_enter Tryd.func7, Tryd.ntmps7
  go_wp2_with fail
  refine (short_c _ _ _ xs 3 _ h).mono ?_
  rintro e w' ⟨rfl, n1, hn1, rfl, La⟩
  go_wp2_with fail
  refine (in_c x _).mono ?_
  rintro e w' ⟨rfl, D, hD, rfl⟩
  clear h
  obtain ⟨X, hX⟩ : ∃ X, Hid (X = xs.take 3) := ⟨_, rfl⟩
  rw [← hX.out] at La
  have BX := Lib.hid (val_lt_two La.ok La.len hn1)
  have bb := Below.refl w.heap.size w
  have hsz := ftx_short (D := D) BX.out hD
  obtain ⟨T, hT⟩ : ∃ T, Hid (T = (⟨(ftx (val X) D).toArray⟩ : ByteArray)) := ⟨_, rfl⟩
  rw [← hT.out] at hsz
  have hTl : Hid (T.data.toList = ftx (val X) D) := by show _ = _; rw [hT.out]
  have hbeq : (T.toList == T.toList) = true := beq_self_eq_true _
  have B160 : Hid (val X < 2 ^ 160) := Nat.lt_of_lt_of_le BX.out (Nat.pow_le_pow_right (by omega) (by omega))
  have ht := ftext_c _ _ _ X D w La (by omega) hD (HT.out.below bb)
  rw [← hT.out] at ht
  have HC := Lib.hid (ht)
  go_wp2_with fail
  refine HC.out.mono ?_
  rintro e v1 ⟨rfl, k1⟩
  clear HC
  replace La := La.below k1
  replace bb := Below.on bb k1 bb.size
  clear k1
  clear ht
  have HC := Lib.hid (fparse_yes_c T D (val X) v1 hsz hD hTl.out)
  go_wp2_with fail
  refine HC.out.mono ?_
  rintro e v2 ⟨a2, l2, c2, rfl, o2, k2⟩
  clear HC
  have P := o2.lst
  replace La := La.below k2
  replace bb := Below.on bb k2 bb.size
  clear k2
  have HC := Lib.hid (fawake_c v2 (HT.out.below bb))
  go_wp2_with fail
  refine HC.out.mono ?_
  rintro e v3 ⟨rfl, k3⟩
  clear HC
  replace La := La.below k3; replace P := P.below k3
  replace bb := Below.on bb k3 bb.size
  clear k3
  have HC := Lib.hid (from_c _ _ _ X v3 La (by omega))
  go_wp2_with fail
  refine HC.out.mono ?_
  rintro e v4 ⟨a3, l3, c3, rfl, o3, k4⟩
  clear HC
  have Tx := o3.lst
  have hl3 := o3.bound BX.out
  replace La := La.below k4; replace P := P.below k4
  replace bb := Below.on bb k4 bb.size
  clear k4
  have ht := text3_c _ _ _ _ D v4 Tx (by omega) B160.out hD
  rw [← hT.out] at ht
  have HC := Lib.hid (ht)
  clear Tx
  go_wp2_with fail
  refine HC.out.mono ?_
  rintro e v5 ⟨rfl, k5⟩
  clear HC
  replace La := La.below k5; replace P := P.below k5
  replace bb := Below.on bb k5 bb.size
  clear k5
  clear ht
  have HC := Lib.hid (from_c _ _ _ X v5 La (by omega))
  go_wp2_with fail
  refine HC.out.mono ?_
  rintro e v6 ⟨a4, l4, c4, rfl, o4, k6⟩
  clear HC
  have Ty := o4.lst
  have hl4 := o4.bound BX.out
  replace La := La.below k6; replace P := P.below k6
  replace bb := Below.on bb k6 bb.size
  clear k6
  have HC := Lib.hid (fis_c _ _ _ _ _ _ _ _ v6 P Ty (by omega) (bval_bitsN _))
  clear P Ty
  go_wp2_with fail
  refine HC.out.mono ?_
  rintro e v7 ⟨rfl, k7⟩
  clear HC
  replace La := La.below k7
  replace bb := Below.on bb k7 bb.size
  clear k7
  go_wp2_with fail
  go_ret
  exact ⟨rfl, bb⟩
end Go.Proofs.YtmojcnlddfijjaaDoor
