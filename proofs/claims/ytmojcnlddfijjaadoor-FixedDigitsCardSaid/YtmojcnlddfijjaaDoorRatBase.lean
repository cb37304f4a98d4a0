/-
  ratio.isZero, ratio.Make, ratio.normal, ratio.divisible, ratio.negate.
-/
import Derived.Test.YtmojcnlddfijjaaDoorRatBox
import Derived.Test.YtmojcnlddfijjaaDoorNatGcdN
import Derived.Test.YtmojcnlddfijjaaDoorNatBitLen
import Derived.Test.YtmojcnlddfijjaaDoorRatMath
namespace Go.Proofs.YtmojcnlddfijjaaDoor
open Go.RowKit NatMath RatMath

theorem limbs_1 : limbs 1 = [1] := by
  rw [limbs_pos (by omega), show 1 / 4294967296 = 0 by omega, limbs_zero]; rfl
theorem val_nil : val [] = 0 := rfl

/-- The value of a Ratio. -/
def rv (s : Bool) (a : Option Addr) (n c : Nat) (b : Option Addr) (m d : Nat) : Value := .agg #[.bool s, .slice a n c, .slice b m d]

theorem bitsN_len {v : Nat} : (((bitsN v).length : Int) == 0) = decide (v = 0) := by
  by_cases h : v = 0
  · subst h; rw [bitsN_zero]; rfl
  · rw [bitsN_pos h, decide_eq_false h]
    simp
    omega

set_option maxHeartbeats 1600000 in
theorem isZero_c (ao : Option Addr) (n c : Nat) (xs : List Int) (w : World) (h : Lst .u32 w ao n c xs) (hn : n ≤ 1073741820) :
    Calls Tryd.prog 42 #[.slice ao n c] w fun e w' => e = .returned (.bool (decide (val xs = 0))) ∧ w = w' := by
  have HB := Lib.hid (bits_c ao n c xs w h (by omega))
  have hz := Lib.hid (bitsN_len (v := val xs))
  obtain ⟨L, hL⟩ : ∃ L, Hid (L = (bitsN (val xs)).length) := ⟨_, rfl⟩
  rw [← hL.out] at HB
  go_enter Tryd.func42, Tryd.ntmps42
  go_wp2_with fail
  refine HB.out.mono ?_
  rintro e w' ⟨rfl, rfl⟩
  go_wp2_with fail
  go_ret
  exact ⟨by rw [← hz.out, hL.out]; rfl, rfl⟩

set_option maxHeartbeats 3200000 in
set_option maxRecDepth 100000 in
theorem make_c (s : Bool) (ao bo : Option Addr) (n c m d : Nat) (xs ys : List Int) (w : World) (h : Lst .u32 w ao n c xs) (k : Lst .u32 w bo m d ys) (hn : n ≤ 1000000) (hm : m ≤ 1000000) :
    Calls Tryd.prog 28 #[.bool s, .slice ao n c, .slice bo m d] w fun e w' => ∃ s' a n' c' b m' d', e = .returned (.agg #[.bool s', .slice a n' c', .slice b m' d']) ∧ s' = (nf ⟨s, val xs, val ys⟩).s ∧ Own 77 .u32 w.heap.size w' a n' c' (limbs (nf ⟨s, val xs, val ys⟩).p) ∧ Own 77 .u32 w.heap.size w' b m' d' (limbs (nf ⟨s, val xs, val ys⟩).q) ∧ n' ≤ n ∧ m' ≤ m + 1 ∧ Below w.heap.size w w' := by
  obtain ⟨X, hX⟩ : ∃ X, Hid (X = val xs) := ⟨_, rfl⟩
  obtain ⟨Y, hY⟩ : ∃ Y, Hid (Y = val ys) := ⟨_, rfl⟩
  have HZ1 := fun w1 (hb : Below w.heap.size w w1) => isZero_c ao n c xs w1 (h.below hb) (by omega)
  have HZ2 := fun w1 (hb : Below w.heap.size w w1) => isZero_c bo m d ys w1 (k.below hb) (by omega)
  have HG := fun w1 (hb : Below w.heap.size w w1) => gcd_c ao bo n c m d xs ys w1 (h.below hb) (k.below hb) (by omega) (by omega)
  rw [← hX.out] at HZ1
  rw [← hY.out] at HZ2
  rw [← hX.out, ← hY.out] at HG ⊢
  have HZ1 := Lib.hid HZ1; have HZ2 := Lib.hid HZ2; have HG := Lib.hid HG
  have H := Lib.hid h; have K := Lib.hid k
  have bb := (Below.refl w.heap.size w).alloc (Nat.le_refl _) (.cells #[.bool false, .slice none 0 0, .slice none 0 0] 25)
  clear h k
  go_enter Tryd.func28, Tryd.ntmps28
  go_wp2_with fail
  refine (HZ1.out _ bb).mono ?_
  rintro e w' ⟨rfl, rfl⟩
  by_cases hx : X = 0
  · have hd : decide (X = 0) = true := by simpa using hx
    have HN := Lib.hid (nf_zero (x := ⟨s, X, Y⟩) (Or.inl hx))
    clear hx
    go_wp2_with fail
    refine (of_c 1 _ (by omega) (by omega)).mono ?_
    rintro e w2 ⟨a2, n2, c2, hn2, rfl, o2, b2⟩
    have hlen2 : n2 ≤ 1 := by rw [← o2.len, show Int.toNat 1 = 1 from rfl, limbs_1]; decide
    have k2 := (Blk.new w 25 #[.bool false, .slice none 0 0, .slice none 0 0]).on b2
    have BB := Lib.hid (bb.trans (b2.mono (by simp)))
    have O2 := Lib.hid o2
    obtain ⟨s0, s1, s2, s3, s4, s5⟩ := k2.store3 (.bool false) (.slice none 0 0)
    have K2 := Lib.hid k2
    clear k2 o2 b2
    go_wp2_with fail
    have k3 := K2.out.put3 (.bool false) (.slice none 0 0) (.slice a2 n2 c2)
    have b3 := below_put3 BB.out (Nat.le_refl _) (.bool false) (.slice none 0 0) (.slice a2 n2 c2)
    have o3 := O2.out.put3 (O2.out.hi (g := w.heap.size) (by simp)) (.bool false) (.slice none 0 0) (.slice a2 n2 c2)
    obtain ⟨W, hW⟩ : ∃ W, W = put3 w2 w.heap.size (.bool false) (.slice none 0 0) (.slice a2 n2 c2) := ⟨_, rfl⟩
    change bodyPost _ _ _ _ _ (put3 w2 w.heap.size (.bool false) (.slice none 0 0) (.slice a2 n2 c2))
    rw [← hW] at k3 b3 o3 ⊢
    obtain ⟨r0, r1, r2⟩ := k3.cells3
    refine bodyPost_ret (v := .agg #[.bool false, .slice none 0 0, .slice a2 n2 c2]) (by simp [results, Tryd.results28, go_sem, r0, r1, r2]) rfl ?_
    refine ⟨_, none, 0, 0, a2, n2, c2, rfl, by rw [HN.out]; rfl, ?_, ?_, Nat.zero_le _, by omega, b3⟩
    · rw [HN.out, show zero.p = 0 from rfl, limbs_zero]; exact own_nil _ _ _ _
    · rw [HN.out, show zero.q = 1 from rfl]
      exact o3.low (by simp)
  have hd : decide (X = 0) = false := by simpa using hx
  by_cases hy : Y = 0
  · have hd2 : decide (Y = 0) = true := by simpa using hy
    have HN := Lib.hid (nf_zero (x := ⟨s, X, Y⟩) (Or.inr hy))
    clear hx hy
    go_wp2_with fail
    refine (HZ2.out _ bb).mono ?_
    rintro e w' ⟨rfl, rfl⟩
    go_wp2_with fail
    refine (of_c 1 _ (by omega) (by omega)).mono ?_
    rintro e w2 ⟨a2, n2, c2, hn2, rfl, o2, b2⟩
    have hlen2 : n2 ≤ 1 := by rw [← o2.len, show Int.toNat 1 = 1 from rfl, limbs_1]; decide
    have k2 := (Blk.new w 25 #[.bool false, .slice none 0 0, .slice none 0 0]).on b2
    have BB := Lib.hid (bb.trans (b2.mono (by simp)))
    have O2 := Lib.hid o2
    obtain ⟨s0, s1, s2, s3, s4, s5⟩ := k2.store3 (.bool false) (.slice none 0 0)
    have K2 := Lib.hid k2
    clear k2 o2 b2
    go_wp2_with fail
    have k3 := K2.out.put3 (.bool false) (.slice none 0 0) (.slice a2 n2 c2)
    have b3 := below_put3 BB.out (Nat.le_refl _) (.bool false) (.slice none 0 0) (.slice a2 n2 c2)
    have o3 := O2.out.put3 (O2.out.hi (g := w.heap.size) (by simp)) (.bool false) (.slice none 0 0) (.slice a2 n2 c2)
    obtain ⟨W, hW⟩ : ∃ W, W = put3 w2 w.heap.size (.bool false) (.slice none 0 0) (.slice a2 n2 c2) := ⟨_, rfl⟩
    change bodyPost _ _ _ _ _ (put3 w2 w.heap.size (.bool false) (.slice none 0 0) (.slice a2 n2 c2))
    rw [← hW] at k3 b3 o3 ⊢
    obtain ⟨r0, r1, r2⟩ := k3.cells3
    refine bodyPost_ret (v := .agg #[.bool false, .slice none 0 0, .slice a2 n2 c2]) (by simp [results, Tryd.results28, go_sem, r0, r1, r2]) rfl ?_
    refine ⟨_, none, 0, 0, a2, n2, c2, rfl, by rw [HN.out]; rfl, ?_, ?_, Nat.zero_le _, by omega, b3⟩
    · rw [HN.out, show zero.p = 0 from rfl, limbs_zero]; exact own_nil _ _ _ _
    · rw [HN.out, show zero.q = 1 from rfl]
      exact o3.low (by simp)
  · have hd2 : decide (Y = 0) = false := by simpa using hy
    have HN := Lib.hid (nf_pos (x := ⟨s, X, Y⟩) hx hy)
    have hg0 : Nat.gcd X Y ≠ 0 := fun h0 => hx (Nat.eq_zero_of_gcd_eq_zero_left h0)
    have hXn := Lib.hid (limbs_val_length H.out.ok)
    have hYn := Lib.hid (limbs_val_length K.out.ok)
    rw [← hX.out, H.out.len] at hXn
    rw [← hY.out, K.out.len] at hYn
    have hgb : (limbs (Nat.gcd X Y)).length ≤ n := Nat.le_trans (limbs_len_mono (Nat.gcd_le_left Y (Nat.pos_of_ne_zero hx))) hXn.out
    obtain ⟨G, hG⟩ : ∃ G, Hid (G = Nat.gcd X Y) := ⟨_, rfl⟩
    rw [← hG.out] at HG hg0 hgb
    have HX := Lib.hid hx
    have HY := Lib.hid hy
    have HGB := Lib.hid hgb
    have HG0 := Lib.hid hg0
    clear hx hy hgb hg0
    go_wp2_with fail
    refine (HZ2.out _ bb).mono ?_
    rintro e w' ⟨rfl, rfl⟩
    go_wp2_with fail
    refine (HG.out _ bb).mono ?_
    rintro e w2 ⟨a2, n2, c2, rfl, o2, b2⟩
    have k2 := (Blk.new w 25 #[.bool false, .slice none 0 0, .slice none 0 0]).on b2
    have BB := Lib.hid (bb.trans (b2.mono (by simp)))
    have hn2 : n2 ≤ n := by rw [← o2.len]; exact HGB.out
    have D := o2.lst
    have hd1 := div_c ao a2 n c n2 c2 xs (limbs G) w2 (H.out.below BB.out) D (by omega) (by rw [val_limbs]; exact HG0.out)
    rw [val_limbs, ← hX.out] at hd1
    have HD1 := Lib.hid hd1
    have K2 := Lib.hid k2
    clear k2 o2 b2 hd1
    go_wp2_with fail
    refine HD1.out.mono ?_
    rintro e w3 ⟨a3, n3, c3, a4, n4, c4, rfl, o3, _, b3⟩
    have BB3 := Lib.hid (BB.out.trans (b3.mono BB.out.size))
    have K3 := Lib.hid (K2.out.on b3)
    have hn3 : n3 ≤ n := by
      rw [← o3.len]
      exact Nat.le_trans (limbs_len_mono (Nat.div_le_self X G)) hXn.out
    have O3 := Lib.hid (o3.low BB.out.size)
    have hlow3 := Lib.hid (o3.hi (g := w.heap.size) K2.out.lt)
    have D3 := D.below b3
    have hd2' := div_c bo a2 m d n2 c2 ys (limbs G) w3 (K.out.below BB3.out) D3 (by omega) (by rw [val_limbs]; exact HG0.out)
    rw [val_limbs, ← hY.out] at hd2'
    have HD2 := Lib.hid hd2'
    clear D D3 b3 hd2' HD1 o3
    go_wp2_with fail
    refine HD2.out.mono ?_
    rintro e w4 ⟨a5, n5, c5, a6, n6, c6, rfl, o5, _, b4⟩
    have BB := Lib.hid (BB3.out.trans (b4.mono BB3.out.size))
    have K2 := Lib.hid (K3.out.on b4)
    have hn5 : n5 ≤ m := by
      rw [← o5.len]
      exact Nat.le_trans (limbs_len_mono (Nat.div_le_self Y G)) hYn.out
    have O3 := Lib.hid (O3.out.kept b4)
    have hlow5 := Lib.hid (o5.hi (g := w.heap.size) K3.out.lt)
    have O5 := Lib.hid (o5.low BB3.out.size)
    obtain ⟨s0, s1, s2, s3, s4, s5⟩ := K2.out.store3 (.bool s) (.slice a3 n3 c3)
    clear o5 b4 HD2
    go_wp2_with fail
    have k3 := K2.out.put3 (.bool s) (.slice a3 n3 c3) (.slice a5 n5 c5)
    have b3 := below_put3 BB.out (Nat.le_refl _) (.bool s) (.slice a3 n3 c3) (.slice a5 n5 c5)
    have p3 := O3.out.put3 hlow3.out (.bool s) (.slice a3 n3 c3) (.slice a5 n5 c5)
    have p5 := O5.out.put3 hlow5.out (.bool s) (.slice a3 n3 c3) (.slice a5 n5 c5)
    obtain ⟨W, hW⟩ : ∃ W, W = put3 w4 w.heap.size (.bool s) (.slice a3 n3 c3) (.slice a5 n5 c5) := ⟨_, rfl⟩
    change bodyPost _ _ _ _ _ (put3 w4 w.heap.size (.bool s) (.slice a3 n3 c3) (.slice a5 n5 c5))
    rw [← hW] at k3 b3 p3 p5 ⊢
    obtain ⟨r0, r1, r2⟩ := k3.cells3
    refine bodyPost_ret (v := .agg #[.bool s, .slice a3 n3 c3, .slice a5 n5 c5]) (by simp [results, Tryd.results28, go_sem, r0, r1, r2]) rfl ?_
    refine ⟨_, a3, n3, c3, a5, n5, c5, rfl, by rw [HN.out], ?_, ?_, hn3, by omega, b3⟩
    · rw [HN.out, ← hG.out]; exact p3
    · rw [HN.out, ← hG.out]; exact p5
end Go.Proofs.YtmojcnlddfijjaaDoor
