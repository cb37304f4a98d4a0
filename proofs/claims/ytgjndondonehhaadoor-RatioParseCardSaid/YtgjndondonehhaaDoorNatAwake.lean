/-
  electionlaw01.Awake.
-/
import Derived.Test.YtgjndondonehhaaDoorNatText
import Derived.Test.YtgjndondonehhaaDoorNatSub
namespace Go.Proofs.YtgjndondonehhaaDoor
open Go.RowKit NatMath

theorem Below.on {B : Nat} {a b d : World} (h : Below B a b) (k : Below b.heap.size b d) (hB : B ≤ b.heap.size) : Below B a d := h.trans (k.mono hB)

theorem dec120 : Lib.decDigits 120 = [49, 50, 48] := by
  rw [Lib.decDigits, dif_neg (by omega), Lib.decDigits_two (by omega) (by omega)]; rfl

set_option maxHeartbeats 1600000 in
set_option maxRecDepth 100000 in
theorem awake_c (w : World) (htab : Tab w) :
    Calls Tryd.prog 16 #[] w fun e w' => e = .returned (.bool true) ∧ Below w.heap.size w w' := by
  have e1 : limbs (Int.toNat 4294967296 - Int.toNat 1) = [4294967295] := by
    rw [limbs_pos (by decide), show (Int.toNat 4294967296 - Int.toNat 1) / 4294967296 = 0 by decide, limbs_zero]; rfl
  have E1 := Lib.hid e1
  have D120 := Lib.hid dec120
  have HT := Lib.hid htab
  clear e1 htab
  go_enter Tryd.func16, Tryd.ntmps16
  go_wp2_with fail
  refine (of_c 4294967296 _ (by omega) (by omega)).mono ?_
  rintro e w1 ⟨a1, n1, c1, hn1, rfl, o1, b1⟩
  go_wp2_with fail
  refine (of_c 1 _ (by omega) (by omega)).mono ?_
  rintro e w2 ⟨a2, n2, c2, hn2, rfl, o2, b2⟩
  go_wp2_with fail
  have o1' := o1.kept b2
  have B2 : Below w.heap.size w w2 := Below.on b1 b2 b1.size
  have hs := sub_ge_c _ _ _ _ _ _ _ _ _ o1'.lst o2.lst (by omega) (by rw [val_limbs, val_limbs]; decide)
  rw [val_limbs, val_limbs] at hs
  have HS := Lib.hid hs
  clear o1 o1' o2 b1 b2 hs
  refine HS.out.mono ?_
  rintro e w3 ⟨a3, n3, c3, hn3, rfl, o3, b3⟩
  have B3 := Below.on B2 b3 B2.size
  clear b3 HS B2
  rw [E1.out] at o3
  have lit : Own 75 .u32 w3.heap.size (w3.alloc (.cells #[.int .u32 4294967295] 75)) (some ⟨w3.heap.size, 0, none⟩) 1 1 [4294967295] := by
    refine ⟨World.ownsRow_lit w3 #[.int .u32 4294967295] 1 (Nat.le_refl _) (by unfold maxLen; omega) rfl, ?_⟩
    intro y hy
    simp at hy
    subst hy
    exact wf_u32 (by omega) (by omega)
  have B4 : Below w.heap.size w (w3.alloc (.cells #[.int .u32 4294967295] 75)) := B3.alloc B3.size _
  have hq := eq_c _ _ _ _ _ _ _ _ _ (o3.lst.below ((Below.refl w3.heap.size w3).alloc (Nat.le_refl _) (.cells #[.int .u32 4294967295] 75))) lit.lst
  have HQ := Lib.hid hq
  have hz3 := B3.size
  clear hq lit o3 B3
  go_wp2_with fail
  refine HQ.out.mono ?_
  rintro e w' ⟨rfl, q, rfl⟩
  have B5 := below_drewN B4 q
  obtain ⟨w4, HW4⟩ : ∃ w4, Hid (w4 = (w3.alloc (.cells #[.int .u32 4294967295] 75)).drewN q) := ⟨_, rfl⟩
  rw [← HW4.out] at B5 ⊢
  clear B4 HQ
  go_wp2_with fail
  refine (of_c 120 _ (by omega) (by omega)).mono ?_
  rintro e w5 ⟨a5, n5, c5, hn5, rfl, o5, b5⟩
  have B6 := Below.on B5 b5 B5.size
  have ht5 : Tab w5 := Tab.below HT.out B6
  have hx := text_c _ _ _ _ _ o5.lst (by omega) ht5
  rw [val_limbs, show Int.toNat 120 = 120 from rfl, D120.out] at hx
  have HX := Lib.hid hx
  clear hx ht5 o5 b5 B5
  go_wp2_with fail
  refine HX.out.mono ?_
  rintro e w6 ⟨rfl, b6⟩
  have B7 := Below.on B6 b6 B6.size
  clear b6 B6 HX
  go_wp2_with fail
  refine (of_c 3 _ (by omega) (by omega)).mono ?_
  rintro e w7 ⟨a7, n7, c7, hn7, rfl, o7, b7⟩
  have B8 := Below.on B7 b7 B7.size
  clear b7 B7
  go_wp2_with fail
  refine (of_c 2 _ (by omega) (by omega)).mono ?_
  rintro e w8 ⟨a8, n8, c8, hn8, rfl, o8, b8⟩
  have B9 := Below.on B8 b8 B8.size
  have hc := cmp_c _ _ _ _ _ _ _ _ _ (o7.kept b8).lst o8.lst
  rw [val_limbs, val_limbs, show cmpI ((Int.toNat 3 : Nat) : Int) ((Int.toNat 2 : Nat) : Int) = 1 by decide] at hc
  have HC := Lib.hid hc
  clear hc o7 o8 b8 B8
  go_wp2_with fail
  refine HC.out.mono ?_
  rintro e w' ⟨rfl, q9, rfl⟩
  go_wp2_with fail
  go_ret
  exact ⟨rfl, below_drewN B9 q9⟩
end Go.Proofs.YtgjndondonehhaaDoor
