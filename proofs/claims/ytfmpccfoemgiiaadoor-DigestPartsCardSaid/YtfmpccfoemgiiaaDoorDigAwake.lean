/-
  electionlaw04.Awake.
-/
import Derived.Test.YtfmpccfoemgiiaaDoorDigLit
import Derived.Test.YtfmpccfoemgiiaaDoorDigText
namespace Go.Proofs.YtfmpccfoemgiiaaDoor
open Go.RowKit Dig

set_option maxRecDepth 100000 in
theorem known_abc : textS (sumL [97, 98, 99]) = (⟨#[98, 97, 55, 56, 49, 54, 98, 102, 56, 102, 48, 49, 99, 102, 101, 97, 52, 49, 52, 49, 52, 48, 100, 101, 53, 100, 97, 101, 50, 50, 50, 51, 98, 48, 48, 51, 54, 49, 97, 51, 57, 54, 49, 55, 55, 97, 57, 99, 98, 52, 49, 48, 102, 102, 54, 49, 102, 50, 48, 48, 49, 53, 97, 100]⟩ : ByteArray) := by decide +kernel
theorem str_len (D : List Int) (h : D.length = 32) : (textS D).size = 64 := by
  show ((hexI D).map fun x => UInt8.ofNat x.toNat).toArray.size = 64
  simp [hexI_len, h]

set_option maxHeartbeats 1600000 in
set_option maxRecDepth 100000 in
theorem awake_c (w : World) (hK : KTab 1 w) :
    Calls Tryd.prog 9 #[] w fun e w' => e = .returned (.bool true) ∧ Below w.heap.size w w' := by
  obtain ⟨S, hS⟩ : ∃ S, Hid (S = sumL [97, 98, 99]) := ⟨_, rfl⟩
  have hSd : Hid (IsD S) := by show IsD S; rw [hS.out]; exact sumL_isD _
  have hT : Hid (textS S = (⟨#[98, 97, 55, 56, 49, 54, 98, 102, 56, 102, 48, 49, 99, 102, 101, 97, 52, 49, 52, 49, 52, 48, 100, 101, 53, 100, 97, 101, 50, 50, 50, 51, 98, 48, 48, 51, 54, 49, 97, 51, 57, 54, 49, 55, 55, 97, 57, 99, 98, 52, 49, 48, 102, 102, 54, 49, 102, 50, 48, 48, 49, 53, 97, 100]⟩ : ByteArray)) := by show _ = _; rw [hS.out]; exact known_abc
  have hbeq : (ByteArray.toList (⟨#[98, 97, 55, 56, 49, 54, 98, 102, 56, 102, 48, 49, 99, 102, 101, 97, 52, 49, 52, 49, 52, 48, 100, 101, 53, 100, 97, 101, 50, 50, 50, 51, 98, 48, 48, 51, 54, 49, 97, 51, 57, 54, 49, 55, 55, 97, 57, 99, 98, 52, 49, 48, 102, 102, 54, 49, 102, 50, 48, 48, 49, 53, 97, 100]⟩ : ByteArray) == ByteArray.toList (⟨#[98, 97, 55, 56, 49, 54, 98, 102, 56, 102, 48, 49, 99, 102, 101, 97, 52, 49, 52, 49, 52, 48, 100, 101, 53, 100, 97, 101, 50, 50, 50, 51, 98, 48, 48, 51, 54, 49, 97, 51, 57, 54, 49, 55, 55, 97, 57, 99, 98, 52, 49, 48, 102, 102, 54, 49, 102, 50, 48, 48, 49, 53, 97, 100]⟩ : ByteArray)) = true := beq_self_eq_true _
  have b1 : Below w.heap.size w (w.alloc (.cells #[.int .u8 97, .int .u8 98, .int .u8 99] 5 (3, 4))) := (Below.refl _ _).alloc (Nat.le_refl _) _
  have L1 := lit_lst w [97, 98, 99] (3, 4) (by decide) (by decide)
  have HC1 := Lib.hid (sum_c _ _ _ _ (w.alloc (.cells #[.int .u8 97, .int .u8 98, .int .u8 99] 5 (3, 4))) L1 (fun e => by cases e) (by decide) (hK.below b1))
  rw [← hS.out] at HC1
  clear L1 hK
  go_enter Tryd.func9, Tryd.ntmps9
  have kc := kconv
  go_wp2_with fail
  refine HC1.out.mono ?_
  rintro e w2 ⟨rfl, b2⟩
  have HC2 := Lib.hid (text_c S hSd.out w2)
  rw [hT.out] at HC2
  have B2 : Below w.heap.size w w2 := b1.trans (b2.mono (by simp))
  clear b1 b2 HC1
  go_wp2_with fail
  refine HC2.out.mono ?_
  rintro e w3 ⟨rfl, b3⟩
  have z2 := B2.size
  have B3 : Below w.heap.size w w3 := B2.trans (b3.mono z2)
  clear B2 b3 HC2
  have z3 := B3.size
  obtain ⟨v1, hv1⟩ : ∃ v1, Hid (v1 = w3.alloc (.cells #[.int .u8 97] 5 (1, 2))) := ⟨_, rfl⟩
  have b4 : Below w3.heap.size w3 v1 := by rw [hv1.out]; exact (Below.refl _ _).alloc (Nat.le_refl _) _
  have L4 : Lst .u8 v1 (some ⟨w3.heap.size, 0, none⟩) 1 1 [97] := by rw [hv1.out]; exact lit_lst w3 [97] (1, 2) (by decide) (by decide)
  have hvs : v1.heap.size = w3.heap.size + 1 := by rw [hv1.out]; simp
  obtain ⟨v2, hv2⟩ : ∃ v2, Hid (v2 = v1.alloc (.cells #[.slice (some ⟨w3.heap.size, 0, none⟩) 1 1] 22)) := ⟨_, rfl⟩
  have b5 : Below v1.heap.size v1 v2 := by rw [hv2.out]; exact (Below.refl _ _).alloc (Nat.le_refl _) _
  have P5 : Parts v2 (some ⟨w3.heap.size + 1, 0, none⟩) 1 1 [[97]] := by
    refine ⟨rfl, Nat.le_refl _, by omega, fun _ => ⟨_, rfl⟩, fun i hi => ?_⟩
    obtain rfl : i = 0 := by omega
    refine ⟨some ⟨w3.heap.size, 0, none⟩, 1, 1, ?_, L4.below b5, fun e => by cases e⟩
    have := (Arr.new v1 22 [.slice (some ⟨w3.heap.size, 0, none⟩) 1 1]).cell 0
    rw [hvs] at this
    rw [pt_own, hv2.out, this]
    rfl
  have HC3 := Lib.hid (join_c _ _ _ _ v2 P5 (by omega) (by decide))
  have B5 : Below w.heap.size w v2 := (B3.trans (b4.mono z3)).trans (b5.mono (by rw [hvs]; omega))
  clear L4 P5 b4 b5 hvs B3
  go_wp2_with fail
  rw [show ((w3.alloc (.cells #[.int .u8 97] 5 (1, 2))).alloc (.cells #[.slice (some ⟨w3.heap.size, 0, none⟩) 1 1] 22)) = v2 by rw [hv2.out, hv1.out]]
  clear hv1 hv2
  refine HC3.out.mono ?_
  rintro e w6 ⟨a6, m6, c6, rfl, O6, b6⟩
  have hm : m6 = 5 := by rw [← O6.len]; rfl
  subst hm
  have B6 : Below w.heap.size w w6 := B5.trans (b6.mono B5.size)
  clear O6 b6 B5 HC3
  go_wp2_with fail
  go_ret
  exact ⟨rfl, B6⟩
end Go.Proofs.YtfmpccfoemgiiaaDoor

