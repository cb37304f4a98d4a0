/-
  electionref01.Gcd.
-/
import Derived.Test.YtmojcnlddfijjaaGreatDoorNatRefDiv
import Derived.Test.YtmojcnlddfijjaaGreatDoorNatHelp
import Derived.Deep.LoopGhost
namespace Go.Proofs.YtmojcnlddfijjaaGreatDoor
open Go.RowKit NatMath

theorem bitsN_len0 {v : Nat} (h : (bitsN v).length = 0) : v = 0 := by
  rcases Nat.eq_zero_or_pos v with h0 | h0
  · exact h0
  · rw [bitsN_pos (by omega)] at h; simp at h

set_option maxHeartbeats 1600000 in
set_option maxRecDepth 100000 in
theorem gcdT_c (ao bo : Option Addr) (n c m d u v : Nat) (w : World) (h : LstB w ao n c (bitsN u)) (k : LstB w bo m d (bitsN v)) (hn : n ≤ 1048576) (hm : m ≤ 1048576) :
    Calls Tryz.prog 45 #[.slice ao n c, .slice bo m d] w fun e w' => ∃ a1 n1 c1, e = .returned (.slice a1 n1 c1) ∧ OwnT w.heap.size w' a1 n1 c1 (bitsN (Nat.gcd u v)) ∧ Below w.heap.size w w' := by
  have hr1 := h.room
  have hc1 := h.cap
  go_enter Tryz.func45, Tryz.ntmps45
  go_wp2_with fail
  go_loopg [0, 1] v (fun y s t wr => ∃ (x l f l2 f2 : Nat) (a b : Option Addr), l ≤ 1048576 ∧ l2 ≤ 1048576 ∧ s = .slice a l f ∧ t = .slice b l2 f2 ∧ LstB wr a l f (bitsN x) ∧ LstB wr b l2 f2 (bitsN y) ∧ Hid (Nat.gcd x y = Nat.gcd u v) ∧ Below w.heap.size w wr)
  case atStart => exact ⟨u, n, c, m, d, ao, bo, hn, hm, rfl, rfl, h, k, rfl, Below.refl _ _⟩
  case round =>
    obtain ⟨x, l, f, l2, f2, a, b, hl, hl2, rfl, rfl, ha, hb, hg, hw⟩ := hrel
    have hr3 := ha.room; have hc3 := ha.cap; have hr4 := hb.room; have hc4 := hb.cap
    have hlen2 := Lib.hid hb.len
    by_cases h0 : l2 = 0
    · subst h0
      have hy : gk = 0 := bitsN_len0 hlen2.out
      subst hy
      have e := hg.out
      rw [Nat.gcd_zero_right] at e
      have ht := trimT_c _ _ _ _ wr ha (by omega)
      rw [bval_bitsN, e] at ht
      have HTR := Lib.hid ht
      have HW := Lib.hid hw
      clear ht ha hb hw e
      go_wp2_with fail
      refine HTR.out.mono ?_
      rintro e w2 ⟨a2, n2, c2, rfl, o2, b2⟩
      go_wp2_with fail
      go_ret
      exact ⟨a2, n2, c2, rfl, o2.low HW.out.size, belowOn HW.out b2 HW.out.size⟩
    · have hpos : 0 < l2 := by omega
      have hy : gk ≠ 0 := by
        intro h
        subst h
        have := hlen2.out
        rw [bitsN_zero] at this
        exact h0 this.symm
      have hd := divT_c _ _ _ _ _ _ _ _ wr ha hb (by omega) (by omega) (by rw [bval_bitsN]; omega)
      rw [bval_bitsN, bval_bitsN] at hd
      have HD := Lib.hid hd
      have HB := Lib.hid hb
      have HW := Lib.hid hw
      have hg2 : Hid (Nat.gcd gk (x % gk) = Nat.gcd u v) := by
        show Nat.gcd gk (x % gk) = Nat.gcd u v
        rw [← hg.out, Nat.gcd_comm x gk, Nat.gcd_rec gk x, Nat.gcd_comm]
      have hlt := Nat.mod_lt x (Nat.pos_of_ne_zero hy)
      have HLT := Lib.hid hlt
      clear hd ha hb hw hlt
      go_wp2_with fail
      refine HD.out.mono ?_
      rintro e w2 ⟨a1, n1, c1, a2, n2, c2, rfl, o1, o2, b2⟩
      have hn2 : n2 ≤ l2 := by
        have h1 := bval_lt (bitsN gk)
        rw [bval_bitsN, hlen2.out] at h1
        exact o2.len ▸ bitsN_length (x % gk) l2 (by have := HLT.out; omega)
      have HO2 := Lib.hid o2.lst
      have HB2 := Lib.hid (HB.out.below b2)
      have HW2 := Lib.hid (belowOn HW.out b2 HW.out.size)
      clear o1 o2 b2 HD
      go_wp2_with fail
      go_roundg (x % gk)
      case measure => exact HLT.out
      case rel => exact ⟨gk, l2, f2, n2, c2, b, a2, hl2, by omega, rfl, rfl, HB2.out, HO2.out, hg2, HW2.out⟩
end Go.Proofs.YtmojcnlddfijjaaGreatDoor
