/-
  nat.Gcd.
-/
import Derived.Test.YtmojcnlddfijjaaGreatDoorNatDiv
import Derived.Test.YtmojcnlddfijjaaGreatDoorNatGcd
import Derived.Test.YtmojcnlddfijjaaGreatDoorNatUint
import Derived.Deep.LoopGhost
namespace Go.Proofs.YtmojcnlddfijjaaGreatDoor
open Go.RowKit NatMath

theorem limbs_len0 {v : Nat} (h : (limbs v).length = 0) : v = 0 := by
  rcases Nat.eq_zero_or_pos v with h0 | h0
  · exact h0
  · rw [limbs_pos (by omega)] at h; simp at h

set_option maxHeartbeats 3200000 in
set_option maxRecDepth 100000 in
theorem gcd_c (ao bo : Option Addr) (n c m d : Nat) (xs ys : List Int) (w : World) (h : Lst .u32 w ao n c xs) (k : Lst .u32 w bo m d ys) (hn : n ≤ 1073741820) (hm : m ≤ 1073741820) :
    Calls Tryz.prog 57 #[.slice ao n c, .slice bo m d] w fun e w' => ∃ a1 n1 c1, e = .returned (.slice a1 n1 c1) ∧ Own 66 .u32 w.heap.size w' a1 n1 c1 (limbs (Nat.gcd (val xs) (val ys))) ∧ Below w.heap.size w w' := by
  obtain ⟨A, hA⟩ : ∃ A, Hid (A = val xs) := ⟨_, rfl⟩
  obtain ⟨V, hV⟩ : ∃ V, Hid (V = val ys) := ⟨_, rfl⟩
  have HA := norm_c ao n c xs w h (by omega)
  have HB := fun (w1 : World) (hb : Below w.heap.size w w1) => norm_c bo m d ys w1 (k.below hb) (by omega)
  rw [← hA.out, ← hV.out]
  obtain ⟨G, hG⟩ : ∃ G, Hid (G = Nat.gcd A V) := ⟨_, rfl⟩
  rw [← hG.out]
  rw [← hA.out] at HA
  rw [← hV.out] at HB
  have HA := Lib.hid HA
  have HB := Lib.hid HB
  clear h k
  go_enter Tryz.func57, Tryz.ntmps57
  go_wp2_with fail
  refine HA.out.mono ?_
  rintro e w1 ⟨a1, n1, c1, hn1, rfl, o1, b1⟩
  go_wp2_with fail
  refine (HB.out w1 b1).mono ?_
  rintro e w2 ⟨a2, n2, c2, hn2, rfl, o2, b2⟩
  have B2 : Below w.heap.size w w2 := b1.trans (b2.mono b1.size)
  have o1' := o1.kept b2
  have o2' : Own 66 .u32 w.heap.size w2 a2 n2 c2 (limbs V) := o2.low b1.size
  clear o1 o2 b1 b2 HA HB
  have hc1 := o1'.lst.cap
  have hr1 := o1'.lst.room
  have hc2 := o2'.lst.cap
  have hr2 := o2'.lst.room
  go_wp2_with fail
  go_loopg [0, 1] V (fun y s t wr => ∃ (x l f l2 f2 : Nat) (a b : Option Addr), l ≤ 1073741820 ∧ l2 ≤ 1073741820 ∧ s = .slice a l f ∧ t = .slice b l2 f2 ∧ Own 66 .u32 w.heap.size wr a l f (limbs x) ∧ Own 66 .u32 w.heap.size wr b l2 f2 (limbs y) ∧ Hid (Nat.gcd x y = G) ∧ Below w.heap.size w wr)
  case atStart => exact ⟨A, n1, c1, n2, c2, a1, a2, by omega, by omega, rfl, rfl, o1', o2', hG.out.symm, B2⟩
  case round =>
    obtain ⟨x, l, f, l2, f2, a, b, hl, hl2, rfl, rfl, oa, ob, hg, hw⟩ := hrel
    clear o1' o2' B2
    have hr3 := oa.lst.room; have hc3 := oa.lst.cap; have hr4 := ob.lst.room; have hc4 := ob.lst.cap
    have hlen2 := Lib.hid ob.len
    have hlen1 := Lib.hid oa.len
    by_cases h0 : l2 = 0
    · subst h0
      have hy : gk = 0 := limbs_len0 hlen2.out
      subst hy
      have e := hg.out
      rw [Nat.gcd_zero_right] at e
      have E := Lib.hid e
      clear e
      go_wp2_with fail
      go_ret
      exact ⟨a, l, f, rfl, by rw [← E.out]; exact oa, hw⟩
    · have hpos : 0 < l2 := by omega
      have hy : gk ≠ 0 := by
        intro h
        subst h
        have := hlen2.out
        rw [limbs_zero] at this
        exact h0 this.symm
      have hg2 : Hid (Nat.gcd gk (x % gk) = G) := by
        show Nat.gcd gk (x % gk) = G
        rw [← hg.out, Nat.gcd_comm x gk, Nat.gcd_rec gk x, Nat.gcd_comm]
      have hlt := Nat.mod_lt x (Nat.pos_of_ne_zero hy)
      have HLT := Lib.hid hlt
      obtain ⟨p, hp⟩ : ∃ p, p = decide (val (limbs x) < 18446744073709551616) := ⟨_, rfl⟩
      obtain ⟨r, hr⟩ : ∃ r, r = decide (val (limbs gk) < 18446744073709551616) := ⟨_, rfl⟩
      have HX := Lib.hid (uint64_c a l f (limbs x) wr oa.lst p hp)
      have HY := Lib.hid (uint64_c b l2 f2 (limbs gk) wr ob.lst r hr)
      rw [val_limbs] at HX HY hp hr
      have hd := div_c a b l f l2 f2 (limbs x) (limbs gk) wr oa.lst ob.lst hl (by rw [val_limbs]; exact hy)
      rw [val_limbs, val_limbs] at hd
      have HD := Lib.hid hd
      have OB := Lib.hid ob
      have HW := Lib.hid hw
      clear hlt hd oa ob hw
      cases p with
      | true =>
        have hx64 : x < 18446744073709551616 := by simpa using hp.symm
        cases r with
        | true =>
          have hy64 : gk < 18446744073709551616 := by simpa using hr.symm
          have HG := Lib.hid (gcdWords_c x gk wr hx64 hy64)
          have hgb : Nat.gcd x gk ≤ 18446744073709551615 := by
            have := Nat.gcd_le_right x (Nat.pos_of_ne_zero hy)
            omega
          rw [hg.out] at HG hgb
          clear hp hr hx64 hy64
          go_wp2_with fail
          refine HX.out.mono ?_
          rintro e w' ⟨rfl, rfl⟩
          go_wp2_with fail
          refine HY.out.mono ?_
          rintro e w' ⟨rfl, rfl⟩
          go_wp2_with fail
          refine HG.out.mono ?_
          rintro e w4 ⟨rfl, b4⟩
          go_wp2_with fail
          refine (of_c (G : Int) _ (by omega) (by omega)).mono ?_
          rintro e w5 ⟨a5, n5, c5, _, rfl, o5, b5⟩
          go_wp2_with fail
          go_ret
          rw [Int.toNat_natCast] at o5
          have B4 : Below w.heap.size w w4 := HW.out.trans (b4.mono HW.out.size)
          exact ⟨a5, n5, c5, rfl, o5.low B4.size, B4.trans (b5.mono B4.size)⟩
        | false =>
          clear hp hr hx64
          go_wp2_with fail
          refine HX.out.mono ?_
          rintro e w' ⟨rfl, rfl⟩
          go_wp2_with fail
          refine HY.out.mono ?_
          rintro e w' ⟨rfl, rfl⟩
          go_wp2_with fail
          refine HD.out.mono ?_
          rintro e w2 ⟨a1, n1, c1, b1, m1, d1, rfl, o1, o2, b2⟩
          have hn2 : m1 ≤ l2 := by
            rw [← o2.len, ← hlen2.out]
            exact limbs_len_mono (Nat.le_of_lt HLT.out)
          have OB2 := Lib.hid (OB.out.kept b2)
          have O2 := Lib.hid (o2.low HW.out.size)
          have HW2 := Lib.hid (HW.out.trans (b2.mono HW.out.size))
          clear o1 o2 b2 HD
          go_wp2_with fail
          go_roundg (x % gk)
          case measure => exact HLT.out
          case rel => exact ⟨gk, l2, f2, m1, d1, b, b1, hl2, by omega, rfl, rfl, OB2.out, O2.out, hg2, HW2.out⟩
      | false =>
        clear hp hr HY
        go_wp2_with fail
        refine HX.out.mono ?_
        rintro e w' ⟨rfl, rfl⟩
        go_wp2_with fail
        refine HD.out.mono ?_
        rintro e w2 ⟨a1, n1, c1, b1, m1, d1, rfl, o1, o2, b2⟩
        have hn2 : m1 ≤ l2 := by
          rw [← o2.len, ← hlen2.out]
          exact limbs_len_mono (Nat.le_of_lt HLT.out)
        have OB2 := Lib.hid (OB.out.kept b2)
        have O2 := Lib.hid (o2.low HW.out.size)
        have HW2 := Lib.hid (HW.out.trans (b2.mono HW.out.size))
        clear o1 o2 b2 HD
        go_wp2_with fail
        go_roundg (x % gk)
        case measure => exact HLT.out
        case rel => exact ⟨gk, l2, f2, m1, d1, b, b1, hl2, by omega, rfl, rfl, OB2.out, O2.out, hg2, HW2.out⟩
end Go.Proofs.YtmojcnlddfijjaaGreatDoor
