/-
  ratio.normal, ratio.divisible, ratio.negate.
-/
import Derived.Test.YtmojcnlddfijjaaDoorRatBase
namespace Go.Proofs.YtmojcnlddfijjaaDoor
open Go.RowKit NatMath RatMath

set_option maxHeartbeats 3200000 in
set_option maxRecDepth 100000 in
theorem normal_c (s : Bool) (ao bo : Option Addr) (n c m d : Nat) (xs ys : List Int) (w : World) (h : Lst .u32 w ao n c xs) (k : Lst .u32 w bo m d ys) (hn : n ≤ 1000000) (hm : m ≤ 1000000) :
    Calls Tryd.prog 76 #[.agg #[.bool s, .slice ao n c, .slice bo m d]] w fun e w' => ∃ s' a n' c' b m' d', e = .returned (.agg #[.bool s', .slice a n' c', .slice b m' d']) ∧ s' = (nf ⟨s, val xs, val ys⟩).s ∧ Own 77 .u32 w.heap.size w' a n' c' (limbs (nf ⟨s, val xs, val ys⟩).p) ∧ Own 77 .u32 w.heap.size w' b m' d' (limbs (nf ⟨s, val xs, val ys⟩).q) ∧ n' ≤ n ∧ m' ≤ m + 1 ∧ Below w.heap.size w w' := by
  have HM := Lib.hid (fun w1 (hb : Below w.heap.size w w1) => make_c s ao bo n c m d xs ys w1 (h.below hb) (k.below hb) hn hm)
  clear h k
  go_enter Tryd.func76, Tryd.ntmps76
  go_wp2_with fail
  have bb : Below w.heap.size w ((w.alloc (.cells #[.bool s, .slice ao n c, .slice bo m d] 25)).alloc (.cells #[.bool false, .slice none 0 0, .slice none 0 0] 25)) := ((Below.refl w.heap.size w).alloc (Nat.le_refl _) _).alloc (by simp) _
  have kb := Blk.new (w.alloc (.cells #[.bool s, .slice ao n c, .slice bo m d] 25)) 25 #[.bool false, .slice none 0 0, .slice none 0 0]
  rw [show (w.alloc (.cells #[.bool s, .slice ao n c, .slice bo m d] 25)).heap.size = w.heap.size + 1 by simp] at kb
  obtain ⟨w1, hw1⟩ : ∃ w1, w1 = ((w.alloc (.cells #[.bool s, .slice ao n c, .slice bo m d] 25)).alloc (.cells #[.bool false, .slice none 0 0, .slice none 0 0] 25)) := ⟨_, rfl⟩
  rw [← hw1] at bb kb ⊢
  refine (HM.out w1 bb).mono ?_
  rintro e w2 ⟨s2, a2, n2, c2, b2, m2, d2, rfl, hs2, o2, o3, hn2, hm2, bb2⟩
  have K2 := kb.on bb2
  have BB := bb.trans (bb2.mono bb.size)
  have h2 := o2.hi (g := w.heap.size + 1) kb.lt
  have h3 := o3.hi (g := w.heap.size + 1) kb.lt
  have O2 := Lib.hid (o2.low bb.size)
  have O3 := Lib.hid (o3.low bb.size)
  obtain ⟨q0, q1, q2, q3, q4, q5⟩ := K2.store3 (.bool s2) (.slice a2 n2 c2)
  have HS := Lib.hid hs2
  clear hs2 hw1 kb bb bb2 o2 o3
  go_wp2_with fail
  have pbox := K2.put3 (.bool s2) (.slice a2 n2 c2) (.slice b2 m2 d2)
  have pbel := below_put3 BB (Nat.le_succ _) (.bool s2) (.slice a2 n2 c2) (.slice b2 m2 d2)
  have p2 := O2.out.put3 h2 (.bool s2) (.slice a2 n2 c2) (.slice b2 m2 d2)
  have p3 := O3.out.put3 h3 (.bool s2) (.slice a2 n2 c2) (.slice b2 m2 d2)
  obtain ⟨W, hW⟩ : ∃ W, W = put3 w2 (w.heap.size + 1) (.bool s2) (.slice a2 n2 c2) (.slice b2 m2 d2) := ⟨_, rfl⟩
  change bodyPost _ _ _ _ _ (put3 w2 (w.heap.size + 1) (.bool s2) (.slice a2 n2 c2) (.slice b2 m2 d2))
  rw [← hW] at pbox pbel p2 p3 ⊢
  obtain ⟨r0, r1, r2⟩ := pbox.cells3
  refine bodyPost_ret (v := .agg #[.bool s2, .slice a2 n2 c2, .slice b2 m2 d2]) (by simp [results, Tryd.results76, go_sem, r0, r1, r2]) rfl ?_
  exact ⟨s2, a2, n2, c2, b2, m2, d2, rfl, HS.out, p2, p3, hn2, hm2, pbel⟩

theorem negate_c (s : Bool) (ao bo : Option Addr) (n c m d : Nat) (w : World) :
    Calls Tryd.prog 43 #[.agg #[.bool s, .slice ao n c, .slice bo m d]] w fun e w' => e = .returned (.agg #[.bool !s, .slice ao n c, .slice bo m d]) ∧ Below w.heap.size w w' := by
  go_enter Tryd.func43, Tryd.ntmps43
  go_wp2_with fail
  exact bodyPost_ret (v := .agg #[.bool !s, .slice ao n c, .slice bo m d]) (by simp [results, Tryd.results43, go_sem]) rfl ⟨rfl, ((Below.refl _ _).alloc (Nat.le_refl _) _).alloc (by simp) _⟩

/-- A slice that came back lies in none of the elder blocks that the slice that went in kept clear of. -/
def Away (w : World) (n : Nat) (ao : Option Addr) (n' : Nat) (a : Option Addr) : Prop := ∀ g, g < w.heap.size → (∀ j, j < n → (pt ao j).block ≠ g) → ∀ i, i < n' → (pt a i).block ≠ g

set_option maxHeartbeats 3200000 in
set_option maxRecDepth 100000 in
theorem divisible_c (s : Bool) (ao bo : Option Addr) (n c m d : Nat) (xs ys : List Int) (w : World) (h : Lst .u32 w ao n c xs) (k : Lst .u32 w bo m d ys) (hn : n ≤ 1000000) (hm : m ≤ 1000000) :
    Calls Tryd.prog 72 #[.agg #[.bool s, .slice ao n c, .slice bo m d]] w fun e w' => ∃ s' a n' c' b m' d' xs' ys', e = .returned (.agg #[.bool s', .slice a n' c', .slice b m' d']) ∧ R.mk s' (val xs') (val ys') = dv ⟨s, val xs, val ys⟩ ∧ Lst .u32 w' a n' c' xs' ∧ Lst .u32 w' b m' d' ys' ∧ n' ≤ n ∧ m' ≤ m + 1 ∧ Away w n ao n' a ∧ Away w m bo m' b ∧ Below w.heap.size w w' := by
  have HZ := Lib.hid (fun w1 (hb : Below w.heap.size w w1) => isZero_c bo m d ys w1 (k.below hb) (by omega))
  have HM := Lib.hid (fun w1 (hb : Below w.heap.size w w1) => normal_c s ao bo n c m d xs ys w1 (h.below hb) (k.below hb) hn hm)
  have bb : Below w.heap.size w ((w.alloc (.cells #[.bool s, .slice ao n c, .slice bo m d] 25)).alloc (.cells #[.bool false, .slice none 0 0, .slice none 0 0] 25)) := ((Below.refl w.heap.size w).alloc (Nat.le_refl _) _).alloc (by simp) _
  by_cases hy : val ys = 0
  · have hd : decide (val ys = 0) = true := by simpa using hy
    rw [hd] at HZ
    have HN := Lib.hid (nf_zero (x := ⟨s, val xs, val ys⟩) (Or.inr hy))
    have HD : Hid (dv ⟨s, val xs, val ys⟩ = zero) := by show _ = _; unfold dv; rw [if_pos hy]
    have HK := Lib.hid hm
    clear hd hy h k
    go_enter Tryd.func72, Tryd.ntmps72
    go_wp2_with fail
    refine (HZ.out _ bb).mono ?_
    rintro e w' ⟨rfl, rfl⟩
    go_wp2_with fail
    have kb := Blk.new (w.alloc (.cells #[.bool s, .slice ao n c, .slice bo m d] 25)) 25 #[.bool false, .slice none 0 0, .slice none 0 0]
    rw [show (w.alloc (.cells #[.bool s, .slice ao n c, .slice bo m d] 25)).heap.size = w.heap.size + 1 by simp] at kb
    obtain ⟨w1, hw1⟩ : ∃ w1, w1 = ((w.alloc (.cells #[.bool s, .slice ao n c, .slice bo m d] 25)).alloc (.cells #[.bool false, .slice none 0 0, .slice none 0 0] 25)) := ⟨_, rfl⟩
    rw [← hw1] at bb kb ⊢
    refine (HM.out w1 bb).mono ?_
    rintro e w2 ⟨s2, a2, n2, c2, b2, m2, d2, rfl, hs2, o2, o3, hn2, hm2, bb2⟩
    have K2 := kb.on bb2
    have BB := bb.trans (bb2.mono bb.size)
    have h2 := o2.hi (g := w.heap.size + 1) kb.lt
    have h3 := o3.hi (g := w.heap.size + 1) kb.lt
    have O2 := Lib.hid (o2.low bb.size)
    have O3 := Lib.hid (o3.low bb.size)
    obtain ⟨q0, q1, q2, q3, q4, q5⟩ := K2.store3 (.bool s2) (.slice a2 n2 c2)
    rw [HN.out] at hs2
    have HS := Lib.hid hs2
    clear hs2 hw1 kb bb bb2 o2 o3
    go_wp2_with fail
    have pbox := K2.put3 (.bool s2) (.slice a2 n2 c2) (.slice b2 m2 d2)
    have pbel := below_put3 BB (Nat.le_succ _) (.bool s2) (.slice a2 n2 c2) (.slice b2 m2 d2)
    have p2 := O2.out.put3 h2 (.bool s2) (.slice a2 n2 c2) (.slice b2 m2 d2)
    have p3 := O3.out.put3 h3 (.bool s2) (.slice a2 n2 c2) (.slice b2 m2 d2)
    obtain ⟨W, hW⟩ : ∃ W, W = put3 w2 (w.heap.size + 1) (.bool s2) (.slice a2 n2 c2) (.slice b2 m2 d2) := ⟨_, rfl⟩
    change bodyPost _ _ _ _ _ (put3 w2 (w.heap.size + 1) (.bool s2) (.slice a2 n2 c2) (.slice b2 m2 d2))
    rw [← hW] at pbox pbel p2 p3 ⊢
    obtain ⟨r0, r1, r2⟩ := pbox.cells3
    refine bodyPost_ret (v := .agg #[.bool s2, .slice a2 n2 c2, .slice b2 m2 d2]) (by simp [results, Tryd.results72, go_sem, r0, r1, r2]) rfl ?_
    refine ⟨s2, a2, n2, c2, b2, m2, d2, _, _, rfl, ?_, p2.lst, p3.lst, hn2, hm2, fun g hg _ i hi => by have := p2.base hi; omega, fun g hg _ i hi => by have := p3.base hi; omega, pbel⟩
    rw [val_limbs, val_limbs, HS.out, HN.out, HD.out]
  · have hd : decide (val ys = 0) = false := by simpa using hy
    rw [hd] at HZ
    have HD : Hid (dv ⟨s, val xs, val ys⟩ = ⟨s, val xs, val ys⟩) := by show _ = _; unfold dv; rw [if_neg hy]
    have H := Lib.hid h; have K := Lib.hid k
    clear hd hy h k HM
    go_enter Tryd.func72, Tryd.ntmps72
    go_wp2_with fail
    refine (HZ.out _ bb).mono ?_
    rintro e w' ⟨rfl, rfl⟩
    clear bb
    go_wp2_with fail
    refine bodyPost_ret (v := .agg #[.bool s, .slice ao n c, .slice bo m d]) (by simp [results, Tryd.results72, go_sem]) rfl ?_
    have b2 : Below w.heap.size w ((w.alloc (.cells #[.bool s, .slice ao n c, .slice bo m d] 25)).alloc (.cells #[.bool s, .slice ao n c, .slice bo m d] 25)) := ((Below.refl w.heap.size w).alloc (Nat.le_refl _) _).alloc (by simp) _
    exact ⟨s, ao, n, c, bo, m, d, xs, ys, rfl, HD.out.symm, H.out.below b2, K.out.below b2, Nat.le_refl _, by omega, fun g _ h => h, fun g _ h => h, b2⟩
end Go.Proofs.YtmojcnlddfijjaaDoor
