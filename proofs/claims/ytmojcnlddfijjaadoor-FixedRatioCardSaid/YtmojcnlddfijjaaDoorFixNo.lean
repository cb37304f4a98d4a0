/-
  fixed.Parse and fixed.Text out of range; fixed.Ratio; electionref03.May.
-/
import Derived.Test.YtmojcnlddfijjaaDoorFixBase
import Derived.Test.YtmojcnlddfijjaaDoorRatBase
namespace Go.Proofs.YtmojcnlddfijjaaDoor
open Go.RowKit NatMath RatMath

theorem fparse_nod_c (s : ByteArray) (d : Int) (w : World) (hd : d < 0 ∨ 6 < d) :
    Calls Tryd.prog 34 #[.string s, .int .i64 d] w fun e w' => e = .returned (.tuple #[.slice none 0 0, .bool false]) ∧ w = w' := by
  have HS := Lib.hid (scale_no_c d w hd)
  clear hd
  go_enter Tryd.func34, Tryd.ntmps34
  go_wp2_with fail
  refine HS.out.mono ?_
  rintro e w1 ⟨rfl, rfl⟩
  go_wp2_with fail
  go_ret2
  exact ⟨rfl, rfl⟩

theorem ftext_no_c (ao : Option Addr) (n c : Nat) (d : Int) (w : World) (hd : d < 0 ∨ 6 < d) :
    Calls Tryd.prog 33 #[.slice ao n c, .int .i64 d] w fun e w' => e = .returned (.string ⟨#[]⟩) ∧ w = w' := by
  have HS := Lib.hid (scale_no_c d w hd)
  clear hd
  go_enter Tryd.func33, Tryd.ntmps33
  go_wp2_with fail
  refine HS.out.mono ?_
  rintro e w1 ⟨rfl, rfl⟩
  go_wp2_with fail
  go_ret
  exact ⟨rfl, rfl⟩

theorem may_yes_c (d : Int) (w : World) (h0 : 0 ≤ d) (h1 : d ≤ 6) :
    Calls Tryd.prog 39 #[.int .i64 d] w fun e w' => e = .returned (.bool true) ∧ w = w' := by
  have e0 : decide (0 ≤ d) = true := by simpa using h0
  have e1 : decide (d ≤ 6) = true := by simpa using h1
  go_enter Tryd.func39, Tryd.ntmps39
  go_wp2_with fail
  go_ret
  exact ⟨rfl, rfl⟩
theorem may_no_c (d : Int) (w : World) (hd : d < 0 ∨ 6 < d) :
    Calls Tryd.prog 39 #[.int .i64 d] w fun e w' => e = .returned (.bool false) ∧ w = w' := by
  by_cases h : d < 0
  · have e0 : decide (0 ≤ d) = false := by simpa using h
    clear hd h
    go_enter Tryd.func39, Tryd.ntmps39
    go_wp2_with fail
    go_ret
    exact ⟨rfl, rfl⟩
  · have e0 : decide (0 ≤ d) = true := by simp; omega
    have e1 : decide (d ≤ 6) = false := by simp; omega
    clear hd h
    go_enter Tryd.func39, Tryd.ntmps39
    go_wp2_with fail
    go_ret
    exact ⟨rfl, rfl⟩

set_option maxHeartbeats 1600000 in
set_option maxRecDepth 100000 in
theorem fratio_c (ao : Option Addr) (n c : Nat) (xs : List Int) (D : Nat) (w : World) (h : Lst .u32 w ao n c xs) (hn : n ≤ 1000000) (hD : D ≤ 6) :
    Calls Tryd.prog 27 #[.slice ao n c, .int .i64 D] w fun e w' => ∃ s' a n' c' b m' d', e = .returned (.agg #[.bool s', .slice a n' c', .slice b m' d']) ∧ s' = (nf ⟨false, val xs, 10 ^ D⟩).s ∧ Own 77 .u32 w.heap.size w' a n' c' (limbs (nf ⟨false, val xs, 10 ^ D⟩).p) ∧ Own 77 .u32 w.heap.size w' b m' d' (limbs (nf ⟨false, val xs, 10 ^ D⟩).q) ∧ n' ≤ n ∧ m' ≤ 63 ∧ Below w.heap.size w w' := by
  obtain ⟨z, hz⟩ : ∃ z, Hid (z = nf ⟨false, val xs, 10 ^ D⟩) := ⟨_, rfl⟩
  have HM := fun (w1 : World) (a1 : Option Addr) (n1 c1 : Nat) (hb : Below w.heap.size w w1) (k : Lst .u32 w1 a1 n1 c1 (limbs (10 ^ D))) (hm : n1 ≤ 62) => make_c false ao a1 n c n1 c1 xs _ w1 (h.below hb) k hn (by omega)
  simp only [val_limbs] at HM
  rw [← hz.out] at HM ⊢
  have HM := Lib.hid HM
  have HS := Lib.hid (fun w1 => scale_c D w1 hD)
  have kZ := Blk.new w 25 #[.bool false, .slice none 0 0, .slice none 0 0]
  have bb := (Below.refl w.heap.size w).alloc (Nat.le_refl _) (.cells #[.bool false, .slice none 0 0, .slice none 0 0] 25)
  obtain ⟨W0, hW0⟩ : ∃ W0, W0 = w.alloc (.cells #[.bool false, .slice none 0 0, .slice none 0 0] 25) := ⟨_, rfl⟩
  rw [← hW0] at kZ bb
  clear h hD
  go_enter Tryd.func27, Tryd.ntmps27
  go_wp2_with fail
  rw [← hW0]
  clear hW0
  refine (HS.out W0).mono ?_
  rintro e w1 ⟨a1, n1, c1, hn1, rfl, o1, b1⟩
  have k1 := kZ.on b1
  have B1 := bb.trans (b1.mono bb.size)
  have HM1 := Lib.hid (HM.out w1 a1 n1 c1 B1 o1.lst hn1)
  clear HS HM o1 b1 kZ bb
  go_wp2_with fail
  refine HM1.out.mono ?_
  rintro e w2 ⟨s2, a2, n2, c2, b2, m2, d2, rfl, hs2, o2, o3, hn2, hm2, bb2⟩
  have K2 := k1.on bb2
  have BB := B1.trans (bb2.mono B1.size)
  have h2 := o2.hi (g := w.heap.size) k1.lt
  have h3 := o3.hi (g := w.heap.size) k1.lt
  have O2 := Lib.hid (o2.low B1.size)
  have O3 := Lib.hid (o3.low B1.size)
  obtain ⟨q0, q1, q2, q3, q4, q5⟩ := K2.store3 (.bool s2) (.slice a2 n2 c2)
  have HS2 := Lib.hid hs2
  clear hs2 k1 B1 bb2 o2 o3
  go_wp2_with fail
  have pbox := K2.put3 (.bool s2) (.slice a2 n2 c2) (.slice b2 m2 d2)
  have pbel := below_put3 BB (Nat.le_refl _) (.bool s2) (.slice a2 n2 c2) (.slice b2 m2 d2)
  have p2 := O2.out.put3 h2 (.bool s2) (.slice a2 n2 c2) (.slice b2 m2 d2)
  have p3 := O3.out.put3 h3 (.bool s2) (.slice a2 n2 c2) (.slice b2 m2 d2)
  obtain ⟨W, hW⟩ : ∃ W, W = put3 w2 w.heap.size (.bool s2) (.slice a2 n2 c2) (.slice b2 m2 d2) := ⟨_, rfl⟩
  change bodyPost _ _ _ _ _ (put3 w2 w.heap.size (.bool s2) (.slice a2 n2 c2) (.slice b2 m2 d2))
  rw [← hW] at pbox pbel p2 p3 ⊢
  obtain ⟨r0, r1, r2⟩ := pbox.cells3
  refine bodyPost_ret (v := .agg #[.bool s2, .slice a2 n2 c2, .slice b2 m2 d2]) (by simp [results, Tryd.results27, go_sem, r0, r1, r2]) rfl ?_
  exact ⟨s2, a2, n2, c2, b2, m2, d2, rfl, HS2.out, p2, p3, hn2, by omega, pbel⟩

theorem fratio_no_c (ao : Option Addr) (n c : Nat) (d : Int) (w : World) (hd : d < 0 ∨ 6 < d) :
    Calls Tryd.prog 27 #[.slice ao n c, .int .i64 d] w fun e w' => e = .returned (.agg #[.bool false, .slice none 0 0, .slice none 0 0]) ∧ Below w.heap.size w w' := by
  have HS := Lib.hid (fun w1 => scale_no_c d w1 hd)
  have kZ := Blk.new w 25 #[.bool false, .slice none 0 0, .slice none 0 0]
  have bb := (Below.refl w.heap.size w).alloc (Nat.le_refl _) (.cells #[.bool false, .slice none 0 0, .slice none 0 0] 25)
  obtain ⟨W0, hW0⟩ : ∃ W0, W0 = w.alloc (.cells #[.bool false, .slice none 0 0, .slice none 0 0] 25) := ⟨_, rfl⟩
  rw [← hW0] at kZ bb
  clear hd
  go_enter Tryd.func27, Tryd.ntmps27
  go_wp2_with fail
  rw [← hW0]
  clear hW0
  refine (HS.out W0).mono ?_
  rintro e w1 ⟨rfl, rfl⟩
  obtain ⟨q0, q1, q2, q3, q4, q5⟩ := kZ.store3 (.bool false) (.slice none 0 0)
  go_wp2_with fail
  have pbox := kZ.put3 (.bool false) (.slice none 0 0) (.slice none 0 0)
  have pbel := below_put3 bb (Nat.le_refl _) (.bool false) (.slice none 0 0) (.slice none 0 0)
  obtain ⟨W, hW⟩ : ∃ W, W = put3 W0 w.heap.size (.bool false) (.slice none 0 0) (.slice none 0 0) := ⟨_, rfl⟩
  change bodyPost _ _ _ _ _ (put3 W0 w.heap.size (.bool false) (.slice none 0 0) (.slice none 0 0))
  rw [← hW] at pbox pbel ⊢
  obtain ⟨r0, r1, r2⟩ := pbox.cells3
  refine bodyPost_ret (v := .agg #[.bool false, .slice none 0 0, .slice none 0 0]) (by simp [results, Tryd.results27, go_sem, r0, r1, r2]) rfl ?_
  exact ⟨rfl, pbel⟩
end Go.Proofs.YtmojcnlddfijjaaDoor
