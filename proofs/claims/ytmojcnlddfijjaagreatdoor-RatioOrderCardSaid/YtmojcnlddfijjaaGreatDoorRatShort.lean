/-
  electionlaw02.Short.
-/
import Derived.Test.YtmojcnlddfijjaaGreatDoorRatBase
import Derived.Test.YtmojcnlddfijjaaGreatDoorNatCmp
import Derived.Deep.RegionHeld3
namespace Go.Proofs.YtmojcnlddfijjaaGreatDoor
open Go.RowKit NatMath RatMath

theorem Lst.retake {k : IntKind} {w W : World} {ao : Option Addr} {n c n' m : Nat} {xs : List Int} (h : Lst k w ao n c xs) (h' : Lst k W ao n' c (xs.take m)) : Lst k w ao n' c (xs.take m) := by
  have e := h'.len
  have hl := h.len
  rw [List.length_take] at e
  have ht := h.take (m := n') (by omega)
  have e2 : xs.take n' = xs.take m := by
    rw [List.take_eq_take_iff]
    omega
  rw [e2] at ht
  exact ht

set_option maxHeartbeats 3200000 in
set_option maxRecDepth 100000 in
theorem short2_c (s : Bool) (ao bo : Option Addr) (n c m d : Nat) (xs ys : List Int) (k : Nat) (w : World) (h : Lst .u32 w ao n c xs) (k' : Lst .u32 w bo m d ys) :
    Calls Tryz.prog 6 #[.agg #[.bool s, .slice ao n c, .slice bo m d], .int .i64 k] w fun e w' => ∃ n' m', e = .returned (.agg #[.bool s, .slice ao n' c, .slice bo m' d]) ∧ n' ≤ k ∧ m' ≤ k ∧ Lst .u32 w ao n' c (xs.take k) ∧ Lst .u32 w bo m' d (ys.take k) ∧ Below w.heap.size w w' := by
  have H := Lib.hid h; have K := Lib.hid k'
  clear h k'
  go_enter Tryz.func6, Tryz.ntmps6
  go_wp2_with fail
  obtain ⟨W0, hW0, kA, kZ, bb⟩ := boxed2 w 25 #[.bool s, .slice ao n c, .slice bo m d] #[.bool false, .slice none 0 0, .slice none 0 0]
  rw [← hW0]
  clear hW0
  obtain ⟨g2, hg2⟩ : ∃ g2, g2 = w.heap.size + 1 := ⟨_, rfl⟩
  rw [← hg2] at kZ ⊢
  have hge : w.heap.size ≤ g2 := by omega
  have hne0 : w.heap.size ≠ g2 := by omega
  have hne2 : g2 ≠ w.heap.size := by omega
  clear hg2
  have DA : Hid (Blk W0.drew w.heap.size 25 #[.bool s, .slice ao n c, .slice bo m d]) := kA
  have DZ : Hid (Blk W0.drew g2 25 #[.bool false, .slice none 0 0, .slice none 0 0]) := kZ
  have DB : Hid (Below w.heap.size w W0.drew) := bb.drew
  obtain ⟨y0, y1, y2⟩ := kA.cells3
  clear kA kZ bb
  go_region_held3 (fun w' => w'.cell? ⟨w.heap.size, 0, none⟩ = some (.bool s) ∧ w'.cell? ⟨w.heap.size, 1, none⟩ = some (.slice ao n c) ∧ w'.cell? ⟨w.heap.size, 2, none⟩ = some (.slice bo m d)) (go_keep) (first
    | (go_at_call_of 24 (Value.slice ao n c); refine (short_c ao n c xs k W0.drew (H.out.below DB.out)).mono ?_; rintro e v1 ⟨hw, n1, hn1, rfl, o1⟩; have A1 := hw ▸ DA.out; have Z1 := hw ▸ DZ.out; have BB1 := hw ▸ DB.out; clear hw; obtain ⟨z0, z1, z2⟩ := A1.cells3)
    | (go_at_call 24; refine (short_c bo m d ys k v1 (K.out.below BB1)).mono ?_; rintro e v2 ⟨hw, m1, hm1, rfl, o2⟩; have A2 := hw ▸ A1; have Z2 := hw ▸ Z1; have BB2 := hw ▸ BB1; clear hw; obtain ⟨k0, k1, k2⟩ := A2.cells3; obtain ⟨q0, q1, q2, q3, q4, q5⟩ := Z2.store3 (.bool s) (.slice ao n1 c)))
  go_wp2_with fail
  have pbox := Z2.put3 (.bool s) (.slice ao n1 c) (.slice bo m1 d)
  have pbel := below_put3 BB2 hge (.bool s) (.slice ao n1 c) (.slice bo m1 d)
  obtain ⟨W, hW⟩ : ∃ W, W = put3 v2 g2 (.bool s) (.slice ao n1 c) (.slice bo m1 d) := ⟨_, rfl⟩
  change bodyPost _ _ _ _ _ (put3 v2 g2 (.bool s) (.slice ao n1 c) (.slice bo m1 d))
  rw [← hW] at pbox pbel ⊢
  obtain ⟨r0, r1, r2⟩ := pbox.cells3
  refine bodyPost_ret (v := .agg #[.bool s, .slice ao n1 c, .slice bo m1 d]) (by simp [results, Tryz.results6, go_sem, r0, r1, r2]) rfl ?_
  exact ⟨n1, m1, rfl, hn1, hm1, H.out.retake o1, K.out.retake o2, pbel⟩
end Go.Proofs.YtmojcnlddfijjaaGreatDoor
