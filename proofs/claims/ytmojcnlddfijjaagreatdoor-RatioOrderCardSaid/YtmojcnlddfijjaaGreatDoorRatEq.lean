/-
  electionref02.Eq.
-/
import Derived.Test.YtmojcnlddfijjaaGreatDoorRatBase
import Derived.Test.YtmojcnlddfijjaaGreatDoorNatCmp
import Derived.Deep.RegionHeld3
namespace Go.Proofs.YtmojcnlddfijjaaGreatDoor
open Go.RowKit NatMath RatMath

set_option maxHeartbeats 3200000 in
set_option maxRecDepth 100000 in
theorem eq2_c (s1 s2 : Bool) (a1 b1 a2 b2 : Option Addr) (n1 c1 m1 d1 n2 c2 m2 d2 : Nat) (xs1 ys1 xs2 ys2 : List Int) (w : World)
    (h1 : Lst .u32 w a1 n1 c1 xs1) (k1 : Lst .u32 w b1 m1 d1 ys1) (h2 : Lst .u32 w a2 n2 c2 xs2) (k2 : Lst .u32 w b2 m2 d2 ys2) :
    Calls Tryz.prog 15 #[.agg #[.bool s1, .slice a1 n1 c1, .slice b1 m1 d1], .agg #[.bool s2, .slice a2 n2 c2, .slice b2 m2 d2]] w fun e w' => e = .returned (.bool (decide (s1 = s2 ∧ xs1 = xs2 ∧ ys1 = ys2))) ∧ Below w.heap.size w w' := by
  have H1 := Lib.hid (fun w1 (hb : Below w.heap.size w w1) => eq_c a1 a2 n1 c1 n2 c2 xs1 xs2 w1 (h1.below hb) (h2.below hb))
  have H2 := Lib.hid (fun w1 (hb : Below w.heap.size w w1) => eq_c b1 b2 m1 d1 m2 d2 ys1 ys2 w1 (k1.below hb) (k2.below hb))
  clear h1 k1 h2 k2
  by_cases hs : s1 = s2
  · subst hs
    have hbb : (s1 == s1) = true := by simp
    by_cases hx : xs1 = xs2
    · have hd1 : decide (xs1 = xs2) = true := by simpa using hx
      obtain ⟨r, hr⟩ : ∃ r, Hid (r = decide (s1 = s1 ∧ xs1 = xs2 ∧ ys1 = ys2)) := ⟨_, rfl⟩
      have hry : Hid (r = decide (ys1 = ys2)) := by show _ = _; rw [hr.out]; simp [hx]
      rw [← hr.out]
      rw [hd1] at H1
      rw [← hry.out] at H2
      clear hx hd1
      go_enter Tryz.func15, Tryz.ntmps15
      go_wp2_with fail
      obtain ⟨W0, hW0, kA, kB, bb⟩ := boxed2 w 25 #[.bool s1, .slice a1 n1 c1, .slice b1 m1 d1] #[.bool s1, .slice a2 n2 c2, .slice b2 m2 d2]
      rw [← hW0]
      obtain ⟨y0, y1, y2⟩ := kA.cells3
      obtain ⟨yy0, yy1, yy2⟩ := kB.cells3
      refine (H1.out W0 bb).mono ?_
      rintro e w' ⟨rfl, q, rfl⟩
      have bb2 := below_drewN bb q
      clear hW0
      go_wp2_with fail
      refine (H2.out _ bb2).mono ?_
      rintro e w' ⟨rfl, q2, rfl⟩
      have bb3 := below_drewN bb2 q2
      go_wp2_with fail
      go_ret
      first
      | exact ⟨rfl, bb3⟩
      | (rw [World.drewN_drewN] at bb3; exact ⟨rfl, bb3⟩)
    · have hd1 : decide (xs1 = xs2) = false := by simpa using hx
      have hd2 : decide (s1 = s1 ∧ xs1 = xs2 ∧ ys1 = ys2) = false := by simp [hx]
      rw [hd1] at H1
      rw [hd2]
      clear hx hd1 hd2 H2
      go_enter Tryz.func15, Tryz.ntmps15
      go_wp2_with fail
      obtain ⟨W0, hW0, kA, kB, bb⟩ := boxed2 w 25 #[.bool s1, .slice a1 n1 c1, .slice b1 m1 d1] #[.bool s1, .slice a2 n2 c2, .slice b2 m2 d2]
      rw [← hW0]
      obtain ⟨y0, y1, y2⟩ := kA.cells3
      obtain ⟨yy0, yy1, yy2⟩ := kB.cells3
      refine (H1.out W0 bb).mono ?_
      rintro e w' ⟨rfl, q, rfl⟩
      have bb2 := below_drewN bb q
      clear hW0
      go_wp2_with fail
      go_ret
      exact ⟨rfl, bb2⟩
  · have hbb : (s1 == s2) = false := by simpa using hs
    have hd2 : decide (s1 = s2 ∧ xs1 = xs2 ∧ ys1 = ys2) = false := by simp [hs]
    rw [hd2]
    clear hs hd2 H1 H2
    go_enter Tryz.func15, Tryz.ntmps15
    go_wp2_with fail
    go_ret
    exact ⟨rfl, ((Below.refl w.heap.size w).alloc (Nat.le_refl _) _).alloc (by simp) _⟩
end Go.Proofs.YtmojcnlddfijjaaGreatDoor
