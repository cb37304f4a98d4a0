/-
  The walk of DigestJoin.
-/
import Derived.Test.YtfmpccfoemgiiaaDoorDigOf
import Derived.Test.YtfmpccfoemgiiaaDoorDigCut
import Derived.Test.YtfmpccfoemgiiaaDoorDigAwake
import Derived.Test.YtfmpccfoemgiiaaDoorDigEqB
namespace Go.Proofs.YtfmpccfoemgiiaaDoor
open Go.RowKit Dig

set_option maxHeartbeats 3200000 in
set_option maxRecDepth 100000 in
theorem joinLaw_c (ao : Option Addr) (n c : Nat) (ps : List (List Int)) (w : World) (h : Parts w ao n c ps) (hK : KTab 1 w) (hK0 : KTab 0 w) :
    Calls Tryd.prog 4 #[.slice ao n c] w fun e w' => e = .returned (.bool true) ∧ Below w.heap.size w w' := by
  have HC := Lib.hid (cut_c ao n c ps 8 40 w h (by omega) (by omega))
  clear h
  go_enter Tryd.func4, Tryd.ntmps4
  go_wp2_with fail
  refine HC.out.mono ?_
  rintro e w1 ⟨a1, n1, c1, qs, rfl, hn1, P1, hq, b1⟩
  have hn1' : n1 ≤ 1000 := by omega
  have hq' : Hid (∀ q ∈ qs, q.length ≤ 1000) := fun q hm => by have := hq q hm; omega
  have HA := Lib.hid (awake_c w1 (hK.below b1))
  clear hq HC
  go_wp2_with fail
  refine HA.out.mono ?_
  rintro e w2 ⟨rfl, b2⟩
  have P2 := P1.below b2
  have B2 := b1.trans (b2.mono b1.size)
  have HJ := Lib.hid (join_c a1 n1 c1 qs w2 P2 hn1' hq'.out)
  obtain ⟨L, hL⟩ : ∃ L, Hid (L = joinL qs) := ⟨_, rfl⟩
  rw [← hL.out] at HJ
  clear b1 b2 P1 HA
  go_wp2_with fail
  refine HJ.out.mono ?_
  rintro e w3 ⟨a3, m3, c3, rfl, O3, b3⟩
  have P3 := P2.below b3
  have B3 := B2.trans (b3.mono B2.size)
  have HR := Lib.hid (refjoin_c a1 n1 c1 qs w3 P3 hn1' hq'.out)
  rw [← hL.out] at HR
  clear b3 P2 B2 HJ
  go_wp2_with fail
  refine HR.out.mono ?_
  rintro e w4 ⟨a4, m4, c4, rfl, O4, b4⟩
  have P4 := P3.below b4
  have B4 := B3.trans (b4.mono B3.size)
  have HE := Lib.hid (eq_c a3 m3 c3 L a4 m4 c4 L w4 (O3.lst.below b4) O4.lst)
  rw [decide_eq_true rfl] at HE
  clear b4 P3 B3 HR O3 O4
  go_wp2_with fail
  refine HE.out.mono ?_
  rintro e w5 ⟨rfl, b5⟩
  have P5 := P4.below b5
  have B5 := B4.trans (b5.mono B4.size)
  obtain ⟨F, hF⟩ : ∃ F, Hid (F = sumL (joinL qs)) := ⟨_, rfl⟩
  have hFl : F.length = 32 := by rw [hF.out]; rfl
  have heq := eq_bytes F hFl
  have HO := Lib.hid (of_c a1 n1 c1 qs w5 P5 hn1' hq'.out (hK.below B5))
  rw [← hF.out] at HO
  clear b5 P4 B4 HE hFl
  go_wp2_with fail
  refine HO.out.mono ?_
  rintro e w6 ⟨rfl, b6⟩
  have P6 := P5.below b6
  have B6 := B5.trans (b6.mono B5.size)
  have HQ := Lib.hid (refof_c a1 n1 c1 qs w6 P6 hn1' hq'.out (hK0.below B6))
  rw [← hF.out] at HQ
  clear b6 P5 B5 HO
  go_wp2_with fail
  refine HQ.out.mono ?_
  rintro e w7 ⟨rfl, b7⟩
  have B7 := B6.trans (b7.mono B6.size)
  clear b7 P6 B6 HQ
  go_wp2_with fail
  go_ret
  exact ⟨rfl, B7⟩
end Go.Proofs.YtfmpccfoemgiiaaDoor
