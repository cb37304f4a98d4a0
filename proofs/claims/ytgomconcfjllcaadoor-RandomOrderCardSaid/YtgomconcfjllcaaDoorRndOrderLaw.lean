/-
  The walk of RandomOrder.
-/
import Derived.Test.YtgomconcfjllcaaDoorRndAwake
namespace Go.Proofs.YtgomconcfjllcaaDoor
open Go.RowKit Dig Rnd

set_option maxHeartbeats 1600000 in
set_option maxRecDepth 100000 in
theorem orderLaw_c (S : ByteArray) (z : Int) (w : World) (hs : S.size ≤ maxLen) (hK : KTab 1 w) (hK0 : KTab 0 w) :
    Calls Tryd.prog 6 #[.string S, .int .i64 z] w fun e w' => e = .returned (.bool true) ∧ Below w.heap.size w w' := by
  have HC := Lib.hid (short_c S w hs)
  obtain ⟨N, hN, hrem⟩ := rem20 z
  clear hs
  go_enter Tryd.func6, Tryd.ntmps6
  go_wp2_with fail
  refine HC.out.mono ?_
  rintro e w1 ⟨T, rfl, hT, rfl⟩
  have HA := Lib.hid (awake_c w hK hK0)
  clear HC
  go_wp2_with fail
  refine HA.out.mono ?_
  rintro e w2 ⟨rfl, b2⟩
  have H1 := Lib.hid (order_c T N w2 (by omega) (by omega) (hK.below b2))
  clear HA
  go_wp2_with fail
  refine H1.out.mono ?_
  rintro e w3 ⟨ao, c, rfl, O3, b3⟩
  have B3 : Below w.heap.size w w3 := b2.trans (b3.mono b2.size)
  have H2 := Lib.hid (reforder_c T N w3 (by omega) (by omega) (hK0.below B3))
  clear H1 b2 b3
  go_wp2_with fail
  refine H2.out.mono ?_
  rintro e w4 ⟨bo, d, rfl, O4, b4⟩
  have B4 : Below w.heap.size w w4 := B3.trans (b4.mono B3.size)
  have H3 := Lib.hid (eqI_c ao bo N c d _ w4 (O3.kept b4).lst O4.lst)
  clear H2 B3 b4 O3 O4
  go_wp2_with fail
  refine H3.out.mono ?_
  rintro e w5 ⟨rfl, b5⟩
  have B5 : Below w.heap.size w w5 := B4.trans (b5.mono B4.size)
  clear H3 B4 b5
  go_wp2_with fail
  go_ret
  exact ⟨rfl, B5⟩
end Go.Proofs.YtgomconcfjllcaaDoor
