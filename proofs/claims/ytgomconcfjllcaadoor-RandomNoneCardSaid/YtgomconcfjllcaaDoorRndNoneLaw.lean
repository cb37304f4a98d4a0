/-
  The walk of RandomNone.
-/
import Derived.Test.YtgomconcfjllcaaDoorRndAwake
namespace Go.Proofs.YtgomconcfjllcaaDoor
open Go.RowKit Dig Rnd

set_option maxHeartbeats 1600000 in
set_option maxRecDepth 100000 in
theorem word_nil (w : World) :
    Calls Tryd.prog 11 #[.pointer none] w fun e w' => e = .returned (.int .u64 0) ∧ w = w' := by
  go_enter Tryd.func11, Tryd.ntmps11
  go_wp2_with fail
  go_ret
  exact ⟨rfl, rfl⟩

set_option maxHeartbeats 1600000 in
set_option maxRecDepth 100000 in
theorem noneLaw_c (w : World) (hK : KTab 1 w) (hK0 : KTab 0 w) :
    Calls Tryd.prog 8 #[] w fun e w' => e = .returned (.bool true) ∧ Below w.heap.size w w' := by
  have HC := Lib.hid (awake_c w hK hK0)
  go_enter Tryd.func8, Tryd.ntmps8
  go_wp2_with fail
  refine HC.out.mono ?_
  rintro e w1 ⟨rfl, b1⟩
  go_wp2_with (first
    | (go_at_call 11; refine (word_nil _).mono ?_; rintro e w' ⟨rfl, rfl⟩)
    | (go_at_call 13; refine (below_no none 5 _ (Or.inl rfl)).mono ?_; rintro e w' ⟨rfl, rfl⟩)
    | (go_at_call 16; refine (perm_no none 3 _ (Or.inl rfl)).mono ?_; rintro e w' ⟨rfl, rfl⟩)
    | fail)
  refine (order_no ⟨#[120]⟩ (-1) w1 (by omega)).mono ?_
  rintro e w2 ⟨rfl, b2⟩
  have B2 : Below w.heap.size w w2 := b1.trans (b2.mono b1.size)
  clear b1 b2
  go_wp2_with fail
  refine (order_no ⟨#[120]⟩ 1025 w2 (by omega)).mono ?_
  rintro e w3 ⟨rfl, b3⟩
  have B3 : Below w.heap.size w w3 := B2.trans (b3.mono B2.size)
  clear B2 b3
  go_wp2_with fail
  refine (order_c ⟨#[120]⟩ 0 w3 (by decide) (by omega) (hK.below B3)).mono ?_
  rintro e w4 ⟨ao, c, rfl, _, b4⟩
  have B4 : Below w.heap.size w w4 := B3.trans (b4.mono B3.size)
  clear B3 b4
  go_wp2_with fail
  go_ret
  exact ⟨rfl, B4⟩
end Go.Proofs.YtgomconcfjllcaaDoor
