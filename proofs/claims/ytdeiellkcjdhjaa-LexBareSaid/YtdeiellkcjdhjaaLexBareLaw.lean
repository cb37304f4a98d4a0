/-
  The walk of LexBare.
-/
import Derived.Test.YtdeiellkcjdhjaaLexAwake
namespace Go.Proofs.Ytdeiellkcjdhjaa
open Go.RowKit Lx

set_option maxHeartbeats 1600000 in
set_option maxRecDepth 100000 in
theorem bareLaw_c (S : ByteArray) (w : World) (_ : S.size ≤ maxLen) :
    Calls Try.prog 5 #[.string S] w fun e w' => e = .returned (.bool true) ∧ Below w.heap.size w w' := by
  have HC := Lib.hid (short_c S 40 w)
  go_enter Try.func5, Try.ntmps5
  go_wp2_with fail
  refine HC.out.mono ?_
  rintro e w1 ⟨T, rfl, hT, rfl⟩
  have HA := Lib.hid (awake_c w)
  clear HC
  go_wp2_with fail
  refine HA.out.mono ?_
  rintro e w2 ⟨rfl, b2⟩
  have H1 := bare_c T w2 (by omega)
  obtain ⟨b, hb⟩ : ∃ b, Hid (bareB (bys T) = b) := ⟨_, rfl⟩
  have H2 : Hid (∀ q, Calls Try.prog 17 #[.string T] (w2.drewN q) fun e w' => e = .returned (.bool b) ∧ w2.drewN q = w') := fun q => by rw [← hb.out]; exact refBare_c T (w2.drewN q) (by omega)
  rw [hb.out] at H1
  have H1 := Lib.hid H1
  have B2 := Lib.hid b2
  have hbb : (b == b) = true := beq_self_eq_true _
  clear HA b2
  go_wp2_with fail
  refine H1.out.mono ?_
  rintro e w3 ⟨rfl, q, rfl⟩
  go_wp2_with fail
  refine (H2.out q).mono ?_
  rintro e w4 ⟨rfl, rfl⟩
  go_wp2_with fail
  go_ret
  exact ⟨rfl, below_drewN B2.out q⟩
end Go.Proofs.Ytdeiellkcjdhjaa
