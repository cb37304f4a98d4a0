/-
  electionref07.shown: a value as it is printed.
-/
import Derived.Test.YtfknckbclddnmaaLexQuo
import Derived.Test.YtfknckbclddnmaaSynMath
namespace Go.Proofs.Ytfknckbclddnmaa
open Go.RowKit Lx

namespace Lx
theorem escAll_eq (l : List UInt8) : escAll l = l.flatMap fun c => if escB c then [92, c] else [c] := rfl
/-- A value as it is printed, and whether it can be. -/
theorem shown_val (v : List UInt8) (h : bareB v = false) : quoV v = if valOk v then (stg (valP v), true) else (⟨#[]⟩, false) := by
  unfold quoV valOk valP
  rw [h, Bool.false_or]
  cases hp : v.all plainB with
  | true =>
    rw [if_pos rfl, if_pos rfl, if_neg (by decide)]
    rfl
  | false => rw [if_neg (by decide), if_neg (by decide)]
end Lx

set_option maxHeartbeats 1600000 in
set_option maxRecDepth 100000 in
theorem shown_c (s : ByteArray) (w : World) (hs : s.size ≤ 1000000) :
    Calls Try.prog 45 #[.string s] w fun e w' => e = .returned (.tuple #[.string (if valOk (bys s) then stg (valP (bys s)) else ⟨#[]⟩), .bool (valOk (bys s))]) ∧ w = w' := by
  have H1 := refBare_c s w hs
  have H2 := refquote_c s w hs
  cases hb : bareB (bys s) with
  | true =>
    have hok : valOk (bys s) = true := by unfold valOk; rw [hb]; rfl
    rw [hb] at H1
    rw [hok, if_pos rfl, valP_bare hb, stg_bys]
    have H1 := Lib.hid H1
    clear H2 hb hok
    go_enter Try.func45, Try.ntmps45
    go_wp2_with fail
    refine H1.out.mono ?_
    rintro e w1 ⟨rfl, rfl⟩
    go_wp2_with fail
    go_ret2
    exact ⟨rfl, rfl⟩
  | false =>
    rw [hb] at H1
    rw [shown_val _ hb] at H2
    obtain ⟨ok, hok⟩ : ∃ b, Hid (valOk (bys s) = b) := ⟨_, rfl⟩
    obtain ⟨V, hV⟩ : ∃ b, Hid (stg (valP (bys s)) = b) := ⟨_, rfl⟩
    rw [hok.out, hV.out] at H2 ⊢
    have H1 := Lib.hid H1
    cases ok with
    | true =>
      rw [if_pos rfl] at H2 ⊢
      have H2 := Lib.hid H2
      clear hb
      go_enter Try.func45, Try.ntmps45
      go_wp2_with fail
      refine H1.out.mono ?_
      rintro e w1 ⟨rfl, rfl⟩
      go_wp2_with fail
      refine H2.out.mono ?_
      rintro e w1 ⟨rfl, rfl⟩
      go_wp2_with fail
      go_ret2
      exact ⟨rfl, rfl⟩
    | false =>
      rw [if_neg (by decide)] at H2 ⊢
      have H2 := Lib.hid H2
      clear hb
      go_enter Try.func45, Try.ntmps45
      go_wp2_with fail
      refine H1.out.mono ?_
      rintro e w1 ⟨rfl, rfl⟩
      go_wp2_with fail
      refine H2.out.mono ?_
      rintro e w1 ⟨rfl, rfl⟩
      go_wp2_with fail
      go_ret2
      exact ⟨rfl, rfl⟩
end Go.Proofs.Ytfknckbclddnmaa
