/-
  The walk of LexAll.
-/
import Derived.Test.YtdeiellkcjdhjaaLexAwake
namespace Go.Proofs.Ytdeiellkcjdhjaa
open Go.RowKit Lx

/-- The fault's numbers and the list, by what the text reads as. -/
def outR : Option Res → Int × Int × List Tok
  | none => (7, 0, [])
  | some (.err l) => (1, l, [])
  | some (.ok ts l) => (0, 0, ts ++ [⟨5, [], l⟩])
theorem AllOut.view {B : Nat} {r : Option Res} {w : World} {e : Ending} (h : AllOut B r w e) : ∃ ao n c, e = .returned (.tuple #[.slice ao n c, .agg #[.int .i64 (outR r).1, .int .i64 (outR r).2.1]]) ∧ TokOwn B w ao n c (outR r).2.2 := by
  cases r with
  | none => exact ⟨none, 0, 0, h.big, TokOwn.nil _ _⟩
  | some r =>
    cases r with
    | err l => exact ⟨none, 0, 0, h.err, TokOwn.nil _ _⟩
    | ok ts l =>
      obtain ⟨ao, c, he, O⟩ := h.ok
      exact ⟨ao, _, c, he, O⟩

set_option maxHeartbeats 3200000 in
set_option maxRecDepth 100000 in
theorem allLaw_c (S : ByteArray) (w : World) (_ : S.size ≤ maxLen) :
    Calls Try.prog 3 #[.string S] w fun e w' => e = .returned (.bool true) ∧ Below w.heap.size w w' := by
  have HC := Lib.hid (short_c S 300 w)
  go_enter Try.func3, Try.ntmps3
  go_wp2_with fail
  refine HC.out.mono ?_
  rintro e w1 ⟨T, rfl, hT, rfl⟩
  have H1 := Lib.hid (all_c T w (by omega))
  clear HC
  go_wp2_with fail
  refine H1.out.mono ?_
  rintro e w1 ⟨hO1, b1⟩
  obtain ⟨ao, n, c, rfl, O1⟩ := hO1.view
  obtain ⟨er, her⟩ : ∃ z, Hid ((outR (allS T)).1 = z) := ⟨_, rfl⟩
  obtain ⟨ln, hln⟩ : ∃ z, Hid ((outR (allS T)).2.1 = z) := ⟨_, rfl⟩
  obtain ⟨U, hU⟩ : ∃ z, Hid ((outR (allS T)).2.2 = z) := ⟨_, rfl⟩
  rw [hU.out] at O1
  rw [her.out, hln.out]
  obtain ⟨W1, hW1⟩ : ∃ W, Hid (W = w1.alloc (.cells #[.int .i64 er, .int .i64 ln] 26)) := ⟨_, rfl⟩
  have b2 : Below w1.heap.size w1 W1 := by rw [hW1.out]; exact (Below.refl _ _).alloc (Nat.le_refl _) _
  have A1 : Arr W1 w1.heap.size 26 [.int .i64 er, .int .i64 ln] := by rw [hW1.out]; exact Arr.new w1 _ _
  obtain ⟨g1, hg1⟩ : ∃ g, Hid (w1.heap.size = g) := ⟨_, rfl⟩
  have BB1 := Lib.hid (b1.trans (b2.mono b1.size))
  have O1' := Lib.hid (O1.keep b2)
  have H2 := Lib.hid (refall_c T W1 (by omega))
  rw [hg1.out] at A1
  have A1' := Lib.hid A1
  clear H1 hO1 b1 b2 O1 A1
  go_wp2_with fail
  rw [← hW1.out, hg1.out]
  refine H2.out.mono ?_
  rintro e w2 ⟨hO2, b2⟩
  obtain ⟨bo, m, d, rfl, O2⟩ := hO2.view
  rw [hU.out] at O2
  rw [her.out, hln.out]
  have A2 := A1'.out.kept b2
  have O1b := O1'.out.keep b2
  have BB2 := BB1.out.trans (b2.mono BB1.out.size)
  obtain ⟨W2, hW2⟩ : ∃ W, Hid (W = w2.alloc (.cells #[.int .i64 er, .int .i64 ln] 26)) := ⟨_, rfl⟩
  have b3 : Below w2.heap.size w2 W2 := by rw [hW2.out]; exact (Below.refl _ _).alloc (Nat.le_refl _) _
  have A3 : Arr W2 w2.heap.size 26 [.int .i64 er, .int .i64 ln] := by rw [hW2.out]; exact Arr.new w2 _ _
  have BB3 := Lib.hid (BB2.trans (b3.mono BB2.size))
  have A2' := A2.kept b3
  have O1c := O1b.keep b3
  have O2c := O2.keep b3
  obtain ⟨g2, hg2⟩ : ∃ g, Hid (w2.heap.size = g) := ⟨_, rfl⟩
  rw [hg2.out] at A3
  have HA := Lib.hid (awake_c W2)
  have A2' := Lib.hid A2'
  have A3 := Lib.hid A3
  have O1c := Lib.hid O1c
  have O2c := Lib.hid O2c
  clear H2 hO2 b2 b3 O2 A2 O1b BB2
  go_wp2_with fail
  rw [← hW2.out, hg2.out]
  refine HA.out.mono ?_
  rintro e w3 ⟨rfl, b3⟩
  have A4 := A2'.out.kept b3
  have A5 := A3.out.kept b3
  have q0 := A4.cell 0
  have q1 := A4.cell 1
  have q2 := A5.cell 0
  have q3 := A5.cell 1
  have HE := Lib.hid (eq_c true _ _ ao bo n m c d U U w3 (O1c.out.keep b3) (O2c.out.keep b3) (SameT.refl U))
  have BB4 := Lib.hid (BB3.out.trans (b3.mono BB3.out.size))
  have e1 : (er == er) = true := beq_self_eq_true _
  have e2 : (ln == ln) = true := beq_self_eq_true _
  clear HA A4 A5 b3
  go_wp2_with fail
  refine HE.out.mono ?_
  rintro e w4 ⟨rfl, b4⟩
  have BB5 := Lib.hid (BB4.out.trans (b4.mono BB4.out.size))
  clear HE b4
  go_wp2_with fail
  go_ret
  exact ⟨rfl, BB5.out⟩
end Go.Proofs.Ytdeiellkcjdhjaa
