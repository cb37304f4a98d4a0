/-
  Words and numbers: lex.isWord, lex.isNumber, electionref06.Word, electionref06.Number.
-/
import Derived.Test.YtfknckbclddnmaaLexRun
namespace Go.Proofs.Ytfknckbclddnmaa
open Go.RowKit Lx

namespace Lx
theorem letB_tail {c : UInt8} (h : letB c = true) : tailB c = true := by unfold tailB; rw [h]; rfl
theorem wordB_eq (c : UInt8) (r : List UInt8) : wordB (c :: r) = (letB c && decide (wrdN (c :: r) = (c :: r).length)) := by
  show (letB c && r.all tailB) = _
  rw [wrdN_all, List.all_cons]
  cases h : letB c with
  | true => rw [letB_tail h]; simp
  | false => rfl
theorem bys_zero {s : ByteArray} (h : s.size = 0) : bys s = [] := List.eq_nil_of_length_eq_zero (by rw [bys_len]; exact h)
/-- All bytes from place i on are digits. -/
theorem numB_eq {s : ByteArray} {c : UInt8} (hz : bys s = c :: (bys s).drop 1) : numB (bys s) = ((bys s).all digB && (decide (s.size ≤ 6) && (decide (s.size = 1) || !decide (c.toNat = 48)))) := by
  have hl := bys_len s
  rw [hz] at hl
  simp only [List.length_cons] at hl
  conv => lhs; rw [hz]
  show ((c :: (bys s).drop 1).all digB && decide (((bys s).drop 1).length ≤ 5) && (((bys s).drop 1).isEmpty || !decide (c.toNat = 48))) = _
  rw [← hz, Bool.and_assoc]
  have e1 : decide (((bys s).drop 1).length ≤ 5) = decide (s.size ≤ 6) := by
    by_cases h : s.size ≤ 6
    · rw [decide_eq_true h, decide_eq_true (by omega)]
    · rw [decide_eq_false h, decide_eq_false (by omega)]
  have e2 : ((bys s).drop 1).isEmpty = decide (s.size = 1) := by
    by_cases h : s.size = 1
    · rw [decide_eq_true h, List.isEmpty_iff]; exact List.eq_nil_of_length_eq_zero (by omega)
    · rw [decide_eq_false h, List.isEmpty_eq_false_iff]; intro h'; rw [h'] at hl; simp at hl; omega
  rw [e1, e2]
end Lx

set_option maxHeartbeats 1600000 in
set_option maxRecDepth 100000 in
theorem isWord_c (s : ByteArray) (w : World) (hs : s.size ≤ 1000000) :
    Calls Try.prog 53 #[.string s] w fun e w' => e = .returned (.bool (wordB (bys s))) ∧ w = w' := by
  by_cases h0 : s.size = 0
  · obtain rfl := size_zero h0
    clear h0
    go_enter Try.func53, Try.ntmps53
    go_wp2_with fail
    go_ret
    exact ⟨rfl, rfl⟩
  · have hpos : 0 < s.size := by omega
    obtain ⟨c, hc, x1, hne⟩ := at_0 s hpos
    have HL := Lib.hid (isLetter_c c w)
    have HR := Lib.hid (runLength_c s w hs)
    obtain ⟨b, hb⟩ : ∃ b, Hid (letB c = b) := ⟨_, rfl⟩
    obtain ⟨k, hk⟩ : ∃ k, Hid (wrdN (bys s) = k) := ⟨_, rfl⟩
    have hw : Hid (wordB (bys s) = (b && decide (k = s.size))) := by
      show _ = _
      rw [← hb.out, ← hk.out, ← bys_len s, hc.out]
      exact wordB_eq _ _
    rw [hb.out] at HL
    rw [hk.out] at HR
    cases b with
    | true =>
      go_enter Try.func53, Try.ntmps53
      go_wp2_with fail
      refine HL.out.mono ?_
      rintro e w' ⟨rfl, rfl⟩
      go_wp2_with fail
      refine HR.out.mono ?_
      rintro e w' ⟨rfl, rfl⟩
      go_wp2_with fail
      go_ret
      exact ⟨bool_ret (by rw [hw.out, ← beq_dec k _ s.size rfl]; simp [hne]), rfl⟩
    | false =>
      go_enter Try.func53, Try.ntmps53
      go_wp2_with fail
      refine HL.out.mono ?_
      rintro e w' ⟨rfl, rfl⟩
      go_wp2_with fail
      go_ret
      exact ⟨bool_ret (by rw [hw.out]; rfl), rfl⟩

set_option maxHeartbeats 1600000 in
set_option maxRecDepth 100000 in
theorem refWord_c (s : ByteArray) (w : World) (hs : s.size ≤ 1000000) :
    Calls Try.prog 26 #[.string s] w fun e w' => e = .returned (.bool (wordB (bys s))) ∧ w = w' := by
  by_cases h0 : s.size = 0
  · obtain rfl := size_zero h0
    clear h0
    go_enter Try.func26, Try.ntmps26
    go_wp2_with fail
    go_ret
    exact ⟨rfl, rfl⟩
  · have hpos : 0 < s.size := by omega
    obtain ⟨c, hc, x1, hne⟩ := at_0 s hpos
    have HL := Lib.hid (refletter_c c w)
    have HR := Lib.hid (refrun_c s w hs)
    obtain ⟨b, hb⟩ : ∃ b, Hid (letB c = b) := ⟨_, rfl⟩
    obtain ⟨k, hk⟩ : ∃ k, Hid (wrdN (bys s) = k) := ⟨_, rfl⟩
    have hw : Hid (wordB (bys s) = (b && decide (k = s.size))) := by
      show _ = _
      rw [← hb.out, ← hk.out, ← bys_len s, hc.out]
      exact wordB_eq _ _
    rw [hb.out] at HL
    rw [hk.out] at HR
    cases b with
    | true =>
      go_enter Try.func26, Try.ntmps26
      go_wp2_with fail
      refine HL.out.mono ?_
      rintro e w' ⟨rfl, rfl⟩
      go_wp2_with fail
      refine HR.out.mono ?_
      rintro e w' ⟨rfl, rfl⟩
      go_wp2_with fail
      go_ret
      exact ⟨bool_ret (by rw [hw.out, ← beq_dec k _ s.size rfl]; simp [hne]), rfl⟩
    | false =>
      go_enter Try.func26, Try.ntmps26
      go_wp2_with fail
      refine HL.out.mono ?_
      rintro e w' ⟨rfl, rfl⟩
      go_wp2_with fail
      go_ret
      exact ⟨bool_ret (by rw [hw.out]; rfl), rfl⟩

set_option maxHeartbeats 1600000 in
set_option maxRecDepth 100000 in
theorem isNumber_c (s : ByteArray) (w : World) (hs : s.size ≤ 1000000) :
    Calls Try.prog 54 #[.string s] w fun e w' => e = .returned (.bool (numB (bys s))) ∧ w = w' := by
  by_cases h0 : s.size = 0
  · obtain rfl := size_zero h0
    clear h0
    go_enter Try.func54, Try.ntmps54
    go_wp2_with fail
    go_ret
    exact ⟨rfl, rfl⟩
  have hpos : 0 < s.size := by omega
  obtain ⟨c, hc, x1, hne⟩ := at_0 s hpos
  obtain ⟨A, hA⟩ : ∃ A, Hid ((bys s).all digB = A) := ⟨_, rfl⟩
  obtain ⟨n, hn⟩ : ∃ n : Nat, Hid (c.toNat = n) := ⟨_, rfl⟩
  obtain ⟨F, hF0⟩ : ∃ F, Hid (numB (bys s) = F) := ⟨_, rfl⟩
  have hF : Hid (F = (A && (decide (s.size ≤ 6) && (decide (s.size = 1) || !decide (n = 48))))) := by
    show _ = _
    rw [← hF0.out, numB_eq hc.out, hA.out, hn.out]
  rw [hn.out] at x1
  rw [hF0.out]
  clear h0
  have hie : s.toList.isEmpty = false := by rw [List.isEmpty_eq_false_iff]; exact hne
  rcases Nat.lt_or_ge 6 s.size with h6n | h6
  · have h6 : ¬ s.size ≤ 6 := by omega
    have h6' : (s.size : Int) > 6 := by omega
    go_enter Try.func54, Try.ntmps54
    go_wp2_with fail
    go_ret
    exact ⟨bool_ret (by rw [hF.out, decide_eq_false h6]; simp), rfl⟩
  have h6' : ¬ (s.size : Int) > 6 := by omega
  go_enter Try.func54, Try.ntmps54
  go_wp2_with fail
  go_loop [13] (fun i => ∃ j : Nat, j ≤ s.size ∧ i = .int .i64 j ∧ Hid (A = ((bys s).drop j).all digB)) (fun i => s.size - (intOf i).toNat)
  case atStart => exact ⟨0, Nat.zero_le _, rfl, by show _ = _; rw [List.drop_zero, hA.out]⟩
  case round =>
    obtain ⟨j, hj, rfl, hI⟩ := hrel
    by_cases hlt : j < s.size
    · have hlt' : (j : Int) < (s.size : Int) := by omega
      obtain ⟨d, hd, x2⟩ := at_s s j hlt
      have HB := Lib.hid (isDigit_c d w)
      obtain ⟨b, hb⟩ : ∃ b, Hid (digB d = b) := ⟨_, rfl⟩
      rw [hb.out] at HB
      have HI : Hid (A = (b && ((bys s).drop (j + 1)).all digB)) := by
        show _ = _
        rw [hI.out, hd.out, List.all_cons, hb.out]
      clear hI
      cases b with
      | true =>
        have hN : Hid (A = ((bys s).drop (j + 1)).all digB) := by show _ = _; rw [HI.out, Bool.true_and]
        clear HI
        go_wp2_with fail
        refine HB.out.mono ?_
        rintro e w' ⟨rfl, rfl⟩
        go_wp2_with fail
        go_round
        case rel => exact ⟨j + 1, by omega, by go_num, hN⟩
        case measure => simp [intOf]; omega
      | false =>
        have hN : Hid (A = false) := by show _ = _; rw [HI.out, Bool.false_and]
        clear HI
        go_wp2_with fail
        refine HB.out.mono ?_
        rintro e w' ⟨rfl, rfl⟩
        go_wp2_with fail
        go_ret
        exact ⟨bool_ret (by rw [hF.out, hN.out]; rfl), rfl⟩
    · obtain rfl : j = s.size := by omega
      have hN : Hid (A = true) := by show _ = _; rw [hI.out, bys_end]; rfl
      clear hI
      by_cases h48 : n = 48
      · have e48 : ((n : Int) != 48) = false := by simp; omega
        have hE : Hid (F = decide (s.size = 1)) := by show _ = _; rw [hF.out, hN.out, decide_eq_true h6, decide_eq_true h48]; simp
        clear h48
        go_wp2_with fail
        go_ret
        exact ⟨bool_ret (by rw [hE.out]; exact beq_dec s.size _ 1 rfl), rfl⟩
      · have e48 : ((n : Int) != 48) = true := by simp; omega
        have hE : Hid (F = true) := by show _ = _; rw [hF.out, hN.out, decide_eq_true h6, decide_eq_false h48]; simp
        clear h48
        go_wp2_with fail
        go_ret
        exact ⟨bool_ret (by rw [hE.out]), rfl⟩

set_option maxHeartbeats 1600000 in
set_option maxRecDepth 100000 in
theorem refNumber_c (s : ByteArray) (w : World) (hs : s.size ≤ 1000000) :
    Calls Try.prog 46 #[.string s] w fun e w' => e = .returned (.bool (numB (bys s))) ∧ w = w' := by
  by_cases h0 : s.size = 0
  · obtain rfl := size_zero h0
    clear h0
    go_enter Try.func46, Try.ntmps46
    go_wp2_with fail
    go_loop [3] (fun i => i = .int .i64 0) (fun _ => 0)
    case atStart => rfl
    case round =>
      obtain rfl := hrel
      go_wp2_with fail
      go_ret
      exact ⟨rfl, rfl⟩
  have hpos : 0 < s.size := by omega
  obtain ⟨c, hc, x1, hne⟩ := at_0 s hpos
  obtain ⟨A, hA⟩ : ∃ A, Hid ((bys s).all digB = A) := ⟨_, rfl⟩
  obtain ⟨n, hn⟩ : ∃ n : Nat, Hid (c.toNat = n) := ⟨_, rfl⟩
  obtain ⟨F, hF0⟩ : ∃ F, Hid (numB (bys s) = F) := ⟨_, rfl⟩
  have hF : Hid (F = (A && (decide (s.size ≤ 6) && (decide (s.size = 1) || !decide (n = 48))))) := by
    show _ = _
    rw [← hF0.out, numB_eq hc.out, hA.out, hn.out]
  rw [hn.out] at x1
  rw [hF0.out]
  clear h0
  go_enter Try.func46, Try.ntmps46
  go_wp2_with fail
  go_loop [3] (fun i => ∃ j : Nat, j ≤ s.size ∧ i = .int .i64 j ∧ Hid (A = ((bys s).drop j).all digB)) (fun i => s.size - (intOf i).toNat)
  case atStart => exact ⟨0, Nat.zero_le _, rfl, by show _ = _; rw [List.drop_zero, hA.out]⟩
  case round =>
    obtain ⟨j, hj, rfl, hI⟩ := hrel
    by_cases hlt : j < s.size
    · have hlt' : (j : Int) < (s.size : Int) := by omega
      obtain ⟨d, hd, x2⟩ := at_s s j hlt
      have HB := Lib.hid (refdigit_c d w)
      obtain ⟨b, hb⟩ : ∃ b, Hid (digB d = b) := ⟨_, rfl⟩
      rw [hb.out] at HB
      have HI : Hid (A = (b && ((bys s).drop (j + 1)).all digB)) := by
        show _ = _
        rw [hI.out, hd.out, List.all_cons, hb.out]
      clear hI
      cases b with
      | true =>
        have hN : Hid (A = ((bys s).drop (j + 1)).all digB) := by show _ = _; rw [HI.out, Bool.true_and]
        clear HI
        go_wp2_with fail
        refine HB.out.mono ?_
        rintro e w' ⟨rfl, rfl⟩
        go_wp2_with fail
        go_round
        case rel => exact ⟨j + 1, by omega, by go_num, hN⟩
        case measure => simp [intOf]; omega
      | false =>
        have hN : Hid (A = false) := by show _ = _; rw [HI.out, Bool.false_and]
        clear HI
        go_wp2_with fail
        refine HB.out.mono ?_
        rintro e w' ⟨rfl, rfl⟩
        go_wp2_with fail
        go_ret
        exact ⟨bool_ret (by rw [hF.out, hN.out]; rfl), rfl⟩
    · obtain rfl : j = s.size := by omega
      have hN : Hid (A = true) := by show _ = _; rw [hI.out, bys_end]; rfl
      clear hI
      have g1 : (s.size : Int) ≥ 1 := by omega
      by_cases h6 : s.size ≤ 6
      · have h6' : (s.size : Int) ≤ 6 := by omega
        by_cases h1 : s.size = 1
        · have h1' : ((s.size : Int) == 1) = true := by simp; omega
          have hE : Hid (F = true) := by show _ = _; rw [hF.out, hN.out, decide_eq_true h6, decide_eq_true h1]; simp
          clear h1
          go_wp2_with fail
          go_ret
          exact ⟨bool_ret (by rw [hE.out]), rfl⟩
        · have h1' : ((s.size : Int) == 1) = false := by rw [beq_eq_false_iff_ne]; omega
          have hE : Hid (F = !decide (n = 48)) := by show _ = _; rw [hF.out, hN.out, decide_eq_true h6, decide_eq_false h1]; simp
          clear h1
          go_wp2_with fail
          go_ret
          exact ⟨bool_ret (by rw [hE.out, ← beq_dec n 48 48 rfl]; rfl), rfl⟩
      · have h6' : ¬ (s.size : Int) ≤ 6 := by omega
        have hE : Hid (F = false) := by show _ = _; rw [hF.out, hN.out, decide_eq_false h6]; simp
        go_wp2_with fail
        go_ret
        exact ⟨bool_ret (by rw [hE.out]), rfl⟩

end Go.Proofs.Ytfknckbclddnmaa
