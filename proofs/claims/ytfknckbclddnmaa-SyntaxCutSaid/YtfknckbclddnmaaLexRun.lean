/-
  Runs of bytes of words: lex.runLength, electionref06.run.
-/
import Derived.Test.YtfknckbclddnmaaLexByte
namespace Go.Proofs.Ytfknckbclddnmaa
open Go.RowKit Lx

namespace Lx
/-- How many bytes of words stand at the head. -/
def wrdN (l : List UInt8) : Nat := (l.takeWhile tailB).length
theorem wrdN_nil : wrdN [] = 0 := rfl
theorem wrdN_yes {c : UInt8} (h : tailB c = true) (r : List UInt8) : wrdN (c :: r) = wrdN r + 1 := by
  unfold wrdN; rw [List.takeWhile_cons, if_pos h]; rfl
theorem wrdN_no {c : UInt8} (h : tailB c = false) (r : List UInt8) : wrdN (c :: r) = 0 := by
  unfold wrdN; rw [List.takeWhile_cons, h]; rfl
theorem wrdN_le (l : List UInt8) : wrdN l ≤ l.length := (List.takeWhile_prefix tailB).length_le
theorem run_take (l : List UInt8) : l.take (wrdN l) = l.takeWhile tailB := by
  induction l with
  | nil => rfl
  | cons c r ih =>
    cases h : tailB c with
    | true => rw [wrdN_yes h, List.take_succ_cons, ih, List.takeWhile_cons, if_pos h]
    | false => rw [wrdN_no h, List.takeWhile_cons, h]; rfl
theorem wrdN_all (l : List UInt8) : decide (wrdN l = l.length) = l.all tailB := by
  induction l with
  | nil => rfl
  | cons c r ih =>
    cases h : tailB c with
    | true => rw [wrdN_yes h, List.all_cons, h, ← ih, List.length_cons]; simp
    | false => rw [wrdN_no h, List.all_cons, h, List.length_cons]; simp
theorem bys_end (s : ByteArray) : (bys s).drop s.size = [] := List.drop_of_length_le (by rw [bys_len]; exact Nat.le_refl _)
end Lx

theorem i64_ret {a b : Int} (h : a = b) : Ending.returned (.int .i64 a) = .returned (.int .i64 b) := by rw [h]

set_option maxHeartbeats 1600000 in
set_option maxRecDepth 100000 in
theorem runLength_c (s : ByteArray) (w : World) (hs : s.size ≤ 1000000) :
    Calls Try.prog 52 #[.string s] w fun e w' => e = .returned (.int .i64 ((wrdN (bys s) : Nat) : Int)) ∧ w = w' := by
  obtain ⟨R, hR⟩ : ∃ R, Hid (wrdN (bys s) = R) := ⟨_, rfl⟩
  rw [hR.out]
  go_enter Try.func52, Try.ntmps52
  go_wp2_with fail
  go_loop [6] (fun i => ∃ j : Nat, j ≤ s.size ∧ i = .int .i64 j ∧ Hid (R = j + wrdN ((bys s).drop j))) (fun i => s.size - (intOf i).toNat)
  case atStart => exact ⟨0, Nat.zero_le _, rfl, by show _ = _; rw [List.drop_zero, hR.out, Nat.zero_add]⟩
  case round =>
    obtain ⟨j, hj, rfl, hI⟩ := hrel
    by_cases hlt : j < s.size
    · have hlt' : (j : Int) < (s.size : Int) := by omega
      obtain ⟨c, hc, x1⟩ := at_s s j hlt
      have HB := Lib.hid (isWordByte_c c w)
      obtain ⟨b, hb⟩ : ∃ b, Hid (tailB c = b) := ⟨_, rfl⟩
      rw [hb.out] at HB
      have HI := hI.out
      rw [hc.out] at HI
      have HI := Lib.hid HI
      cases b with
      | true =>
        have hN : Hid (R = (j + 1) + wrdN ((bys s).drop (j + 1))) := by show _ = _; rw [HI.out, wrdN_yes hb.out]; omega
        clear hI HI
        go_wp2_with fail
        refine HB.out.mono ?_
        rintro e w' ⟨rfl, rfl⟩
        go_wp2_with fail
        go_round
        case rel => exact ⟨j + 1, by omega, by go_num, hN⟩
        case measure => simp [intOf]; omega
      | false =>
        have hN : Hid (R = j) := by show _ = _; rw [HI.out, wrdN_no hb.out, Nat.add_zero]
        clear hI HI
        go_wp2_with fail
        refine HB.out.mono ?_
        rintro e w' ⟨rfl, rfl⟩
        go_wp2_with fail
        go_ret
        exact ⟨i64_ret (by rw [hN.out]), rfl⟩
    · obtain rfl : j = s.size := by omega
      have hN : Hid (R = s.size) := by show _ = _; rw [hI.out, bys_end, wrdN_nil, Nat.add_zero]
      clear hI
      go_wp2_with fail
      go_ret
      exact ⟨i64_ret (by rw [hN.out]), rfl⟩

set_option maxHeartbeats 1600000 in
set_option maxRecDepth 100000 in
theorem refrun_c (s : ByteArray) (w : World) (hs : s.size ≤ 1000000) :
    Calls Try.prog 44 #[.string s] w fun e w' => e = .returned (.int .i64 ((wrdN (bys s) : Nat) : Int)) ∧ w = w' := by
  obtain ⟨R, hR⟩ : ∃ R, Hid (wrdN (bys s) = R) := ⟨_, rfl⟩
  rw [hR.out]
  go_enter Try.func44, Try.ntmps44
  go_wp2_with fail
  go_loop [3] (fun i => ∃ j : Nat, j ≤ s.size ∧ i = .int .i64 j ∧ Hid (R = j + wrdN ((bys s).drop j))) (fun i => s.size - (intOf i).toNat)
  case atStart => exact ⟨0, Nat.zero_le _, rfl, by show _ = _; rw [List.drop_zero, hR.out, Nat.zero_add]⟩
  case round =>
    obtain ⟨j, hj, rfl, hI⟩ := hrel
    by_cases hlt : j < s.size
    · have hlt' : (j : Int) < (s.size : Int) := by omega
      obtain ⟨c, hc, x1⟩ := at_s s j hlt
      have HB := Lib.hid (reftail_c c w)
      obtain ⟨b, hb⟩ : ∃ b, Hid (tailB c = b) := ⟨_, rfl⟩
      rw [hb.out] at HB
      have HI := hI.out
      rw [hc.out] at HI
      have HI := Lib.hid HI
      cases b with
      | true =>
        have hN : Hid (R = (j + 1) + wrdN ((bys s).drop (j + 1))) := by show _ = _; rw [HI.out, wrdN_yes hb.out]; omega
        clear hI HI
        go_wp2_with fail
        refine HB.out.mono ?_
        rintro e w' ⟨rfl, rfl⟩
        go_wp2_with fail
        go_round
        case rel => exact ⟨j + 1, by omega, by go_num, hN⟩
        case measure => simp [intOf]; omega
      | false =>
        have hN : Hid (R = j) := by show _ = _; rw [HI.out, wrdN_no hb.out, Nat.add_zero]
        clear hI HI
        go_wp2_with fail
        refine HB.out.mono ?_
        rintro e w' ⟨rfl, rfl⟩
        go_wp2_with fail
        go_ret
        exact ⟨i64_ret (by rw [hN.out]), rfl⟩
    · obtain rfl : j = s.size := by omega
      have hN : Hid (R = s.size) := by show _ = _; rw [hI.out, bys_end, wrdN_nil, Nat.add_zero]
      clear hI
      go_wp2_with fail
      go_ret
      exact ⟨i64_ret (by rw [hN.out]), rfl⟩
end Go.Proofs.Ytfknckbclddnmaa
