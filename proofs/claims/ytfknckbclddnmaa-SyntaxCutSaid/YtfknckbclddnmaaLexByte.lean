/-
  Bytes: letters, digits, bytes of words, blanks, what can be printed, what needs an escape.
-/
import Derived.Test.YtfknckbclddnmaaLexBase
namespace Go.Proofs.Ytfknckbclddnmaa
open Go.RowKit Lx

theorem toList_bys (s : ByteArray) : s.toList = bys s := Lib.toList_data s
theorem size_zero {s : ByteArray} (h : s.size = 0) : s = ⟨#[]⟩ := by
  apply bys_inj
  have : (bys s).length = 0 := by rw [bys_len]; exact h
  rw [List.eq_nil_of_length_eq_zero this]; rfl
/-- The byte at a place of a string, as the walk asks for it. -/
theorem at_s (s : ByteArray) (i : Nat) (h : i < s.size) : ∃ c : UInt8, Hid ((bys s).drop i = c :: (bys s).drop (i + 1)) ∧ ∀ W, (Instr.index 9 (.string s) (.int .i64 (i : Int))).run Try.prog W = .ok (.int .u8 ((c.toNat : Nat) : Int)) W := by
  refine ⟨s[i], bys_drop s i h, fun W => ?_⟩
  have e : s[i]? = some s[i] := getElem?_pos s i h
  simp [Instr.index, run_underlying Try.underlying9, asIntOf, e]
/-- The first byte of a string that has one. -/
theorem at_0 (s : ByteArray) (h : 0 < s.size) : ∃ c : UInt8, Hid (bys s = c :: (bys s).drop 1) ∧ (∀ W, (Instr.index 9 (.string s) (.int .i64 0)).run Try.prog W = .ok (.int .u8 ((c.toNat : Nat) : Int)) W) ∧ ¬ s.toList = [] := by
  obtain ⟨c, hc, x⟩ := at_s s 0 h
  have e : bys s = c :: (bys s).drop 1 := by rw [← hc.out, List.drop_zero]
  refine ⟨c, e, x, fun h' => ?_⟩
  rw [toList_bys, e] at h'
  cases h'
theorem beq_dec (n : Nat) (z : Int) (k : Nat) (h : z = (k : Int)) : ((n : Int) == z) = decide (n = k) := by
  subst h
  by_cases e : n = k
  · rw [decide_eq_true e, beq_iff_eq.2 (by omega)]
  · rw [decide_eq_false e, beq_eq_false_iff_ne.2 (by omega)]
theorem bool_ret {a b : Bool} (h : a = b) : Ending.returned (.bool a) = .returned (.bool b) := by rw [h]

set_option maxHeartbeats 1600000 in
set_option maxRecDepth 100000 in
theorem isLetter_c (c : UInt8) (w : World) :
    Calls Try.prog 69 #[.int .u8 ((c.toNat : Nat) : Int)] w fun e w' => e = .returned (.bool (letB c)) ∧ w = w' := by
  obtain ⟨n, hn⟩ : ∃ n : Nat, Hid (c.toNat = n) := ⟨_, rfl⟩
  have hp : Hid (letB c = (decide (97 ≤ n) && decide (n ≤ 122))) := by show _ = _; unfold letB; rw [hn.out]
  rw [hn.out]
  by_cases h1 : 97 ≤ n
  · have k1 : (n : Int) ≥ 97 := by omega
    by_cases h2 : n ≤ 122
    · have k2 : (n : Int) ≤ 122 := by omega
      go_enter Try.func69, Try.ntmps69
      go_wp2_with fail
      go_ret
      exact ⟨bool_ret (by rw [hp.out]; simp; omega), rfl⟩
    · have k2 : ¬ (n : Int) ≤ 122 := by omega
      go_enter Try.func69, Try.ntmps69
      go_wp2_with fail
      go_ret
      exact ⟨bool_ret (by rw [hp.out]; simp; omega), rfl⟩
  · have k1 : ¬ (n : Int) ≥ 97 := by omega
    go_enter Try.func69, Try.ntmps69
    go_wp2_with fail
    go_ret
    exact ⟨bool_ret (by rw [hp.out]; simp; omega), rfl⟩

set_option maxHeartbeats 1600000 in
set_option maxRecDepth 100000 in
theorem refletter_c (c : UInt8) (w : World) :
    Calls Try.prog 43 #[.int .u8 ((c.toNat : Nat) : Int)] w fun e w' => e = .returned (.bool (letB c)) ∧ w = w' := by
  obtain ⟨n, hn⟩ : ∃ n : Nat, Hid (c.toNat = n) := ⟨_, rfl⟩
  have hp : Hid (letB c = (decide (97 ≤ n) && decide (n ≤ 122))) := by show _ = _; unfold letB; rw [hn.out]
  rw [hn.out]
  by_cases h1 : 97 ≤ n
  · have k1 : (n : Int) ≥ 97 := by omega
    by_cases h2 : n ≤ 122
    · have k2 : (n : Int) ≤ 122 := by omega
      go_enter Try.func43, Try.ntmps43
      go_wp2_with fail
      go_ret
      exact ⟨bool_ret (by rw [hp.out]; simp; omega), rfl⟩
    · have k2 : ¬ (n : Int) ≤ 122 := by omega
      go_enter Try.func43, Try.ntmps43
      go_wp2_with fail
      go_ret
      exact ⟨bool_ret (by rw [hp.out]; simp; omega), rfl⟩
  · have k1 : ¬ (n : Int) ≥ 97 := by omega
    go_enter Try.func43, Try.ntmps43
    go_wp2_with fail
    go_ret
    exact ⟨bool_ret (by rw [hp.out]; simp; omega), rfl⟩

set_option maxHeartbeats 1600000 in
set_option maxRecDepth 100000 in
theorem isDigit_c (c : UInt8) (w : World) :
    Calls Try.prog 70 #[.int .u8 ((c.toNat : Nat) : Int)] w fun e w' => e = .returned (.bool (digB c)) ∧ w = w' := by
  obtain ⟨n, hn⟩ : ∃ n : Nat, Hid (c.toNat = n) := ⟨_, rfl⟩
  have hp : Hid (digB c = (decide (48 ≤ n) && decide (n ≤ 57))) := by show _ = _; unfold digB; rw [hn.out]
  rw [hn.out]
  by_cases h1 : 48 ≤ n
  · have k1 : (n : Int) ≥ 48 := by omega
    by_cases h2 : n ≤ 57
    · have k2 : (n : Int) ≤ 57 := by omega
      go_enter Try.func70, Try.ntmps70
      go_wp2_with fail
      go_ret
      exact ⟨bool_ret (by rw [hp.out]; simp; omega), rfl⟩
    · have k2 : ¬ (n : Int) ≤ 57 := by omega
      go_enter Try.func70, Try.ntmps70
      go_wp2_with fail
      go_ret
      exact ⟨bool_ret (by rw [hp.out]; simp; omega), rfl⟩
  · have k1 : ¬ (n : Int) ≥ 48 := by omega
    go_enter Try.func70, Try.ntmps70
    go_wp2_with fail
    go_ret
    exact ⟨bool_ret (by rw [hp.out]; simp; omega), rfl⟩

set_option maxHeartbeats 1600000 in
set_option maxRecDepth 100000 in
theorem refdigit_c (c : UInt8) (w : World) :
    Calls Try.prog 66 #[.int .u8 ((c.toNat : Nat) : Int)] w fun e w' => e = .returned (.bool (digB c)) ∧ w = w' := by
  obtain ⟨n, hn⟩ : ∃ n : Nat, Hid (c.toNat = n) := ⟨_, rfl⟩
  have hp : Hid (digB c = (decide (48 ≤ n) && decide (n ≤ 57))) := by show _ = _; unfold digB; rw [hn.out]
  rw [hn.out]
  by_cases h1 : 48 ≤ n
  · have k1 : (n : Int) ≥ 48 := by omega
    by_cases h2 : n ≤ 57
    · have k2 : (n : Int) ≤ 57 := by omega
      go_enter Try.func66, Try.ntmps66
      go_wp2_with fail
      go_ret
      exact ⟨bool_ret (by rw [hp.out]; simp; omega), rfl⟩
    · have k2 : ¬ (n : Int) ≤ 57 := by omega
      go_enter Try.func66, Try.ntmps66
      go_wp2_with fail
      go_ret
      exact ⟨bool_ret (by rw [hp.out]; simp; omega), rfl⟩
  · have k1 : ¬ (n : Int) ≥ 48 := by omega
    go_enter Try.func66, Try.ntmps66
    go_wp2_with fail
    go_ret
    exact ⟨bool_ret (by rw [hp.out]; simp; omega), rfl⟩

set_option maxHeartbeats 1600000 in
set_option maxRecDepth 100000 in
theorem isPrintable_c (c : UInt8) (w : World) :
    Calls Try.prog 73 #[.int .u8 ((c.toNat : Nat) : Int)] w fun e w' => e = .returned (.bool (plainB c)) ∧ w = w' := by
  obtain ⟨n, hn⟩ : ∃ n : Nat, Hid (c.toNat = n) := ⟨_, rfl⟩
  have hp : Hid (plainB c = (decide (32 ≤ n) && decide (n ≤ 126))) := by show _ = _; unfold plainB; rw [hn.out]
  rw [hn.out]
  by_cases h1 : 32 ≤ n
  · have k1 : (n : Int) ≥ 32 := by omega
    by_cases h2 : n ≤ 126
    · have k2 : (n : Int) ≤ 126 := by omega
      go_enter Try.func73, Try.ntmps73
      go_wp2_with fail
      go_ret
      exact ⟨bool_ret (by rw [hp.out]; simp; omega), rfl⟩
    · have k2 : ¬ (n : Int) ≤ 126 := by omega
      go_enter Try.func73, Try.ntmps73
      go_wp2_with fail
      go_ret
      exact ⟨bool_ret (by rw [hp.out]; simp; omega), rfl⟩
  · have k1 : ¬ (n : Int) ≥ 32 := by omega
    go_enter Try.func73, Try.ntmps73
    go_wp2_with fail
    go_ret
    exact ⟨bool_ret (by rw [hp.out]; simp; omega), rfl⟩

set_option maxHeartbeats 1600000 in
set_option maxRecDepth 100000 in
theorem isSpecial_c (c : UInt8) (w : World) :
    Calls Try.prog 72 #[.int .u8 ((c.toNat : Nat) : Int)] w fun e w' => e = .returned (.bool (escB c)) ∧ w = w' := by
  obtain ⟨n, hn⟩ : ∃ n : Nat, Hid (c.toNat = n) := ⟨_, rfl⟩
  have hp : Hid (escB c = (decide (n = 34) || decide (n = 92))) := by show _ = _; unfold escB; rw [hn.out]
  rw [hn.out]
  by_cases h34 : n = 34
  · have k34 : ((n : Int) == 34) = true := by simp; omega
    go_enter Try.func72, Try.ntmps72
    go_wp2_with fail
    go_ret
    exact ⟨bool_ret (by rw [hp.out]; simp; omega), rfl⟩
  · have k34 : ((n : Int) == 34) = false := by rw [beq_eq_false_iff_ne]; omega
    by_cases h92 : n = 92
    · have k92 : ((n : Int) == 92) = true := by simp; omega
      go_enter Try.func72, Try.ntmps72
      go_wp2_with fail
      go_ret
      exact ⟨bool_ret (by rw [hp.out]; simp; omega), rfl⟩
    · have k92 : ((n : Int) == 92) = false := by rw [beq_eq_false_iff_ne]; omega
      go_enter Try.func72, Try.ntmps72
      go_wp2_with fail
      go_ret
      exact ⟨bool_ret (by rw [hp.out]; simp; omega), rfl⟩

set_option maxHeartbeats 1600000 in
set_option maxRecDepth 100000 in
theorem isBlank_c (c : UInt8) (w : World) :
    Calls Try.prog 48 #[.int .u8 ((c.toNat : Nat) : Int)] w fun e w' => e = .returned (.bool (blankB c)) ∧ w = w' := by
  obtain ⟨n, hn⟩ : ∃ n : Nat, Hid (c.toNat = n) := ⟨_, rfl⟩
  have hp : Hid (blankB c = (decide (n = 32) || decide (n = 9) || decide (n = 10) || decide (n = 13))) := by show _ = _; unfold blankB; rw [hn.out]
  rw [hn.out]
  by_cases h32 : n = 32
  · have k32 : ((n : Int) == 32) = true := by simp; omega
    go_enter Try.func48, Try.ntmps48
    go_wp2_with fail
    go_ret
    exact ⟨bool_ret (by rw [hp.out]; simp; omega), rfl⟩
  · have k32 : ((n : Int) == 32) = false := by rw [beq_eq_false_iff_ne]; omega
    by_cases h9 : n = 9
    · have k9 : ((n : Int) == 9) = true := by simp; omega
      go_enter Try.func48, Try.ntmps48
      go_wp2_with fail
      go_ret
      exact ⟨bool_ret (by rw [hp.out]; simp; omega), rfl⟩
    · have k9 : ((n : Int) == 9) = false := by rw [beq_eq_false_iff_ne]; omega
      by_cases h10 : n = 10
      · have k10 : ((n : Int) == 10) = true := by simp; omega
        go_enter Try.func48, Try.ntmps48
        go_wp2_with fail
        go_ret
        exact ⟨bool_ret (by rw [hp.out]; simp; omega), rfl⟩
      · have k10 : ((n : Int) == 10) = false := by rw [beq_eq_false_iff_ne]; omega
        by_cases h13 : n = 13
        · have k13 : ((n : Int) == 13) = true := by simp; omega
          go_enter Try.func48, Try.ntmps48
          go_wp2_with fail
          go_ret
          exact ⟨bool_ret (by rw [hp.out]; simp; omega), rfl⟩
        · have k13 : ((n : Int) == 13) = false := by rw [beq_eq_false_iff_ne]; omega
          go_enter Try.func48, Try.ntmps48
          go_wp2_with fail
          go_ret
          exact ⟨bool_ret (by rw [hp.out]; simp; omega), rfl⟩

set_option maxHeartbeats 1600000 in
set_option maxRecDepth 100000 in
theorem isWordByte_c (c : UInt8) (w : World) :
    Calls Try.prog 68 #[.int .u8 ((c.toNat : Nat) : Int)] w fun e w' => e = .returned (.bool (tailB c)) ∧ w = w' := by
  have HL := Lib.hid (isLetter_c c w)
  have HD := Lib.hid (isDigit_c c w)
  obtain ⟨n, hn⟩ : ∃ n : Nat, Hid (c.toNat = n) := ⟨_, rfl⟩
  obtain ⟨l, hl⟩ : ∃ l : Bool, Hid (letB c = l) := ⟨_, rfl⟩
  obtain ⟨d, hd⟩ : ∃ d : Bool, Hid (digB c = d) := ⟨_, rfl⟩
  have hp : Hid (tailB c = (l || d || decide (n = 45))) := by show _ = _; unfold tailB; rw [hn.out, hl.out, hd.out]
  rw [hn.out, hl.out] at HL
  rw [hn.out, hd.out] at HD
  rw [hn.out]
  cases l with
  | true =>
    go_enter Try.func68, Try.ntmps68
    go_wp2_with fail
    refine HL.out.mono ?_
    rintro e w' ⟨rfl, rfl⟩
    go_wp2_with fail
    go_ret
    exact ⟨bool_ret (by rw [hp.out]; rfl), rfl⟩
  | false =>
    cases d with
    | true =>
      go_enter Try.func68, Try.ntmps68
      go_wp2_with fail
      refine HL.out.mono ?_
      rintro e w' ⟨rfl, rfl⟩
      go_wp2_with fail
      refine HD.out.mono ?_
      rintro e w' ⟨rfl, rfl⟩
      go_wp2_with fail
      go_ret
      exact ⟨bool_ret (by rw [hp.out]; rfl), rfl⟩
    | false =>
      go_enter Try.func68, Try.ntmps68
      go_wp2_with fail
      refine HL.out.mono ?_
      rintro e w' ⟨rfl, rfl⟩
      go_wp2_with fail
      refine HD.out.mono ?_
      rintro e w' ⟨rfl, rfl⟩
      go_wp2_with fail
      go_ret
      exact ⟨bool_ret (by rw [hp.out]; exact beq_dec n 45 45 rfl), rfl⟩

set_option maxHeartbeats 1600000 in
set_option maxRecDepth 100000 in
theorem reftail_c (c : UInt8) (w : World) :
    Calls Try.prog 64 #[.int .u8 ((c.toNat : Nat) : Int)] w fun e w' => e = .returned (.bool (tailB c)) ∧ w = w' := by
  have HL := Lib.hid (refletter_c c w)
  have HD := Lib.hid (refdigit_c c w)
  obtain ⟨n, hn⟩ : ∃ n : Nat, Hid (c.toNat = n) := ⟨_, rfl⟩
  obtain ⟨l, hl⟩ : ∃ l : Bool, Hid (letB c = l) := ⟨_, rfl⟩
  obtain ⟨d, hd⟩ : ∃ d : Bool, Hid (digB c = d) := ⟨_, rfl⟩
  have hp : Hid (tailB c = (l || d || decide (n = 45))) := by show _ = _; unfold tailB; rw [hn.out, hl.out, hd.out]
  rw [hn.out, hl.out] at HL
  rw [hn.out, hd.out] at HD
  rw [hn.out]
  cases l with
  | true =>
    go_enter Try.func64, Try.ntmps64
    go_wp2_with fail
    refine HL.out.mono ?_
    rintro e w' ⟨rfl, rfl⟩
    go_wp2_with fail
    go_ret
    exact ⟨bool_ret (by rw [hp.out]; rfl), rfl⟩
  | false =>
    cases d with
    | true =>
      go_enter Try.func64, Try.ntmps64
      go_wp2_with fail
      refine HL.out.mono ?_
      rintro e w' ⟨rfl, rfl⟩
      go_wp2_with fail
      refine HD.out.mono ?_
      rintro e w' ⟨rfl, rfl⟩
      go_wp2_with fail
      go_ret
      exact ⟨bool_ret (by rw [hp.out]; rfl), rfl⟩
    | false =>
      go_enter Try.func64, Try.ntmps64
      go_wp2_with fail
      refine HL.out.mono ?_
      rintro e w' ⟨rfl, rfl⟩
      go_wp2_with fail
      refine HD.out.mono ?_
      rintro e w' ⟨rfl, rfl⟩
      go_wp2_with fail
      go_ret
      exact ⟨bool_ret (by rw [hp.out]; exact beq_dec n 45 45 rfl), rfl⟩

end Go.Proofs.Ytfknckbclddnmaa
