/-
  electionref06.Plain, electionref06.Quote, lex.Quote.
-/
import Derived.Test.YtfknckbclddnmaaLexTokAt
namespace Go.Proofs.Ytfknckbclddnmaa
open Go.RowKit Lx

namespace Lx
/-- A byte as it stands between quotes. -/
def escL (c : UInt8) : List UInt8 := if escB c then [92, c] else [c]
def escAll (l : List UInt8) : List UInt8 := l.flatMap escL
theorem escAll_cons (c : UInt8) (l : List UInt8) : escAll (c :: l) = escL c ++ escAll l := rfl
theorem escAll_snoc (l : List UInt8) (c : UInt8) : escAll (l ++ [c]) = escAll l ++ escL c := by simp [escAll]
theorem escL_yes {c : UInt8} (h : escB c = true) : escL c = [92, c] := by unfold escL; rw [if_pos h]
theorem escL_no {c : UInt8} (h : escB c = false) : escL c = [c] := by unfold escL; rw [h]; rfl
theorem escL_len (c : UInt8) : (escL c).length ≤ 2 := by unfold escL; split <;> simp
theorem escAll_len (l : List UInt8) : (escAll l).length ≤ 2 * l.length := by
  induction l with
  | nil => exact Nat.le_refl _
  | cons c l ih => rw [escAll_cons, List.length_append, List.length_cons]; have := escL_len c; omega
/-- What Quote hands back. -/
def quoV (l : List UInt8) : ByteArray × Bool := if l.all plainB then (stg (34 :: escAll l ++ [34]), true) else (⟨#[]⟩, false)
theorem quoV_yes {l : List UInt8} (h : l.all plainB = true) : quoV l = (stg (34 :: escAll l ++ [34]), true) := if_pos h
theorem quoV_no {l : List UInt8} (h : l.all plainB = false) : quoV l = (⟨#[]⟩, false) := if_neg (by rw [h]; decide)
theorem take_next_b {l : List UInt8} {j : Nat} {c : UInt8} (h : l.drop j = c :: l.drop (j + 1)) : l.take (j + 1) = l.take j ++ [c] := by
  rw [List.take_add, h]; rfl
theorem all_split {l : List UInt8} {j : Nat} {c : UInt8} (h : l.drop j = c :: l.drop (j + 1)) (hc : plainB c = false) : l.all plainB = false := by
  rw [← List.take_append_drop j l, List.all_append, h, List.all_cons, hc]; simp
end Lx
theorem quo_ret {p : ByteArray × Bool} {t : ByteArray} {b : Bool} (h : p = (t, b)) : Ending.returned (.tuple #[.string t, .bool b]) = .returned (.tuple #[.string p.1, .bool p.2]) := by rw [h]

set_option maxHeartbeats 1600000 in
set_option maxRecDepth 100000 in
theorem plain_c (s : ByteArray) (w : World) (hs : s.size ≤ 1000000) :
    Calls Try.prog 42 #[.string s] w fun e w' => e = .returned (.bool ((bys s).all plainB)) ∧ w = w' := by
  obtain ⟨R, hR⟩ : ∃ R, Hid ((bys s).all plainB = R) := ⟨_, rfl⟩
  rw [hR.out]
  go_enter Try.func42, Try.ntmps42
  go_wp2_with fail
  go_loop [3] (fun i => ∃ j : Nat, j ≤ s.size ∧ i = .int .i64 j ∧ Hid (R = ((bys s).drop j).all plainB)) (fun i => s.size - (intOf i).toNat)
  case atStart => exact ⟨0, Nat.zero_le _, rfl, by show _ = _; rw [List.drop_zero, hR.out]⟩
  case round =>
    obtain ⟨j, hj, rfl, hI⟩ := hrel
    by_cases hlt : j < s.size
    · have hlt' : (j : Int) < (s.size : Int) := by omega
      obtain ⟨d, hd, x1⟩ := at_s s j hlt
      obtain ⟨n, hn⟩ : ∃ n : Nat, Hid (d.toNat = n) := ⟨_, rfl⟩
      rw [hn.out] at x1
      have HI : Hid (R = (plainB d && ((bys s).drop (j + 1)).all plainB)) := by show _ = _; rw [hI.out, hd.out, List.all_cons]
      clear hI
      by_cases h32 : n < 32
      · have k32 : (n : Int) < 32 := by omega
        have hN : Hid (R = false) := by show _ = _; rw [HI.out, show plainB d = false by simp [plainB, hn.out]; omega]; rfl
        clear h32 HI
        go_wp2_with fail
        go_ret
        exact ⟨bool_ret hN.out.symm, rfl⟩
      · have k32 : ¬ (n : Int) < 32 := by omega
        by_cases h126 : n > 126
        · have k126 : (n : Int) > 126 := by omega
          have hN : Hid (R = false) := by show _ = _; rw [HI.out, show plainB d = false by simp [plainB, hn.out]; omega]; rfl
          clear h32 h126 HI
          go_wp2_with fail
          go_ret
          exact ⟨bool_ret hN.out.symm, rfl⟩
        · have k126 : ¬ (n : Int) > 126 := by omega
          have hN : Hid (R = ((bys s).drop (j + 1)).all plainB) := by show _ = _; rw [HI.out, show plainB d = true by simp [plainB, hn.out]; omega]; rfl
          clear h32 h126 HI
          go_wp2_with fail
          go_round
          case rel => exact ⟨j + 1, by omega, by go_num, hN⟩
          case measure => simp [intOf]; omega
    · obtain rfl : j = s.size := by omega
      have hN : Hid (R = true) := by show _ = _; rw [hI.out, bys_end]; rfl
      clear hI
      go_wp2_with fail
      go_ret
      exact ⟨bool_ret hN.out.symm, rfl⟩

set_option maxHeartbeats 3200000 in
set_option maxRecDepth 100000 in
theorem refquote_c (s : ByteArray) (w : World) (hs : s.size ≤ 1000000) :
    Calls Try.prog 25 #[.string s] w fun e w' => e = .returned (.tuple #[.string (quoV (bys s)).1, .bool (quoV (bys s)).2]) ∧ w = w' := by
  have HP := plain_c s w hs
  obtain ⟨p, hp⟩ : ∃ p, Hid ((bys s).all plainB = p) := ⟨_, rfl⟩
  rw [hp.out] at HP
  have HP := Lib.hid HP
  obtain ⟨R, hR⟩ : ∃ R, Hid (quoV (bys s) = R) := ⟨_, rfl⟩
  rw [hR.out]
  cases p with
  | false =>
    have hN : Hid (R = (⟨#[]⟩, false)) := by show _ = _; rw [← hR.out, quoV_no hp.out]
    go_enter Try.func25, Try.ntmps25
    go_wp2_with fail
    refine HP.out.mono ?_
    rintro e w' ⟨rfl, rfl⟩
    go_wp2_with fail
    go_ret2
    exact ⟨quo_ret hN.out, rfl⟩
  | true =>
    have hN : Hid (R = (stg (34 :: escAll (bys s) ++ [34]), true)) := by show _ = _; rw [← hR.out, quoV_yes hp.out]
    go_enter Try.func25, Try.ntmps25
    go_wp2_with fail
    refine HP.out.mono ?_
    rintro e w' ⟨rfl, rfl⟩
    go_wp2_with fail
    go_loop [4, 5] (fun t i => ∃ (j : Nat) (T : ByteArray), j ≤ s.size ∧ i = .int .i64 j ∧ t = .string T ∧ T.size ≤ 2 * j + 1 ∧ Hid (bys T = 34 :: escAll ((bys s).take j))) (fun _ i => s.size - (intOf i).toNat)
    case atStart => exact ⟨0, ⟨#[34]⟩, Nat.zero_le _, rfl, rfl, Nat.le_refl _, rfl⟩
    case round =>
      obtain ⟨j, T, hj, rfl, rfl, hT, hI⟩ := hrel
      by_cases hlt : j < s.size
      · have hlt' : (j : Int) < (s.size : Int) := by omega
        obtain ⟨d, hd, x1⟩ := at_s s j hlt
        obtain ⟨n, hn⟩ : ∃ n : Nat, Hid (d.toNat = n) := ⟨_, rfl⟩
        rw [hn.out] at x1
        have c1 : (0 : Int) ≤ (j : Int) := by omega
        have c3 : (j : Int) ≤ (j : Int) + 1 := by omega
        have c4 : (j : Int) + 1 ≤ (s.size : Int) := by omega
        have c5 : IntKind.i64.wrap ((j : Int) + 1) = (j : Int) + 1 := IntWalk.i64_in _ (by omega)
        have c6 : ((j : Int) + 1).toNat = j + 1 := by omega
        have hX : Hid (bys (s.extract j (j + 1)) = [d]) := bys_one s j hd.out
        have hXs : (s.extract j (j + 1)).size = 1 := by rw [ByteArray.size_extract]; omega
        have hnx : Hid (34 :: escAll ((bys s).take (j + 1)) = (34 :: escAll ((bys s).take j)) ++ escL d) := by
          show _ = _
          rw [take_next_b hd.out, escAll_snoc]; rfl
        by_cases h34 : n = 34
        · have k34 : ((n : Int) == 34) = true := by simp; omega
          have hM : Hid (bys (T ++ ⟨#[92]⟩ ++ s.extract j (j + 1)) = 34 :: escAll ((bys s).take (j + 1))) := by
            show _ = _
            rw [hnx.out, bys_append, bys_append, hX.out, hI.out, escL_yes (by simp [escB, hn.out, h34]), List.append_assoc]; rfl
          have hMs : (T ++ ⟨#[92]⟩ ++ s.extract j (j + 1)).size ≤ 2 * (j + 1) + 1 := by
            rw [ByteArray.size_append, ByteArray.size_append, hXs, show (⟨#[92]⟩ : ByteArray).size = 1 from rfl]; omega
          have m1 : (⟨#[92]⟩ : ByteArray).size = 1 := rfl
          clear h34 hI hnx
          go_wp2_with fail
          go_round
          case rel => exact ⟨j + 1, _, by omega, by go_num, rfl, hMs, hM⟩
          case measure => simp [intOf]; omega
        · have k34 : ((n : Int) == 34) = false := by rw [beq_eq_false_iff_ne]; omega
          by_cases h92 : n = 92
          · have k92 : ((n : Int) == 92) = true := by simp; omega
            have hM : Hid (bys (T ++ ⟨#[92]⟩ ++ s.extract j (j + 1)) = 34 :: escAll ((bys s).take (j + 1))) := by
              show _ = _
              rw [hnx.out, bys_append, bys_append, hX.out, hI.out, escL_yes (by simp [escB, hn.out, h92]), List.append_assoc]; rfl
            have hMs : (T ++ ⟨#[92]⟩ ++ s.extract j (j + 1)).size ≤ 2 * (j + 1) + 1 := by
              rw [ByteArray.size_append, ByteArray.size_append, hXs, show (⟨#[92]⟩ : ByteArray).size = 1 from rfl]; omega
            have m1 : (⟨#[92]⟩ : ByteArray).size = 1 := rfl
            clear h34 h92 hI hnx
            go_wp2_with fail
            go_round
            case rel => exact ⟨j + 1, _, by omega, by go_num, rfl, hMs, hM⟩
            case measure => simp [intOf]; omega
          · have k92 : ((n : Int) == 92) = false := by rw [beq_eq_false_iff_ne]; omega
            have hM : Hid (bys (T ++ s.extract j (j + 1)) = 34 :: escAll ((bys s).take (j + 1))) := by
              show _ = _
              rw [hnx.out, bys_append, hX.out, hI.out, escL_no (by simp [escB, hn.out, h34, h92])]
            have hMs : (T ++ s.extract j (j + 1)).size ≤ 2 * (j + 1) + 1 := by
              rw [ByteArray.size_append, hXs]; omega
            clear h34 h92 hI hnx
            go_wp2_with fail
            go_round
            case rel => exact ⟨j + 1, _, by omega, by go_num, rfl, hMs, hM⟩
            case measure => simp [intOf]; omega
      · obtain rfl : j = s.size := by omega
        have hN2 : Hid (R = (T ++ ⟨#[34]⟩, true)) := by
          show _ = _
          rw [hN.out]
          congr 1
          apply bys_inj
          rw [bys_append, hI.out, List.take_of_length_le (by rw [bys_len]; exact Nat.le_refl _)]
          rfl
        have m1 : (⟨#[34]⟩ : ByteArray).size = 1 := rfl
        clear hI hN
        go_wp2_with fail
        go_ret2
        exact ⟨quo_ret hN2.out, rfl⟩
end Go.Proofs.Ytfknckbclddnmaa
