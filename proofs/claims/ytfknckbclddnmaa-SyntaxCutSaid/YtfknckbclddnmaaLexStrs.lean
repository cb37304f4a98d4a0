/-
  Strings: lex.unquote, electionref06.str.
-/
import Derived.Test.YtfknckbclddnmaaLexBare
namespace Go.Proofs.Ytfknckbclddnmaa
open Go.RowKit Lx

namespace Lx
/-- What a reader of strings hands back. -/
def resS : Option (List UInt8 × Nat) → ByteArray × Nat
  | none => (⟨#[]⟩, 0)
  | some x => (stg x.1, x.2)
/-- What came so far, and what the rest reads as. -/
def addS (t : List UInt8) (j : Nat) (r : Option (List UInt8 × Nat)) : Option (List UInt8 × Nat) := r.map fun x => (t ++ x.1, x.2 + j)
theorem addS_zero (r : Option (List UInt8 × Nat)) : addS [] 0 r = r := by cases r <;> rfl
theorem addS_end (t : List UInt8) (j : Nat) {c : UInt8} (h : c.toNat = 34) (r : List UInt8) : addS t j (strS (c :: r)) = some (t, 1 + j) := by
  rw [strS_cons, if_pos h]; simp [addS]
theorem addS_bad (t : List UInt8) (j : Nat) {c : UInt8} (h : ¬ c.toNat = 34) (hp : plainB c = false) (r : List UInt8) : addS t j (strS (c :: r)) = none := by
  rw [strS_cons, if_neg h, hp]; rfl
theorem addS_plain (t : List UInt8) (j : Nat) {c : UInt8} (h : ¬ c.toNat = 34) (h2 : ¬ c.toNat = 92) (hp : plainB c = true) (r : List UInt8) : addS t j (strS (c :: r)) = addS (t ++ [c]) (j + 1) (strS r) := by
  rw [strS_cons, if_neg h, if_pos hp, if_neg h2]
  unfold addS
  rw [Option.map_map]
  congr 1
  funext x
  simp only [Function.comp, List.append_assoc, List.cons_append, List.nil_append, Prod.mk.injEq, true_and]
  omega
theorem addS_esc (t : List UInt8) (j : Nat) {c d : UInt8} (h2 : c.toNat = 92) (hd : escB d = true) (r : List UInt8) : addS t j (strS (c :: d :: r)) = addS (t ++ [d]) (j + 2) (strS r) := by
  rw [strS_cons, if_neg (by omega), if_pos (by simp [plainB, h2]), if_pos h2]
  simp only [if_pos hd]
  unfold addS
  rw [Option.map_map]
  congr 1
  funext x
  simp only [Function.comp, List.append_assoc, List.cons_append, List.nil_append, Prod.mk.injEq, true_and]
  omega
theorem addS_esc_bad (t : List UInt8) (j : Nat) {c d : UInt8} (h2 : c.toNat = 92) (hd : escB d = false) (r : List UInt8) : addS t j (strS (c :: d :: r)) = none := by
  rw [strS_cons, if_neg (by omega), if_pos (by simp [plainB, h2]), if_pos h2]
  simp [addS, hd]
theorem addS_esc_end (t : List UInt8) (j : Nat) {c : UInt8} (h2 : c.toNat = 92) : addS t j (strS [c]) = none := by
  rw [strS_cons, if_neg (by omega), if_pos (by simp [plainB, h2]), if_pos h2]
  rfl
theorem addS_nil (t : List UInt8) (j : Nat) : addS t j (strS []) = none := by rw [strS]; rfl
theorem bys_one (s : ByteArray) (j : Nat) {c : UInt8} {r : List UInt8} (h : (bys s).drop j = c :: r) : bys (s.extract j (j + 1)) = [c] := by
  rw [bys_extract, h, show j + 1 - j = 1 by omega]; rfl
theorem strOf_ints (l : List UInt8) : strOf (l.map fun b => ((b.toNat : Nat) : Int)) = stg l := by
  unfold strOf stg
  rw [List.map_map]
  congr 2
  have : ((fun x => UInt8.ofNat x.toNat) ∘ fun b : UInt8 => ((b.toNat : Nat) : Int)) = id := by
    funext b
    simp [Function.comp]
  rw [this, List.map_id]
theorem plain_esc {c : UInt8} (h : c.toNat = 92) : plainB c = true := by simp [plainB, h]
theorem plain_of_esc {c : UInt8} (h : escB c = true) : plainB c = true := by
  simp only [escB, Bool.or_eq_true, decide_eq_true_eq] at h
  rcases h with h | h <;> simp [plainB, h]
end Lx
theorem str_ret {r : Option (List UInt8 × Nat)} {t : ByteArray} {k : Nat} (h : resS r = (t, k)) : Ending.returned (.tuple #[.string t, .int .i64 (k : Int)]) = .returned (.tuple #[.string (resS r).1, .int .i64 (((resS r).2 : Nat) : Int)]) := by rw [h]

set_option maxHeartbeats 3200000 in
set_option maxRecDepth 100000 in
theorem refstr_c (s : ByteArray) (w : World) (hs : s.size ≤ 1000000) :
    Calls Try.prog 47 #[.string s] w fun e w' => e = .returned (.tuple #[.string (resS (strS (bys s))).1, .int .i64 (((resS (strS (bys s))).2 : Nat) : Int)]) ∧ w = w' := by
  obtain ⟨R, hR⟩ : ∃ R, Hid (strS (bys s) = R) := ⟨_, rfl⟩
  rw [hR.out]
  go_enter Try.func47, Try.ntmps47
  go_wp2_with fail
  go_loop [4, 5] (fun t i => ∃ (j : Nat) (T : ByteArray), j ≤ s.size ∧ T.size ≤ j ∧ i = .int .i64 j ∧ t = .string T ∧ Hid (R = addS (bys T) j (strS ((bys s).drop j)))) (fun _ i => s.size - (intOf i).toNat)
  case atStart => exact ⟨0, ⟨#[]⟩, Nat.zero_le _, Nat.le_refl _, rfl, rfl, by show _ = _; rw [List.drop_zero, hR.out]; exact (addS_zero R).symm⟩
  case round =>
    obtain ⟨j, T, hj, hT, rfl, rfl, hI⟩ := hrel
    by_cases hlt : j < s.size
    · have hlt' : (j : Int) < (s.size : Int) := by omega
      obtain ⟨d, hd, x1⟩ := at_s s j hlt
      obtain ⟨n, hn⟩ : ∃ n : Nat, Hid (d.toNat = n) := ⟨_, rfl⟩
      rw [hn.out] at x1
      have hlt256 : Hid (n < 256) := by show _ < _; rw [← hn.out]; exact UInt8.toNat_lt d
      have HI : Hid (R = addS (bys T) j (strS (d :: (bys s).drop (j + 1)))) := by show _ = _; rw [hI.out, hd.out]
      have c1 : (0 : Int) ≤ (j : Int) := by omega
      have c3 : (j : Int) ≤ (j : Int) + 1 := by omega
      have c4 : (j : Int) + 1 ≤ (s.size : Int) := by omega
      have c5 : IntKind.i64.wrap ((j : Int) + 1) = (j : Int) + 1 := IntWalk.i64_in _ (by omega)
      have c6 : ((j : Int) + 1).toNat = j + 1 := by omega
      clear hI
      by_cases h34 : n = 34
      · have k34 : ((n : Int) == 34) = true := by simp; omega
        have hN : Hid (resS R = (T, j + 1)) := by
          show _ = _
          rw [HI.out, addS_end _ _ (by rw [hn.out]; exact h34), resS, stg_bys, Nat.add_comm]
        clear h34
        go_wp2_with fail
        go_ret2
        exact ⟨str_ret hN.out, rfl⟩
      · have k34 : ((n : Int) == 34) = false := by rw [beq_eq_false_iff_ne]; omega
        have HN34 := Lib.hid h34
        clear h34
        by_cases h32 : n < 32
        · have k32 : (n : Int) < 32 := by omega
          have hN : Hid (resS R = (⟨#[]⟩, 0)) := by
            show _ = _
            rw [HI.out, addS_bad _ _ (by rw [hn.out]; exact HN34.out) (by simp [plainB, hn.out]; omega)]
            rfl
          clear h32
          go_wp2_with fail
          go_ret2
          exact ⟨str_ret hN.out, rfl⟩
        · have k32 : ¬ (n : Int) < 32 := by omega
          by_cases h126 : n > 126
          · have k126 : (n : Int) > 126 := by omega
            have hN : Hid (resS R = (⟨#[]⟩, 0)) := by
              show _ = _
              rw [HI.out, addS_bad _ _ (by rw [hn.out]; exact HN34.out) (by simp [plainB, hn.out]; omega)]
              rfl
            clear h32 h126
            go_wp2_with fail
            go_ret2
            exact ⟨str_ret hN.out, rfl⟩
          · have k126 : ¬ (n : Int) > 126 := by omega
            have hpl : Hid (plainB d = true) := by show _ = _; simp [plainB, hn.out]; omega
            clear h32 h126
            by_cases h92 : n = 92
            · have k92 : ((n : Int) == 92) = true := by simp; omega
              have HN92 := Lib.hid h92
              clear h92
              by_cases hlt2 : j + 1 < s.size
              · have hlt2' : ¬ ((j : Int) + 1 ≥ (s.size : Int)) := by omega
                obtain ⟨d2, hd2, x2⟩ := at_s s (j + 1) hlt2
                rw [show ((j + 1 : Nat) : Int) = (j : Int) + 1 by omega] at x2
                obtain ⟨n2, hn2⟩ : ∃ n : Nat, Hid (d2.toNat = n) := ⟨_, rfl⟩
                rw [hn2.out] at x2
                have HI2 : Hid (R = addS (bys T) j (strS (d :: d2 :: (bys s).drop (j + 2)))) := by show _ = _; rw [HI.out, hd2.out]
                have e1 : (0 : Int) ≤ (j : Int) + 1 := by omega
                have e3 : (j : Int) + 1 ≤ (j : Int) + 1 + 1 := by omega
                have e4 : (j : Int) + 1 + 1 ≤ (s.size : Int) := by omega
                have e5 : IntKind.i64.wrap ((j : Int) + 1 + 1) = (j : Int) + 1 + 1 := IntWalk.i64_in _ (by omega)
                have e6 : ((j : Int) + 1 + 1).toNat = j + 2 := by omega
                have hX : Hid (bys (s.extract (j + 1) (j + 2)) = [d2]) := bys_one s (j + 1) hd2.out
                have hXs : (s.extract (j + 1) (j + 2)).size = 1 := by rw [ByteArray.size_extract]; omega
                have go : ∀ W : Prop, W → W := fun _ h => h
                by_cases h34' : n2 = 34
                · have k2 : ((n2 : Int) != 34) = false := by simp; omega
                  have hN : Hid (R = addS (bys (T ++ s.extract (j + 1) (j + 2))) (j + 2) (strS ((bys s).drop (j + 2)))) := by
                    show _ = _
                    rw [HI2.out, addS_esc _ _ (by rw [hn.out]; exact HN92.out) (by simp [escB, hn2.out, h34']), bys_append, hX.out]
                  clear h34' go
                  go_wp2_with fail
                  go_round
                  case rel => exact ⟨j + 2, T ++ s.extract (j + 1) (j + 2), by omega, by rw [ByteArray.size_append]; omega, by go_num, rfl, hN⟩
                  case measure => simp [intOf]; omega
                · have k2 : ((n2 : Int) != 34) = true := by simp; omega
                  by_cases h92' : n2 = 92
                  · have k3 : ((n2 : Int) != 92) = false := by simp; omega
                    have hN : Hid (R = addS (bys (T ++ s.extract (j + 1) (j + 2))) (j + 2) (strS ((bys s).drop (j + 2)))) := by
                      show _ = _
                      rw [HI2.out, addS_esc _ _ (by rw [hn.out]; exact HN92.out) (by simp [escB, hn2.out, h92']), bys_append, hX.out]
                    clear h34' h92' go
                    go_wp2_with fail
                    go_round
                    case rel => exact ⟨j + 2, T ++ s.extract (j + 1) (j + 2), by omega, by rw [ByteArray.size_append]; omega, by go_num, rfl, hN⟩
                    case measure => simp [intOf]; omega
                  · have k3 : ((n2 : Int) != 92) = true := by simp; omega
                    have hN : Hid (resS R = (⟨#[]⟩, 0)) := by
                      show _ = _
                      rw [HI2.out, addS_esc_bad _ _ (by rw [hn.out]; exact HN92.out) (by simp [escB, hn2.out, h34', h92'])]
                      rfl
                    clear h34' h92' go
                    go_wp2_with fail
                    go_ret2
                    exact ⟨str_ret hN.out, rfl⟩
              · have hlt2' : ((j : Int) + 1 ≥ (s.size : Int)) := by omega
                have hN : Hid (resS R = (⟨#[]⟩, 0)) := by
                  show _ = _
                  rw [HI.out, List.drop_of_length_le (by rw [bys_len]; omega), addS_esc_end _ _ (by rw [hn.out]; exact HN92.out)]
                  rfl
                go_wp2_with fail
                go_ret2
                exact ⟨str_ret hN.out, rfl⟩
            · have k92 : ((n : Int) == 92) = false := by rw [beq_eq_false_iff_ne]; omega
              have hX : Hid (bys (s.extract j (j + 1)) = [d]) := bys_one s j hd.out
              have hXs : (s.extract j (j + 1)).size = 1 := by rw [ByteArray.size_extract]; omega
              have hN : Hid (R = addS (bys (T ++ s.extract j (j + 1))) (j + 1) (strS ((bys s).drop (j + 1)))) := by
                show _ = _
                rw [HI.out, addS_plain _ _ (by rw [hn.out]; exact HN34.out) (by rw [hn.out]; exact h92) hpl.out, bys_append, hX.out]
              clear h92
              go_wp2_with fail
              go_round
              case rel => exact ⟨j + 1, T ++ s.extract j (j + 1), by omega, by rw [ByteArray.size_append]; omega, by go_num, rfl, hN⟩
              case measure => simp [intOf]; omega
    · obtain rfl : j = s.size := by omega
      have hN : Hid (resS R = (⟨#[]⟩, 0)) := by show _ = _; rw [hI.out, bys_end, addS_nil]; rfl
      clear hI
      go_wp2_with fail
      go_ret2
      exact ⟨str_ret hN.out, rfl⟩
end Go.Proofs.Ytfknckbclddnmaa
