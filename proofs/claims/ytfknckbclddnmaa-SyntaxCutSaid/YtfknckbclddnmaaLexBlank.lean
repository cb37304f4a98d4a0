/-
  Blanks: lex.blankLength, and what it says of a text's reading.
-/
import Derived.Test.YtfknckbclddnmaaLexFirst
namespace Go.Proofs.Ytfknckbclddnmaa
open Go.RowKit Lx

namespace Lx
/-- How many bytes at the head are blanks or belong to comments; whether a comment has begun. -/
def blN : Bool → List UInt8 → Nat
  | _, [] => 0
  | true, c :: r => blN (!decide (c.toNat = 10)) r + 1
  | false, c :: r => if c.toNat = 35 then blN true r + 1 else if blankB c then blN false r + 1 else 0
theorem blN_nil (b : Bool) : blN b [] = 0 := by cases b <;> rfl
theorem blN_c10 {c : UInt8} (h : c.toNat = 10) (r : List UInt8) : blN true (c :: r) = blN false r + 1 := by rw [blN, decide_eq_true h]; rfl
theorem blN_cno {c : UInt8} (h : ¬ c.toNat = 10) (r : List UInt8) : blN true (c :: r) = blN true r + 1 := by rw [blN, decide_eq_false h]; rfl
theorem blN_hash {c : UInt8} (h : c.toNat = 35) (r : List UInt8) : blN false (c :: r) = blN true r + 1 := by rw [blN, if_pos h]
theorem blN_blank {c : UInt8} (h : ¬ c.toNat = 35) (hb : blankB c = true) (r : List UInt8) : blN false (c :: r) = blN false r + 1 := by rw [blN, if_neg h, if_pos hb]
theorem blN_none {c : UInt8} (h : ¬ c.toNat = 35) (hb : blankB c = false) (r : List UInt8) : blN false (c :: r) = 0 := by rw [blN, if_neg h, hb, if_neg (by decide)]
theorem blN_le : ∀ (l : List UInt8) (b : Bool), blN b l ≤ l.length
  | [], b => by rw [blN_nil]; exact Nat.le_refl _
  | c :: r, true => by rw [blN]; have := blN_le r (!decide (c.toNat = 10)); simp; omega
  | c :: r, false => by
    have h1 := blN_le r true
    have h2 := blN_le r false
    rw [blN]
    split
    · simp; omega
    · split
      · simp; omega
      · exact Nat.zero_le _
/-- A text as it reads within a comment, or outside. -/
def lexC (b : Bool) (l : List UInt8) (ln : Nat) : Res := if b then lexS (l.dropWhile notNl) ln else lexS l ln
theorem nlN_cons (c : UInt8) (l : List UInt8) : nlN (c :: l) = nlN l + (if c.toNat = 10 then 1 else 0) := by
  unfold nlN
  rw [List.countP_cons]
  by_cases h : c.toNat = 10 <;> simp [h]
theorem lexC_skip : ∀ (l : List UInt8) (b : Bool) (ln : Nat), lexC b l ln = lexS (l.drop (blN b l)) (ln + nlN (l.take (blN b l)))
  | [], b, ln => by cases b <;> simp [lexC, nlN]
  | c :: r, true, ln => by
    by_cases h : c.toNat = 10
    · rw [blN_c10 h, List.drop_succ_cons, List.take_succ_cons, nlN_cons, if_pos h]
      have := lexC_skip r false (ln + 1)
      unfold lexC at this ⊢
      rw [if_neg (by decide)] at this
      rw [if_pos rfl, List.dropWhile_cons, if_neg (by simp [notNl, h]), lexS_cons, if_neg (by omega), if_pos (by simp [blankB, h])]
      rw [show lineOf c ln = ln + 1 by unfold lineOf; rw [if_pos h], this]
      congr 1
      omega
    · rw [blN_cno h, List.drop_succ_cons, List.take_succ_cons, nlN_cons, if_neg h]
      have := lexC_skip r true ln
      unfold lexC at this ⊢
      rw [if_pos rfl] at this ⊢
      rw [List.dropWhile_cons, if_pos (by simp [notNl, h])]
      exact this
  | c :: r, false, ln => by
    by_cases h : c.toNat = 35
    · rw [blN_hash h, List.drop_succ_cons, List.take_succ_cons, nlN_cons, if_neg (by omega)]
      have := lexC_skip r true ln
      unfold lexC at this ⊢
      rw [if_pos rfl] at this
      rw [if_neg (by decide), lexS_cons, if_pos h]
      exact this
    · cases hb : blankB c with
      | true =>
        rw [blN_blank h hb, List.drop_succ_cons, List.take_succ_cons, nlN_cons]
        have := lexC_skip r false (lineOf c ln)
        unfold lexC at this ⊢
        rw [if_neg (by decide)] at this ⊢
        rw [lexS_cons, if_neg h, if_pos hb, this]
        congr 1
        unfold lineOf
        split <;> omega
      | false =>
        rw [blN_none h hb]
        simp [lexC, nlN]
theorem lexS_skip (l : List UInt8) (ln : Nat) : lexS l ln = lexS (l.drop (blN false l)) (ln + nlN (l.take (blN false l))) := lexC_skip l false ln
theorem blN_head : ∀ (l : List UInt8) (b : Bool) (c : UInt8) (r : List UInt8), l.drop (blN b l) = c :: r → c.toNat ≠ 35 ∧ blankB c = false
  | [], b, c, r, h => by rw [blN_nil] at h; cases h
  | d :: l, true, c, r, h => by
    rw [blN, List.drop_succ_cons] at h
    exact blN_head l _ c r h
  | d :: l, false, c, r, h => by
    by_cases h35 : d.toNat = 35
    · rw [blN_hash h35, List.drop_succ_cons] at h
      exact blN_head l _ c r h
    · cases hb : blankB d with
      | true =>
        rw [blN_blank h35 hb, List.drop_succ_cons] at h
        exact blN_head l _ c r h
      | false =>
        rw [blN_none h35 hb] at h
        injection h with h1 h2
        subst h1
        exact ⟨h35, hb⟩
theorem nlN_le (l : List UInt8) : nlN l ≤ l.length := List.countP_le_length
/-- What stands at the head that is no blank: a token, or a fault. -/
theorem lexS_tok {c : UInt8} {r : List UInt8} (h : c.toNat ≠ 35 ∧ blankB c = false) (ln : Nat) : lexS (c :: r) ln = match oneS (c :: r) with
      | none => .err ln
      | some x => (lexS ((c :: r).drop x.2.2) ln).cons ⟨x.1, x.2.1, ln⟩ := by
  rw [lexS_cons, if_neg h.1, h.2, if_neg (by decide)]
  cases hx : oneS (c :: r) with
  | none => rfl
  | some x =>
    have := oneS_pos _ _ hx
    simp only
    rw [show x.2.2 = (x.2.2 - 1) + 1 by omega, List.drop_succ_cons]
    rfl
end Lx

set_option maxHeartbeats 1600000 in
set_option maxRecDepth 100000 in
theorem blankLength_c (s : ByteArray) (w : World) (hs : s.size ≤ 1000000) :
    Calls Try.prog 30 #[.string s] w fun e w' => e = .returned (.int .i64 ((blN false (bys s) : Nat) : Int)) ∧ w = w' := by
  obtain ⟨R, hR⟩ : ∃ R, Hid (blN false (bys s) = R) := ⟨_, rfl⟩
  rw [hR.out]
  go_enter Try.func30, Try.ntmps30
  go_wp2_with fail
  go_loop [3, 7] (fun cm i => ∃ (j : Nat) (b : Bool), j ≤ s.size ∧ i = .int .i64 j ∧ cm = .bool b ∧ Hid (R = j + blN b ((bys s).drop j))) (fun _ i => s.size - (intOf i).toNat)
  case atStart => exact ⟨0, false, Nat.zero_le _, rfl, rfl, by show _ = _; rw [List.drop_zero, hR.out, Nat.zero_add]⟩
  case round =>
    obtain ⟨j, b, hj, rfl, rfl, hI⟩ := hrel
    by_cases hlt : j < s.size
    · have hlt' : (j : Int) < (s.size : Int) := by omega
      obtain ⟨c, hc, x1⟩ := at_s s j hlt
      have HB := isBlank_c c w
      obtain ⟨n, hn⟩ : ∃ n : Nat, Hid (c.toNat = n) := ⟨_, rfl⟩
      obtain ⟨k, hk⟩ : ∃ k, Hid (blankB c = k) := ⟨_, rfl⟩
      rw [hn.out] at x1
      rw [hn.out, hk.out] at HB
      have HB := Lib.hid HB
      have HI : Hid (R = j + blN b (c :: (bys s).drop (j + 1))) := by show _ = _; rw [hI.out, hc.out]
      clear hI
      cases b with
      | true =>
        by_cases h10 : n = 10
        · have k10 : ((n : Int) != 10) = false := by simp; omega
          have hN : Hid (R = (j + 1) + blN false ((bys s).drop (j + 1))) := by show _ = _; rw [HI.out, blN_c10 (by rw [hn.out]; exact h10)]; omega
          clear HI h10
          go_wp2_with fail
          go_round
          case rel => exact ⟨j + 1, false, by omega, by go_num, rfl, hN⟩
          case measure => simp [intOf]; omega
        · have k10 : ((n : Int) != 10) = true := by simp; omega
          have hN : Hid (R = (j + 1) + blN true ((bys s).drop (j + 1))) := by show _ = _; rw [HI.out, blN_cno (by rw [hn.out]; exact h10)]; omega
          clear HI h10
          go_wp2_with fail
          go_round
          case rel => exact ⟨j + 1, true, by omega, by go_num, rfl, hN⟩
          case measure => simp [intOf]; omega
      | false =>
        by_cases h35 : n = 35
        · have k35 : ((n : Int) == 35) = true := by simp; omega
          have hN : Hid (R = (j + 1) + blN true ((bys s).drop (j + 1))) := by show _ = _; rw [HI.out, blN_hash (by rw [hn.out]; exact h35)]; omega
          clear HI h35
          go_wp2_with fail
          go_round
          case rel => exact ⟨j + 1, true, by omega, by go_num, rfl, hN⟩
          case measure => simp [intOf]; omega
        · have k35 : ((n : Int) == 35) = false := by rw [beq_eq_false_iff_ne]; omega
          cases k with
          | true =>
            have hN : Hid (R = (j + 1) + blN false ((bys s).drop (j + 1))) := by show _ = _; rw [HI.out, blN_blank (by rw [hn.out]; exact h35) hk.out]; omega
            clear HI h35
            go_wp2_with fail
            refine HB.out.mono ?_
            rintro e w' ⟨rfl, rfl⟩
            go_wp2_with fail
            go_round
            case rel => exact ⟨j + 1, false, by omega, by go_num, rfl, hN⟩
            case measure => simp [intOf]; omega
          | false =>
            have hN : Hid (R = j) := by show _ = _; rw [HI.out, blN_none (by rw [hn.out]; exact h35) hk.out]; omega
            clear HI h35
            go_wp2_with fail
            refine HB.out.mono ?_
            rintro e w' ⟨rfl, rfl⟩
            go_wp2_with fail
            go_ret
            exact ⟨i64_ret (by rw [hN.out]), rfl⟩
    · obtain rfl : j = s.size := by omega
      have hN : Hid (R = s.size) := by show _ = _; rw [hI.out, bys_end, blN_nil, Nat.add_zero]
      clear hI
      go_wp2_with fail
      go_ret
      exact ⟨i64_ret (by rw [hN.out]), rfl⟩
end Go.Proofs.Ytfknckbclddnmaa
