/-
  A text that ends inside a definition: the reading fails at its end. No program, no world.
-/
import Derived.Test.YtfknckbclddnmaaSynCanon
namespace Go.Proofs.Ytfknckbclddnmaa.Lx

/-! The tokens of the head of a text. -/
theorem strS_app (v : List UInt8) (u : List UInt8) : ∀ x, strS u = some x → strS (u ++ v) = some x := by
  induction u using strS.induct with
  | case1 => intro x h; simp [strS] at h
  | case2 c r h => intro x h'; rw [strS_cons, if_pos h] at h'; rw [List.cons_append, strS_cons, if_pos h]; exact h'
  | case3 c h1 h2 h3 => intro x h; rw [strS_cons, if_neg h1, if_pos h2, if_pos h3] at h; cases h
  | case4 c h1 h2 h3 d q h4 ih =>
    intro x h
    rw [strS_cons, if_neg h1, if_pos h2, if_pos h3] at h
    simp only [if_pos h4] at h
    obtain ⟨y, hy, rfl⟩ := Option.map_eq_some_iff.1 h
    rw [List.cons_append, List.cons_append, strS_cons, if_neg h1, if_pos h2, if_pos h3]
    simp only [if_pos h4, ih y hy, Option.map_some]
  | case5 c h1 h2 h3 d q h4 => intro x h; rw [strS_cons, if_neg h1, if_pos h2, if_pos h3] at h; simp only [if_neg h4] at h; cases h
  | case6 c r h1 h2 h3 ih =>
    intro x h
    rw [strS_cons, if_neg h1, if_pos h2, if_neg h3] at h
    obtain ⟨y, hy, rfl⟩ := Option.map_eq_some_iff.1 h
    rw [List.cons_append, strS_cons, if_neg h1, if_pos h2, if_neg h3, ih y hy, Option.map_some]
  | case7 c r h1 h2 => intro x h; rw [strS_cons, if_neg h1, if_neg h2] at h; cases h
theorem take_while_all (p : UInt8 → Bool) : ∀ (u v : List UInt8), u.all p = true → (u ++ v).takeWhile p = u ++ v.takeWhile p
  | [], v, _ => rfl
  | c :: u, v, h => by
    rw [List.all_cons, Bool.and_eq_true] at h
    rw [List.cons_append, List.takeWhile_cons, if_pos h.1, take_while_all p u v h.2]
    rfl
/-- The run of bytes of words at the head: it ends within the text, or it is the text. -/
theorem run_or (u : List UInt8) : u.all tailB = true ∨ ∀ v, (u ++ v).takeWhile tailB = u.takeWhile tailB := by
  induction u with
  | nil => exact Or.inl rfl
  | cons c u ih =>
    cases hc : tailB c with
    | false => exact Or.inr fun v => by rw [List.cons_append, List.takeWhile_cons, List.takeWhile_cons, hc]; rfl
    | true =>
      rcases ih with h | h
      · exact Or.inl (by rw [List.all_cons, hc, h]; rfl)
      · exact Or.inr fun v => by rw [List.cons_append, List.takeWhile_cons, List.takeWhile_cons, h v]
/-- A token at the head of a text is there too when the text goes on, but for a word or a number that goes on itself. -/
theorem oneS_app (c : UInt8) (r v : List UInt8) (x : Nat × List UInt8 × Nat) (h : oneS (c :: r) = some x) :
    oneS (c :: r ++ v) = some x ∨ ((c :: r).all tailB = true ∧ x.2.1 = c :: r ∧ x.2.2 = (c :: r).length ∧ (x.1 = 1 ∨ x.1 = 2) ∧ (x.1 = 1 → letB c = true) ∧ (x.1 = 2 → digB c = true)) := by
  rcases run_or (c :: r) with ha | hr
  · have ht : (c :: r).takeWhile tailB = c :: r := by
      have := take_while_all tailB (c :: r) [] ha
      simpa using this
    have hc : tailB c = true := by rw [List.all_cons, Bool.and_eq_true] at ha; exact ha.1
    unfold oneS at h
    rw [ht] at h
    split at h
    · rename_i hw
      injection h with h; subst h
      refine Or.inr ⟨ha, rfl, rfl, Or.inl rfl, fun _ => ?_, fun e => (by cases e)⟩
      have hw' : (letB c && r.all tailB) = true := hw
      rw [Bool.and_eq_true] at hw'
      exact hw'.1
    · split at h
      · rename_i hn
        injection h with h; subst h
        refine Or.inr ⟨ha, rfl, rfl, Or.inr rfl, fun e => (by cases e), fun _ => ?_⟩
        have hn' : ((c :: r).all digB && decide (r.length ≤ 5) && (r.isEmpty || !decide (c.toNat = 48))) = true := hn
        rw [Bool.and_eq_true, Bool.and_eq_true, List.all_cons, Bool.and_eq_true] at hn'
        exact hn'.1.1.1
      · exfalso
        simp only at h
        have hm : markB c = false := by
          cases hm : markB c with
          | false => rfl
          | true => rw [(mark_not_tail hm).1] at hc; cases hc
        have hq : ¬ c.toNat = 34 := fun e => by
          unfold tailB letB digB at hc
          simp [e] at hc
        rw [hm, if_neg (by decide), if_neg hq] at h
        cases h
  · refine Or.inl ?_
    unfold oneS at h ⊢
    rw [hr v]
    split at h
    · rename_i hw
      rw [if_pos hw]; exact h
    · rename_i hw
      rw [if_neg hw]
      split at h
      · rename_i hn
        rw [if_pos hn]; exact h
      · rename_i hn
        rw [if_neg hn]
        simp only [List.cons_append] at h ⊢
        split at h
        · rename_i hm
          rw [if_pos hm]; exact h
        · rename_i hm
          rw [if_neg hm]
          split at h
          · rename_i hq
            rw [if_pos hq]
            obtain ⟨y, hy, rfl⟩ := Option.map_eq_some_iff.1 h
            rw [strS_app v r y hy]
            rfl
          · cases h
theorem drop_or (u : List UInt8) : (u.dropWhile notNl = [] ) ∨ ∀ v, (u ++ v).dropWhile notNl = u.dropWhile notNl ++ v := by
  induction u with
  | nil => exact Or.inl rfl
  | cons c u ih =>
    cases hc : notNl c with
    | false => exact Or.inr fun v => by rw [List.cons_append, List.dropWhile_cons, List.dropWhile_cons, hc]; rfl
    | true =>
      rw [List.dropWhile_cons, if_pos hc]
      rcases ih with h | h
      · exact Or.inl h
      · exact Or.inr fun v => by rw [List.cons_append, List.dropWhile_cons, if_pos hc, h v]
/-- What the head of a text reads as, beside the whole: the same tokens, as far as it goes; its last word or number may be cut. -/
def HeadOf (us ts : List Tok) (m : Nat) : Prop := (∃ rest, ts = us ++ rest) ∨ ∃ us' k x y rest, us = us' ++ [⟨k, x, m⟩] ∧ ts = us' ++ ⟨k, y, m⟩ :: rest ∧ (k = 1 ∨ k = 2) ∧ x ≠ y
theorem HeadOf.cons {us ts : List Tok} {m : Nat} (t : Tok) (h : HeadOf us ts m) : HeadOf (t :: us) (t :: ts) m := by
  rcases h with ⟨rest, rfl⟩ | ⟨us', k, x, y, rest, rfl, rfl, hk, hxy⟩
  · exact Or.inl ⟨rest, rfl⟩
  · exact Or.inr ⟨t :: us', k, x, y, rest, rfl, rfl, hk, hxy⟩
theorem letB_not_dig {c : UInt8} (h : letB c = true) : digB c = false := by
  unfold letB at h
  unfold digB
  simp only [Bool.and_eq_true, decide_eq_true_eq] at h
  simp only [Bool.and_eq_false_iff, decide_eq_false_iff_not]
  omega
theorem lexS_head (v : List UInt8) : ∀ (n : Nat) (u : List UInt8) (ln : Nat) (us ts : List Tok) (m e : Nat), u.length ≤ n → lexS u ln = .ok us m → lexS (u ++ v) ln = .ok ts e → HeadOf us ts m
  | n, [], ln, us, ts, m, e, _, h1, h2 => by
    rw [lexS_nil] at h1
    injection h1 with h1 _
    subst h1
    exact Or.inl ⟨ts, rfl⟩
  | 0, c :: r, _, _, _, _, _, hn, _, _ => absurd hn (by simp)
  | n + 1, c :: r, ln, us, ts, m, e, hn, h1, h2 => by
    have hr : r.length ≤ n := by simpa using hn
    rw [lexS_cons] at h1
    rw [List.cons_append, lexS_cons] at h2
    by_cases h35 : c.toNat = 35
    · rw [if_pos h35] at h1 h2
      rcases drop_or r with hd | hd
      · rw [hd, lexS_nil] at h1
        injection h1 with h1 _
        subst h1
        exact Or.inl ⟨ts, rfl⟩
      · rw [hd v] at h2
        exact lexS_head v n _ ln us ts m e (Nat.le_trans (drop_while_len _ _) hr) h1 h2
    · rw [if_neg h35] at h1 h2
      cases hb : blankB c with
      | true =>
        rw [hb, if_pos rfl] at h1 h2
        exact lexS_head v n r _ us ts m e hr h1 h2
      | false =>
        rw [hb, if_neg (by decide)] at h1 h2
        cases hx : oneS (c :: r) with
        | none => rw [hx] at h1; cases h1
        | some x =>
          rw [hx] at h1
          simp only at h1
          have hp := oneS_pos _ _ hx
          have hl := oneS_len c r x hx
          rw [List.length_cons] at hl
          rcases oneS_app c r v x hx with ho | ⟨ha, hx1, hx2, hk, hk1, hk2⟩
          · rw [List.cons_append] at ho
            rw [ho] at h2
            simp only at h2
            rw [List.drop_append_of_le_length (by omega)] at h2
            cases hy : lexS (r.drop (x.2.2 - 1)) ln with
            | err z => rw [hy] at h1; cases h1
            | ok us2 m2 =>
              rw [hy] at h1
              injection h1 with h1 h1m
              subst h1 h1m
              cases hz : lexS (r.drop (x.2.2 - 1) ++ v) ln with
              | err z => rw [hz] at h2; cases h2
              | ok ts2 e2 =>
                rw [hz] at h2
                injection h2 with h2 h2m
                subst h2
                exact (lexS_head v n _ ln us2 ts2 m2 e2 (by rw [List.length_drop]; omega) hy hz).cons _
          · rw [List.length_cons] at hx2
            rw [hx2, show r.length + 1 - 1 = r.length by omega, List.drop_length, lexS_nil] at h1
            injection h1 with h1 h1m
            subst h1 h1m
            have ht : (c :: (r ++ v)).takeWhile tailB = c :: r ++ v.takeWhile tailB := by
              have := take_while_all tailB (c :: r) v ha
              rwa [List.cons_append] at this
            cases hz : oneS (c :: (r ++ v)) with
            | none => rw [hz] at h2; cases h2
            | some z =>
              rw [hz] at h2
              simp only at h2
              have hzk : z.1 = x.1 ∧ z.2.1 = c :: r ++ v.takeWhile tailB := by
                unfold oneS at hz
                rw [ht] at hz
                split at hz
                · rename_i hw
                  injection hz with hz; subst hz
                  refine ⟨?_, rfl⟩
                  rcases hk with hk | hk
                  · exact hk.symm
                  · exfalso
                    have hw' : (letB c && (r ++ v.takeWhile tailB).all tailB) = true := hw
                    rw [Bool.and_eq_true] at hw'
                    have := letB_not_dig hw'.1
                    rw [hk2 hk] at this; cases this
                · rename_i hw
                  split at hz
                  · rename_i hnn
                    injection hz with hz; subst hz
                    refine ⟨?_, rfl⟩
                    rcases hk with hk | hk
                    · exfalso
                      have hn' : ((c :: (r ++ v.takeWhile tailB)).all digB && decide ((r ++ v.takeWhile tailB).length ≤ 5) && ((r ++ v.takeWhile tailB).isEmpty || !decide (c.toNat = 48))) = true := hnn
                      rw [Bool.and_eq_true, Bool.and_eq_true, List.all_cons, Bool.and_eq_true] at hn'
                      have := letB_not_dig (hk1 hk)
                      rw [hn'.1.1.1] at this; cases this
                    · exact hk.symm
                  · exfalso
                    simp only at hz
                    have hc : tailB c = true := by rw [List.all_cons, Bool.and_eq_true] at ha; exact ha.1
                    have hm : markB c = false := by
                      cases hm : markB c with
                      | false => rfl
                      | true => rw [(mark_not_tail hm).1] at hc; cases hc
                    have hq : ¬ c.toNat = 34 := fun e => by
                      unfold tailB letB digB at hc
                      simp [e] at hc
                    rw [hm, if_neg (by decide), if_neg hq] at hz
                    cases hz
              cases hy : lexS ((r ++ v).drop (z.2.2 - 1)) ln with
              | err q => rw [hy] at h2; cases h2
              | ok ts2 e2 =>
                rw [hy] at h2
                injection h2 with h2 h2m
                subst h2
                by_cases hv : v.takeWhile tailB = []
                · refine Or.inl ⟨ts2, ?_⟩
                  have e1 : z.2.1 = x.2.1 := by rw [hzk.2, hx1, hv, List.append_nil]
                  rw [e1, hzk.1]
                  rfl
                · refine Or.inr ⟨[], x.1, x.2.1, z.2.1, ts2, rfl, by rw [hzk.1]; rfl, hk, ?_⟩
                  rw [hzk.2, hx1]
                  intro e
                  have := congrArg List.length e
                  rw [List.length_append] at this
                  have h0 : (v.takeWhile tailB).length = 0 := by omega
                  exact hv (List.eq_nil_of_length_eq_zero h0)
end Go.Proofs.Ytfknckbclddnmaa.Lx
