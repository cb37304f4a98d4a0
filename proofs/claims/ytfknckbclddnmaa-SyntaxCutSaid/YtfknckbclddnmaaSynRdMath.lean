/-
  What a reader of tokens relies on: lines count from 1, the end is the last token and no other. No program, no world.
-/
import Derived.Test.YtfknckbclddnmaaSynShape
namespace Go.Proofs.Ytfknckbclddnmaa.Lx

theorem oneS_kind (l : List UInt8) (x : Nat × List UInt8 × Nat) (h : oneS l = some x) : x.1 ≠ 5 := by
  unfold oneS at h
  split at h
  · injection h with h; subst h; exact (by decide : (1 : Nat) ≠ 5)
  · split at h
    · injection h with h; subst h; exact (by decide : (2 : Nat) ≠ 5)
    · cases l with
      | nil => cases h
      | cons c r =>
        simp only at h
        split at h
        · injection h with h; subst h; exact (by decide : (4 : Nat) ≠ 5)
        · split at h
          · obtain ⟨y, hy, rfl⟩ := Option.map_eq_some_iff.1 h
            exact (by decide : (3 : Nat) ≠ 5)
          · cases h
/-- Every token stands in a line from ln to m, and is not the end. -/
theorem lexS_lines : ∀ (n : Nat) (l : List UInt8) (ln : Nat) (ts : List Tok) (m : Nat), l.length ≤ n → lexS l ln = .ok ts m → ln ≤ m ∧ ∀ t ∈ ts, ln ≤ t.line ∧ t.line ≤ m ∧ t.kind ≠ 5
  | n, [], ln, ts, m, _, h => by
    rw [lexS_nil] at h
    injection h with h h2
    subst h h2
    exact ⟨Nat.le_refl _, fun t ht => by cases ht⟩
  | 0, c :: r, _, _, _, hn, _ => absurd hn (by simp)
  | n + 1, c :: r, ln, ts, m, hn, h => by
    have hr : r.length ≤ n := by simpa using hn
    rw [lexS_cons] at h
    split at h
    · exact lexS_lines n _ ln ts m (Nat.le_trans (drop_while_len _ _) hr) h
    · split at h
      · obtain ⟨h1, h2⟩ := lexS_lines n _ _ ts m hr h
        have hl : ln ≤ lineOf c ln := by unfold lineOf; split <;> omega
        exact ⟨Nat.le_trans hl h1, fun t ht => ⟨Nat.le_trans hl (h2 t ht).1, (h2 t ht).2⟩⟩
      · cases hx : oneS (c :: r) with
        | none => rw [hx] at h; cases h
        | some x =>
          rw [hx] at h
          simp only at h
          cases hy : lexS (r.drop (x.2.2 - 1)) ln with
          | err e => rw [hy] at h; cases h
          | ok us e =>
            rw [hy] at h
            injection h with h h3
            subst h h3
            obtain ⟨h1, h2⟩ := lexS_lines n _ ln us e (by rw [List.length_drop]; omega) hy
            refine ⟨h1, fun t ht => ?_⟩
            rcases List.mem_cons.1 ht with rfl | ht
            · exact ⟨Nat.le_refl _, h1, oneS_kind _ x hx⟩
            · exact h2 t ht
/-- Tokens with their end: the end is the last, and no other; lines count from 1. -/
structure EndsT (ts : List Tok) : Prop where
  last : ∀ i t, ts[i]? = some t → (t.kind = 5 ↔ i + 1 = ts.length)
  line : ∀ t ∈ ts, 1 ≤ t.line
theorem ends_lex {l : List UInt8} {ts : List Tok} {m : Nat} (h : lexS l 1 = .ok ts m) : EndsT (ts ++ [⟨5, [], m⟩]) := by
  obtain ⟨h1, h2⟩ := lexS_lines l.length l 1 ts m (Nat.le_refl _) h
  refine ⟨fun i t ht => ?_, fun t ht => ?_⟩
  · rw [List.length_append]
    rcases Nat.lt_or_ge i ts.length with hi | hi
    · rw [List.getElem?_append_left hi] at ht
      have := (h2 t (List.mem_of_getElem? ht)).2.2
      simp only [List.length_cons, List.length_nil]
      omega
    · rw [List.getElem?_append_right hi] at ht
      have h0 : i - ts.length = 0 := by
        rcases Nat.eq_zero_or_pos (i - ts.length) with h0 | h0
        · exact h0
        · rw [List.getElem?_eq_none (by simp; omega)] at ht; cases ht
      rw [h0] at ht
      have : t = ⟨5, [], m⟩ := by simpa using ht.symm
      subst this
      simp only [List.length_cons, List.length_nil, true_iff]
      omega
  · rcases List.mem_append.1 ht with ht | ht
    · exact (h2 t ht).1
    · have : t = ⟨5, [], m⟩ := by simpa using ht
      subst this
      exact h1
theorem EndsT.next {ts : List Tok} (h : EndsT ts) {i : Nat} {t : Tok} (ht : ts[i]? = some t) (hk : t.kind ≠ 5) : i + 1 < ts.length := by
  have h1 := (List.getElem?_eq_some_iff.1 ht).1
  have h2 := (h.last i t ht).2
  rcases Nat.lt_or_ge (i + 1) ts.length with h3 | h3
  · exact h3
  · exact absurd (h2 (by omega)) hk
end Go.Proofs.Ytfknckbclddnmaa.Lx
