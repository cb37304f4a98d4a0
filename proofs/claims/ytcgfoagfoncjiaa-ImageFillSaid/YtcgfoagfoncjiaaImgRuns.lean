/-
  Lengths of runs read back: plain functions.
-/
import Derived.Test.YtcgfoagfoncjiaaImgEnc
namespace Go.Proofs.Ytcgfoagfoncjiaa
namespace Im

/-- The first length of a list of bytes, and what follows it. -/
def flL : List Nat → Option (Nat × List Nat)
  | [] => none
  | c :: r => if c = 255 then (flL r).map (fun p => (p.1 + 255, p.2)) else some (c, r)
theorem fl_emit (r : List Nat) : ∀ k n : Nat, n ≤ k → flL (emit n ++ r) = some (n, r)
  | k, n, h => by
    by_cases hb : 255 ≤ n
    · cases k with
      | zero => omega
      | succ k =>
        rw [emit_big hb, List.cons_append, flL, if_pos rfl, fl_emit r k (n - 255) (by omega)]
        simp
        omega
    · rw [emit_small (by omega), List.cons_append, flL, if_neg (by omega)]
      rfl
theorem fl_some : ∀ {l : List Nat} {n : Nat} {r : List Nat}, (∀ x ∈ l, x ≤ 255) → flL l = some (n, r) → l = emit n ++ r
  | [], n, r, _, h => by cases h
  | c :: l, n, r, hb, h => by
    rw [flL] at h
    by_cases e : c = 255
    · rw [if_pos e] at h
      cases hl : flL l with
      | none => rw [hl] at h; cases h
      | some p =>
        rw [hl] at h
        obtain ⟨m, q⟩ := p
        simp at h
        obtain ⟨rfl, rfl⟩ := h
        rw [fl_some (fun x hx => hb x (by simp [hx])) hl, emit_big (show 255 ≤ m + 255 by omega), e]
        rw [show m + 255 - 255 = m by omega]
        rfl
    · rw [if_neg e] at h
      simp at h
      obtain ⟨rfl, rfl⟩ := h
      have := hb c (by simp)
      rw [emit_small (by omega)]
      rfl
/-- A row of bits begins with a run. -/
theorem enc_run : ∀ (E : List Bool) (run : Nat) (on : Bool), ∃ (L : Nat) (E2 : List Bool), E = List.replicate L on ++ E2 ∧ (E2 = [] ∨ ∃ E3, E2 = (!on) :: E3) ∧ encR E run on = emit (run + L) ++ (if E2 = [] then [] else encR E2 0 (!on))
  | [], run, on => ⟨0, [], rfl, Or.inl rfl, by rw [encR]; simp⟩
  | b :: E, run, on => by
    by_cases h : b = on
    · subst h
      obtain ⟨L, E2, h1, h2, h3⟩ := enc_run E (run + 1) b
      refine ⟨L + 1, E2, by rw [h1, List.replicate_succ]; rfl, h2, ?_⟩
      rw [encR, if_pos rfl, h3, show run + 1 + L = run + (L + 1) by omega]
    · have hb : b = !on := by cases b <;> cases on <;> simp_all
      refine ⟨0, b :: E, rfl, Or.inr ⟨E, by rw [hb]⟩, ?_⟩
      rw [encR, if_neg h, if_neg (by simp), Nat.add_zero, hb]
      congr 1
      rw [encR, if_pos rfl]
/-- What is still to be read at the rest of a code. -/
def Rem (E : List Bool) (code : List Nat) (on first : Bool) : Prop := if first then encR E 0 on = code else (E = [] ∧ code = []) ∨ ∃ E', E = on :: E' ∧ encR E 0 on = code
/-- D is what the code so far says. -/
def Runs (N : Nat) (c0 : List Nat) (D : List Bool) (code : List Nat) (on first : Bool) : Prop :=
  D.length ≤ N ∧ (∀ x ∈ code, x ≤ 255) ∧ (first = true → D = []) ∧ ∀ D' : List Bool, D'.length = N → (encR D' 0 false = c0 ↔ ∃ E, D' = D ++ E ∧ Rem E code on first)
theorem runs_start {N : Nat} {c0 : List Nat} (hb : ∀ x ∈ c0, x ≤ 255) : Runs N c0 [] c0 false true :=
  ⟨Nat.zero_le _, hb, fun _ => rfl, fun D' _ => ⟨fun h => ⟨D', rfl, h⟩, fun ⟨E, h1, h2⟩ => by rw [h1]; exact h2⟩⟩
/-- What Rem says of the first length. -/
theorem rem_first {E : List Bool} {code : List Nat} {on first : Bool} (hE : E ≠ []) (h : Rem E code on first) : ∃ L E2 r, E = List.replicate L on ++ E2 ∧ flL code = some (L, r) ∧ Rem E2 r (!on) false ∧ (first = false → L ≠ 0) ∧ L ≤ E.length := by
  have henc : encR E 0 on = code := by
    unfold Rem at h
    cases first with
    | true => exact h
    | false =>
      rcases h with ⟨h1, _⟩ | ⟨_, _, h2⟩
      · exact absurd h1 hE
      · exact h2
  obtain ⟨L, E2, h1, h2, h3⟩ := enc_run E 0 on
  rw [Nat.zero_add] at h3
  rw [henc] at h3
  refine ⟨L, E2, if E2 = [] then [] else encR E2 0 (!on), h1, by rw [h3]; exact fl_emit _ _ _ (Nat.le_refl _), ?_, ?_, by rw [h1, List.length_append, List.length_replicate]; omega⟩
  · unfold Rem
    rcases h2 with e | ⟨E3, e⟩
    · rw [if_pos e]
      exact Or.inl ⟨e, rfl⟩
    · have hne : E2 ≠ [] := by rw [e]; simp
      rw [if_neg hne]
      exact Or.inr ⟨E3, e, rfl⟩
  · rintro rfl hL
    subst hL
    unfold Rem at h
    rcases h with ⟨h4, _⟩ | ⟨E', h4, _⟩
    · exact hE h4
    · simp at h1
      rcases h2 with e | ⟨E3, e⟩
      · exact hE (h1.trans e)
      · rw [h1, e] at h4
        injection h4 with h4 _
        cases on <;> cases h4
theorem rem_join {E2 : List Bool} {r code : List Nat} {on first : Bool} {L : Nat} (hf : code = emit L ++ r) (hL : first = false → L ≠ 0) (h : Rem E2 r (!on) false) : Rem (List.replicate L on ++ E2) code on first := by
  have henc : encR (List.replicate L on ++ E2) 0 on = code := by
    have hj : ∀ (k run : Nat), encR (List.replicate k on ++ E2) run on = encR E2 (run + k) on := by
      intro k
      induction k with
      | zero => intro run; rfl
      | succ k ih =>
        intro run
        rw [List.replicate_succ, List.cons_append, encR, if_pos rfl, ih (run + 1)]
        congr 1
        omega
    rw [hj, Nat.zero_add, hf]
    unfold Rem at h
    rcases h with ⟨h1, h2⟩ | ⟨E', h1, h2⟩
    · rw [h1, h2, encR, List.append_nil]
    · rw [← h2, h1, encR, if_neg (by cases on <;> simp), encR, if_pos rfl]
  unfold Rem
  cases first with
  | true => exact henc
  | false =>
    right
    cases L with
    | zero => exact absurd rfl (hL rfl)
    | succ L => exact ⟨List.replicate L on ++ E2, by rw [List.replicate_succ]; rfl, henc⟩
/-- A length is read. -/
theorem runs_next {N : Nat} {c0 code r : List Nat} {D : List Bool} {on first : Bool} {L : Nat} (h : Runs N c0 D code on first) (hf : flL code = some (L, r)) (hl : L ≤ N - D.length) (hL : first = false → L ≠ 0) : Runs N c0 (D ++ List.replicate L on) r (!on) false := by
  obtain ⟨h1, h2, h3, h4⟩ := h
  have hc := fl_some h2 hf
  refine ⟨by rw [List.length_append, List.length_replicate]; omega, fun x hx => h2 x (by rw [hc]; simp [hx]), fun e => (by cases e), fun D' hD => ?_⟩
  rw [h4 D' hD]
  constructor
  · rintro ⟨E, rfl, hr⟩
    by_cases hE : E = []
    · subst hE
      simp at hD
      have hL0 : L = 0 := by omega
      subst hL0
      cases first with
      | false => exact absurd rfl (hL rfl)
      | true =>
        have hD0 := h3 rfl
        subst hD0
        refine ⟨[], by simp, ?_⟩
        unfold Rem at hr ⊢
        have hr : encR [] 0 on = code := hr
        left
        refine ⟨rfl, ?_⟩
        rw [hc, encR] at hr
        have hr2 : emit 0 ++ [] = emit 0 ++ r := by rw [List.append_nil]; exact hr
        exact (List.append_cancel_left hr2).symm
    · obtain ⟨L', E2, r', e1, e2, e3, _, _⟩ := rem_first hE hr
      rw [hf] at e2
      injection e2 with e2
      injection e2 with e4 e5
      subst e4 e5
      exact ⟨E2, by rw [e1, List.append_assoc], e3⟩
  · rintro ⟨E2, rfl, hr⟩
    exact ⟨List.replicate L on ++ E2, by rw [List.append_assoc], rem_join hc hL hr⟩
/-- No length, a length that is too great, or a length 0 that is not the first: no image. -/
theorem runs_bad {N : Nat} {c0 code : List Nat} {D : List Bool} {on first : Bool} (h : Runs N c0 D code on first) (hn : D.length < N) (hb : ∀ L r, flL code = some (L, r) → N - D.length < L ∨ (L = 0 ∧ first = false)) (D' : List Bool) (hD : D'.length = N) : encR D' 0 false ≠ c0 := by
  intro e
  obtain ⟨E, rfl, hr⟩ := (h.2.2.2 D' hD).1 e
  have hE : E ≠ [] := by rintro rfl; simp at hD; omega
  obtain ⟨L, E2, r, e1, e2, e3, e4, e5⟩ := rem_first hE hr
  rw [List.length_append] at hD
  rcases hb L r e2 with hb | ⟨hb, hf⟩
  · omega
  · exact e4 hf hb
/-- All bits are there. -/
theorem runs_end {N : Nat} {c0 code : List Nat} {D : List Bool} {on first : Bool} (h : Runs N c0 D code on first) (hn : D.length = N) (hN : 1 ≤ N) : (code = [] → encR D 0 false = c0) ∧ (code ≠ [] → ∀ D' : List Bool, D'.length = N → encR D' 0 false ≠ c0) := by
  have hf : first = false := by
    cases first with
    | false => rfl
    | true => have := h.2.2.1 rfl; subst this; simp at hn; omega
  subst hf
  constructor
  · intro hc
    exact (h.2.2.2 D hn).2 ⟨[], by simp, Or.inl ⟨rfl, hc⟩⟩
  · intro hc D' hD e
    obtain ⟨E, rfl, hr⟩ := (h.2.2.2 D' hD).1 e
    rw [List.length_append] at hD
    have hE : E = [] := List.eq_nil_of_length_eq_zero (by omega)
    subst hE
    rcases hr with ⟨_, h2⟩ | ⟨E', h1, _⟩
    · exact hc h2
    · cases h1
end Im
end Go.Proofs.Ytcgfoagfoncjiaa
