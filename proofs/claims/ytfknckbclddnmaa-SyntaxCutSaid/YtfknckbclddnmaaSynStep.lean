/-
  Loops of readings, step by step, with what was read so far. No program, no world.
-/
import Derived.Test.YtfknckbclddnmaaSynShape
namespace Go.Proofs.Ytfknckbclddnmaa.Lx

theorem takeM_at (c : UInt8) (l : List Tok) : takeM c l = if atMark c l then .ok () (l.drop 1) else .bad (lineP l) := by
  cases l with
  | nil => rfl
  | cons t r => rfl
theorem takeK_at (k : Nat) (l : List Tok) : takeK k l = if atKind k l then .ok (match l with | [] => [] | t :: _ => t.text) (l.drop 1) else .bad (lineP l) := by
  cases l with
  | nil => rfl
  | cons t r =>
    show (if t.kind = k then _ else _) = (if decide (t.kind = k) = true then _ else _)
    by_cases h : t.kind = k
    · rw [if_pos h, if_pos (decide_eq_true h)]; rfl
    · rw [if_neg h, if_neg (by rw [decide_eq_false h]; decide)]; rfl
/-- The values behind those that were read. -/
def morR (acc : List (List UInt8)) (l : List Tok) : PR (List (List UInt8)) := (moreA l).bind fun vs r => .ok (acc ++ vs) r
theorem morR_end {acc : List (List UInt8)} {l : List Tok} (h : atMark 44 l = false) : morR acc l = .ok acc l := by
  unfold morR
  rw [more_any (l := l) (k := l.length + 1) (Nat.le_succ _), moreP, h, if_neg (by decide), PR.bind_ok, List.append_nil]
theorem morR_bad {acc : List (List UInt8)} {l : List Tok} {e : Nat} (h : atMark 44 l = true) (hv : valueP (l.drop 1) = .bad e) : morR acc l = .bad e := by
  unfold morR
  rw [more_any (l := l) (k := l.length + 1) (Nat.le_succ _), moreP, h, if_pos rfl, hv]
  rfl
theorem morR_ok {acc : List (List UInt8)} {l r : List Tok} {v : List UInt8} (h : atMark 44 l = true) (hv : valueP (l.drop 1) = .ok v r) : morR acc l = morR (acc ++ [v]) r := by
  unfold morR
  have h1 := value_lt hv
  rw [List.length_drop] at h1
  rw [more_any (l := l) (k := l.length + 1) (Nat.le_succ _), moreP, h, if_pos rfl, hv, PR.bind_ok, more_any (l := r) (k := l.length) (by omega)]
  cases moreP l.length r with
  | bad e => rfl
  | ok vs q =>
    rw [PR.bind_ok, PR.bind_ok, PR.bind_ok, List.append_assoc]
    rfl
/-- A field behind its key, with the values so far. -/
def tailF (key : List UInt8) (ln : Nat) (p : PR (List (List UInt8))) : PR Fld := p.bind fun vs r => (takeM 59 r).bind fun _ r2 => .ok ⟨key, vs, ln⟩ r2
theorem fieldP_step (l : List Tok) : fieldP l = (takeK 1 l).bind fun key r => tailF key (lineP l) ((valueP r).bind fun v r2 => morR [v] r2) := by
  rw [fieldP_Q]
  unfold fieldQ
  cases takeK 1 l with
  | bad e => rfl
  | ok key r =>
    rw [PR.bind_ok, PR.bind_ok]
    cases valueP r with
    | bad e => rfl
    | ok v r2 =>
      rw [PR.bind_ok, PR.bind_ok]
      unfold tailF morR
      cases moreA r2 with
      | bad e => rfl
      | ok vs r3 => rfl
/-- A loop up to a closing brace, with what was read so far. -/
def untR {α : Type} (p : List Tok → PR α) (acc : List α) (l : List Tok) : PR (List α) := (untilP p (l.length + 1) l).bind fun fs r => .ok (acc ++ fs) r
section
variable {α : Type} {p : List Tok → PR α} {acc : List α} {l r : List Tok}
theorem untR_end (h : atMark 125 l = true) : untR p acc l = .ok acc l := by
  unfold untR
  rw [untilP, h, if_pos rfl, PR.bind_ok, List.append_nil]
theorem untR_bad {e : Nat} (h : atMark 125 l = false) (hp : p l = .bad e) : untR p acc l = .bad e := by
  unfold untR
  rw [untilP, h, if_neg (by decide), hp]
  rfl
theorem untR_ok {a : α} (hlt : ∀ l a r, p l = .ok a r → r.length < l.length) (h : atMark 125 l = false) (hp : p l = .ok a r) : untR p acc l = untR p (acc ++ [a]) r := by
  unfold untR
  have h1 := hlt l a r hp
  rw [untilP, h, if_neg (by decide), hp, PR.bind_ok, until_fuel hlt r.length r l.length (r.length + 1) (Nat.le_refl _) h1 (Nat.lt_succ_self _)]
  cases untilP p (r.length + 1) r with
  | bad e => rfl
  | ok fs q =>
    rw [PR.bind_ok, PR.bind_ok, PR.bind_ok, List.append_assoc]
    rfl
theorem untR_nil : untR p [] l = untilP p (l.length + 1) l := by
  unfold untR
  cases untilP p (l.length + 1) l <;> rfl
end
/-- A block behind its brace, with the fields so far. -/
def tailB2 (kind name : List UInt8) (ln : Nat) (p : PR (List Fld)) : PR Blc := p.bind fun fs r => (takeM 125 r).bind fun _ r2 => .ok ⟨kind, name, fs, ln⟩ r2
theorem blockP_step (l : List Tok) : blockP l = (takeK 1 l).bind fun kind r => (nameR r).bind fun name r2 => (takeM 123 r2).bind fun _ r3 => tailB2 kind name (lineP l) (untR fieldP [] r3) := by
  rw [blockP_Q]
  unfold blockQ
  simp only [untR_nil]
  rfl
/-- A definition behind its brace, with the blocks so far. -/
def tailS (title : List UInt8) (p : PR (List Blc)) : PR Src := p.bind fun bs r => (takeM 125 r).bind fun _ r2 => (takeK 5 r2).bind fun _ r3 => .ok ⟨title, bs⟩ r3
theorem sourceP_step (l : List Tok) : sourceP l = (takeE l).bind fun _ r => (takeK 3 r).bind fun title r2 => (takeM 123 r2).bind fun _ r3 => tailS title (untR blockP [] r3) := by
  unfold sourceP
  simp only [blocksP_until, untR_nil]
  rfl
theorem field_head {l : List Tok} {f : Fld} {r : List Tok} (h : fieldP l = .ok f r) : r.length < l.length := field_lt h
end Go.Proofs.Ytfknckbclddnmaa.Lx
