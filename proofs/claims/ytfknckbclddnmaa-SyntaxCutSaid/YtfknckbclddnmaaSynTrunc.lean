/-
  Tokens that end inside a definition: the reading fails at the end. No program, no world.
-/
import Derived.Test.YtfknckbclddnmaaSynCut
namespace Go.Proofs.Ytfknckbclddnmaa.Lx

/-- The end of a text, in line m. -/
def En (m : Nat) : Tok := ⟨5, [], m⟩
section
variable {α β : Type} {m : Nat}
def Mono (p : List Tok → PR α) : Prop := ∀ l a r, p l = .ok a r → r.length ≤ l.length
/-- A reading that fails, or ends, at the end. -/
def ES (m : Nat) (p : List Tok → PR α) : Prop := p [En m] = .bad m ∨ ∃ a, p [En m] = .ok a [En m]
def EB (m : Nat) (p : List Tok → PR α) : Prop := p [En m] = .bad m
/-- What becomes of a reading where only 'pre' is left of the tokens. -/
def Tr (m : Nat) (p : List Tok → PR α) : Prop := ∀ pre rest a r, p (pre ++ rest) = .ok a r →
  (∃ pre2, r = pre2 ++ rest ∧ p (pre ++ [En m]) = .ok a (pre2 ++ [En m])) ∨ (r.length ≤ rest.length ∧ (p (pre ++ [En m]) = .bad m ∨ ∃ a', p (pre ++ [En m]) = .ok a' [En m]))
def Tr1 (m : Nat) (p : List Tok → PR α) : Prop := ∀ t pre rest a r, p (t :: pre ++ rest) = .ok a r →
  (∃ pre2, r = pre2 ++ rest ∧ p (t :: pre ++ [En m]) = .ok a (pre2 ++ [En m])) ∨ (r.length ≤ rest.length ∧ (p (t :: pre ++ [En m]) = .bad m ∨ ∃ a', p (t :: pre ++ [En m]) = .ok a' [En m]))
def TrS (m : Nat) (p : List Tok → PR α) : Prop := ∀ pre rest a r, p (pre ++ rest) = .ok a r →
  (∃ pre2, r = pre2 ++ rest ∧ p (pre ++ [En m]) = .ok a (pre2 ++ [En m])) ∨ (r.length ≤ rest.length ∧ p (pre ++ [En m]) = .bad m)
theorem Tr.one {p : List Tok → PR α} (h : Tr m p) : Tr1 m p := fun t pre => h (t :: pre)
theorem TrS.tr {p : List Tok → PR α} (h : TrS m p) : Tr m p := fun pre rest a r e => by
  rcases h pre rest a r e with h | ⟨h1, h2⟩
  · exact Or.inl h
  · exact Or.inr ⟨h1, Or.inl h2⟩
theorem mono_ok (a : α) : Mono (fun l => PR.ok a l) := fun l b r h => by injection h with _ h; rw [h]; exact Nat.le_refl _
theorem mono_bind {p : List Tok → PR α} {f : α → List Tok → PR β} (hp : Mono p) (hf : ∀ a, Mono (f a)) : Mono (fun l => (p l).bind f) := fun l b r h => by
  obtain ⟨a, q, h1, h2⟩ := PR.bind_eq h
  exact Nat.le_trans (hf a q b r h2) (hp l a q h1)
theorem mono_ite {b : List Tok → Bool} {p q : List Tok → PR α} (hp : Mono p) (hq : Mono q) : Mono (fun l => if b l then p l else q l) := fun l a r h => by
  simp only at h
  split at h
  · exact hp l a r h
  · exact hq l a r h
theorem mono_drop {p : List Tok → PR α} (hp : Mono p) : Mono (fun l => p (l.drop 1)) := fun l a r h => Nat.le_trans (hp _ a r h) (by rw [List.length_drop]; omega)
theorem tr_ok (a : α) : Tr m (fun l => PR.ok a l) := fun pre rest b r h => by
  injection h with h1 h2
  subst h1 h2
  exact Or.inl ⟨pre, rfl, rfl⟩
theorem tr_bind {p : List Tok → PR α} {f : α → List Tok → PR β} (hp : Tr m p) (hf : ∀ a, Tr m (f a)) (hm : ∀ a, Mono (f a)) (he : ∀ a, ES m (f a)) : Tr m (fun l => (p l).bind f) := by
  intro pre rest b r h
  obtain ⟨a, q, h1, h2⟩ := PR.bind_eq h
  rcases hp pre rest a q h1 with ⟨pre2, rfl, hq⟩ | ⟨hq, hb | ⟨a', hb⟩⟩
  · simp only [hq, PR.bind_ok]
    exact hf a pre2 rest b r h2
  · exact Or.inr ⟨Nat.le_trans (hm a q b r h2) hq, Or.inl (by simp only [hb, PR.bind_bad])⟩
  · refine Or.inr ⟨Nat.le_trans (hm a q b r h2) hq, ?_⟩
    simp only [hb, PR.bind_ok]
    exact he a'
theorem trS_bind {p : List Tok → PR α} {f : α → List Tok → PR β} (hp : Tr m p) (hf : ∀ a, TrS m (f a)) (hm : ∀ a, Mono (f a)) (he : ∀ a, EB m (f a)) : TrS m (fun l => (p l).bind f) := by
  intro pre rest b r h
  obtain ⟨a, q, h1, h2⟩ := PR.bind_eq h
  rcases hp pre rest a q h1 with ⟨pre2, rfl, hq⟩ | ⟨hq, hb | ⟨a', hb⟩⟩
  · simp only [hq, PR.bind_ok]
    exact hf a pre2 rest b r h2
  · exact Or.inr ⟨Nat.le_trans (hm a q b r h2) hq, by simp only [hb, PR.bind_bad]⟩
  · refine Or.inr ⟨Nat.le_trans (hm a q b r h2) hq, ?_⟩
    simp only [hb, PR.bind_ok]
    exact he a'
/-- A mandatory token, and nothing behind it. -/
theorem trS_last {p : List Tok → PR α} {f : α → List Tok → PR β} (hp : TrS m p) (g : α → β) (hf : ∀ a l, f a l = .ok (g a) l) : TrS m (fun l => (p l).bind f) := by
  intro pre rest b r h
  obtain ⟨a, q, h1, h2⟩ := PR.bind_eq h
  rw [hf] at h2
  injection h2 with h2 h3
  subst h2 h3
  rcases hp pre rest a q h1 with ⟨pre2, rfl, hq⟩ | ⟨hq, hb⟩
  · exact Or.inl ⟨pre2, rfl, by simp only [hq, PR.bind_ok, hf]⟩
  · exact Or.inr ⟨hq, by simp only [hb, PR.bind_bad]⟩
theorem tr_ite {b : List Tok → Bool} {p q : List Tok → PR α} (hb : ∀ t x y, b (t :: x) = b (t :: y)) (hp : Tr1 m p) (hq : Tr1 m q) (mp : Mono p) (mq : Mono q) (he : ES m (fun l => if b l then p l else q l)) : Tr m (fun l => if b l then p l else q l) := by
  intro pre rest a r h
  cases pre with
  | nil =>
    refine Or.inr ⟨mono_ite mp mq _ a r h, ?_⟩
    exact he
  | cons t pre =>
    have e : b (t :: pre ++ [En m]) = b (t :: pre ++ rest) := hb t _ _
    simp only [e]
    simp only at h
    cases hbt : b (t :: pre ++ rest) with
    | true =>
      rw [hbt, if_pos rfl] at h
      simp only [if_true]
      exact hp t pre rest a r h
    | false =>
      rw [hbt, if_neg (by decide)] at h
      simp only [Bool.false_eq_true, if_false]
      exact hq t pre rest a r h
theorem tr1_drop {p : List Tok → PR α} (hp : Tr m p) : Tr1 m (fun l => p (l.drop 1)) := fun _ pre rest a r h => hp pre rest a r h
end
theorem atKind_head (k : Nat) : ∀ (t : Tok) (x y : List Tok), atKind k (t :: x) = atKind k (t :: y) := fun _ _ _ => rfl
theorem atMark_head (c : UInt8) : ∀ (t : Tok) (x y : List Tok), atMark c (t :: x) = atMark c (t :: y) := fun _ _ _ => rfl
theorem mono_takeK (k : Nat) : Mono (takeK k) := fun l a r h => by
  obtain ⟨t, rfl, _⟩ := takeK_eq h
  rw [List.length_cons]; omega
theorem mono_takeM (c : UInt8) : Mono (takeM c) := fun l a r h => by
  obtain ⟨t, rfl, _⟩ := takeM_eq h
  rw [List.length_cons]; omega
theorem en_mark (c : UInt8) (m : Nat) : isMark c (En m) = false := by simp [isMark, En]
theorem takeK_en {k : Nat} (h : k ≠ 5) (m : Nat) : takeK k [En m] = .bad m := by
  show (if (5 : Nat) = k then _ else _) = _
  rw [if_neg (fun e => h e.symm)]
  rfl
theorem takeM_en (c : UInt8) (m : Nat) : takeM c [En m] = .bad m := by
  show (if isMark c (En m) = true then (PR.ok () [] : PR Unit) else .bad (En m).line) = _
  rw [en_mark, if_neg (by decide)]
  rfl
theorem trS_takeK {k m : Nat} (h : k ≠ 5) : TrS m (takeK k) := by
  intro pre rest a r e
  cases pre with
  | nil =>
    refine Or.inr ⟨?_, takeK_en h m⟩
    exact mono_takeK k _ a r e
  | cons t pre =>
    obtain ⟨u, hu, hk, rfl⟩ := takeK_eq e
    rw [List.cons_append] at hu
    injection hu with h1 h2
    subst h1 h2
    refine Or.inl ⟨pre, rfl, ?_⟩
    rw [List.cons_append]
    show (if t.kind = k then _ else _) = _
    rw [if_pos hk]
theorem trS_takeM {c : UInt8} {m : Nat} : TrS m (takeM c) := by
  intro pre rest a r e
  cases pre with
  | nil =>
    refine Or.inr ⟨?_, takeM_en c m⟩
    exact mono_takeM c _ a r e
  | cons t pre =>
    obtain ⟨u, hu, hk⟩ := takeM_eq e
    rw [List.cons_append] at hu
    injection hu with h1 h2
    subst h1 h2
    refine Or.inl ⟨pre, rfl, ?_⟩
    rw [List.cons_append]
    show (if isMark c t = true then _ else _) = _
    rw [if_pos hk]
def fracP (a : List UInt8) (l : List Tok) : PR (List UInt8) := if atMark 47 l then (takeK 2 (l.drop 1)).bind fun b r2 => .ok (a ++ 47 :: b) r2 else .ok a l
theorem valueP_def : valueP = fun l => if atKind 1 l then takeK 1 l else (fun l => if atKind 3 l then takeK 3 l else (takeK 2 l).bind fracP) l := rfl
theorem mono_frac (a : List UInt8) : Mono (fracP a) := mono_ite (mono_drop (p := fun l => (takeK 2 l).bind fun b r2 => .ok (a ++ 47 :: b) r2) (mono_bind (mono_takeK 2) fun _ => mono_ok _)) (mono_ok a)
theorem frac_en (a : List UInt8) (m : Nat) : fracP a [En m] = .ok a [En m] := by
  unfold fracP
  rw [show atMark 47 [En m] = isMark 47 (En m) from rfl, en_mark, if_neg (by decide)]
theorem tr_frac (a : List UInt8) (m : Nat) : Tr m (fracP a) := tr_ite (atMark_head 47) (tr1_drop (p := fun l => (takeK 2 l).bind fun b r2 => .ok (a ++ 47 :: b) r2) (trS_last (trS_takeK (by decide)) (fun b => a ++ 47 :: b) fun _ _ => rfl).tr) (tr_ok a).one (mono_drop (p := fun l => (takeK 2 l).bind fun b r2 => .ok (a ++ 47 :: b) r2) (mono_bind (mono_takeK 2) fun b => mono_ok _)) (mono_ok a) (Or.inr ⟨a, frac_en a m⟩)
theorem mono_value : Mono valueP := mono_ite (mono_takeK 1) (mono_ite (mono_takeK 3) (mono_bind (mono_takeK 2) mono_frac))
theorem value_en (m : Nat) : valueP [En m] = .bad m := rfl
theorem tr_value (m : Nat) : Tr m valueP := tr_ite (atKind_head 1) (trS_takeK (by decide)).tr.one (tr_ite (atKind_head 3) (trS_takeK (by decide)).tr.one (tr_bind (trS_takeK (by decide)).tr (fun a => tr_frac a m) mono_frac fun a => Or.inr ⟨a, frac_en a m⟩).one (mono_takeK 3) (mono_bind (mono_takeK 2) mono_frac) (Or.inl rfl)).one (mono_takeK 1) (mono_ite (mono_takeK 3) (mono_bind (mono_takeK 2) mono_frac)) (Or.inl rfl)
theorem more_step (k : Nat) : moreP (k + 1) = fun l => if atMark 44 l then (fun l => (fun l => (valueP l).bind fun v r => (moreP k r).bind fun vs r2 => .ok (v :: vs) r2) (l.drop 1)) l else .ok [] l := rfl
theorem mono_more : ∀ k, Mono (moreP k)
  | 0 => mono_ok []
  | k + 1 => mono_ite (mono_drop (p := fun l => (valueP l).bind fun v r => (moreP k r).bind fun vs r2 => .ok (v :: vs) r2) (mono_bind mono_value fun _ => mono_bind (mono_more k) fun _ => mono_ok _)) (mono_ok [])
theorem more_en (k m : Nat) : moreP k [En m] = .ok [] [En m] := by
  cases k with
  | zero => rfl
  | succ k =>
    rw [moreP, show atMark 44 [En m] = isMark 44 (En m) from rfl, en_mark, if_neg (by decide)]
theorem tr_more (m : Nat) : ∀ k, Tr m (moreP k)
  | 0 => tr_ok []
  | k + 1 => tr_ite (atMark_head 44) (tr1_drop (p := fun l => (valueP l).bind fun v r => (moreP k r).bind fun vs r2 => .ok (v :: vs) r2) (tr_bind (tr_value m) (fun v => tr_bind (tr_more m k) (fun vs => tr_ok (v :: vs)) (fun _ => mono_ok _) fun vs => Or.inr ⟨_, rfl⟩) (fun _ => mono_bind (mono_more k) fun _ => mono_ok _) fun v => Or.inr ⟨[v], by show (moreP k [En m]).bind _ = _; rw [more_en]; rfl⟩)) (tr_ok []).one (mono_drop (p := fun l => (valueP l).bind fun v r => (moreP k r).bind fun vs r2 => .ok (v :: vs) r2) (mono_bind mono_value fun _ => mono_bind (mono_more k) fun _ => mono_ok _)) (mono_ok []) (Or.inr ⟨[], more_en (k + 1) m⟩)
/-- Enough fuel is enough. -/
theorem value_lt {l : List Tok} {v : List UInt8} {r : List Tok} (h : valueP l = .ok v r) : r.length < l.length := by
  unfold valueP at h
  split at h
  · obtain ⟨t, rfl, _⟩ := takeK_eq h; rw [List.length_cons]; omega
  · split at h
    · obtain ⟨t, rfl, _⟩ := takeK_eq h; rw [List.length_cons]; omega
    · obtain ⟨a, q, h1, h2⟩ := PR.bind_eq h
      obtain ⟨t, rfl, _⟩ := takeK_eq h1
      have := mono_frac a q v r h2
      rw [List.length_cons]; omega
theorem more_fuel : ∀ (n : Nat) (l : List Tok) (k k' : Nat), l.length ≤ n → l.length ≤ k → l.length ≤ k' → moreP k l = moreP k' l := by
  intro n
  induction n with
  | zero =>
    intro l k k' hn _ _
    have : l = [] := List.eq_nil_of_length_eq_zero (by omega)
    subst this
    cases k <;> cases k' <;> rfl
  | succ n ih =>
    intro l k k' hn hk hk'
    cases l with
    | nil => cases k <;> cases k' <;> rfl
    | cons t l =>
      rw [List.length_cons] at hn hk hk'
      obtain ⟨k, rfl⟩ : ∃ j, k = j + 1 := ⟨k - 1, by omega⟩
      obtain ⟨k', rfl⟩ : ∃ j, k' = j + 1 := ⟨k' - 1, by omega⟩
      rw [moreP, moreP]
      split
      · rw [List.drop_succ_cons, List.drop_zero]
        cases hv : valueP l with
        | bad e => rfl
        | ok v r =>
          have := value_lt hv
          rw [PR.bind_ok, PR.bind_ok, ih r k k' (by omega) (by omega) (by omega)]
      · rfl
/-- The values behind the first. -/
def moreA (l : List Tok) : PR (List (List UInt8)) := moreP l.length l
theorem more_any {l : List Tok} {k : Nat} (h : l.length ≤ k) : moreA l = moreP k l := more_fuel l.length l _ _ (Nat.le_refl _) (Nat.le_refl _) h
theorem mono_moreA : Mono moreA := fun l => mono_more l.length l
theorem moreA_en (m : Nat) : moreA [En m] = .ok [] [En m] := more_en 1 m
theorem tr_moreA (m : Nat) : Tr m moreA := by
  intro pre rest a r h
  have e1 : moreA (pre ++ rest) = moreP (pre.length + rest.length + 1) (pre ++ rest) := more_any (by rw [List.length_append]; omega)
  have e2 : moreA (pre ++ [En m]) = moreP (pre.length + rest.length + 1) (pre ++ [En m]) := more_any (by rw [List.length_append]; simp)
  rw [e1] at h
  rw [e2]
  exact tr_more m _ pre rest a r h
def fieldQ (n : Nat) (l : List Tok) : PR Fld :=
  (takeK 1 l).bind fun key r => (valueP r).bind fun v r2 => (moreA r2).bind fun vs r3 => (takeM 59 r3).bind fun _ r4 => .ok ⟨key, v :: vs, n⟩ r4
theorem fieldP_Q (l : List Tok) : fieldP l = fieldQ (lineP l) l := rfl
theorem mono_fieldQ (n : Nat) : Mono (fieldQ n) := mono_bind (mono_takeK 1) fun _ => mono_bind mono_value fun _ => mono_bind mono_moreA fun _ => mono_bind (mono_takeM 59) fun _ => mono_ok _
theorem mono_field : Mono fieldP := fun l => mono_fieldQ (lineP l) l
theorem fieldQ_en (n m : Nat) : fieldQ n [En m] = .bad m := rfl
theorem field_en (m : Nat) : fieldP [En m] = .bad m := rfl
theorem trS_fieldQ (n m : Nat) : TrS m (fieldQ n) := trS_bind (trS_takeK (by decide)).tr (fun key => trS_bind (tr_value m) (fun v => trS_bind (tr_moreA m) (fun vs => trS_last trS_takeM (fun _ => ⟨key, v :: vs, n⟩) fun _ _ => rfl) (fun _ => mono_bind (mono_takeM 59) fun _ => mono_ok _) fun vs => by show (takeM 59 [En m]).bind _ = _; rw [takeM_en]; rfl) (fun _ => mono_bind mono_moreA fun _ => mono_bind (mono_takeM 59) fun _ => mono_ok _) fun v => by show (moreA [En m]).bind _ = _; rw [moreA_en, PR.bind_ok, takeM_en]; rfl) (fun _ => mono_bind mono_value fun _ => mono_bind mono_moreA fun _ => mono_bind (mono_takeM 59) fun _ => mono_ok _) fun key => by show (valueP [En m]).bind _ = _; rw [value_en]; rfl
theorem trS_line {α : Type} {m : Nat} {p : List Tok → PR α} {q : Nat → List Tok → PR α} (hpq : ∀ l, p l = q (lineP l) l) (hq : ∀ n, TrS m (q n)) (hm : Mono p) (he : EB m p) : TrS m p := by
  intro pre rest a r h
  cases pre with
  | nil => exact Or.inr ⟨hm _ a r h, he⟩
  | cons t pre =>
    rw [hpq] at h
    have := hq t.line (t :: pre) rest a r h
    rw [hpq]
    exact this
theorem trS_field (m : Nat) : TrS m fieldP := trS_line fieldP_Q (fun n => trS_fieldQ n m) mono_field (field_en m)
theorem field_lt {l : List Tok} {f : Fld} {r : List Tok} (h : fieldP l = .ok f r) : r.length < l.length := by
  obtain ⟨key, q1, h1, h⟩ := PR.bind_eq h
  obtain ⟨t, rfl, _⟩ := takeK_eq h1
  have := (mono_bind mono_value fun _ => mono_bind mono_moreA fun _ => mono_bind (mono_takeM 59) fun _ => mono_ok _ : Mono fun r => (valueP r).bind fun v r2 => (moreA r2).bind fun vs r3 => (takeM 59 r3).bind fun _ r4 => PR.ok (⟨key, v :: vs, lineP (t :: q1)⟩ : Fld) r4) q1 f r h
  rw [List.length_cons]; omega
/-- A loop of readings up to a closing brace. -/
def untilP {α : Type} (p : List Tok → PR α) : Nat → List Tok → PR (List α)
  | 0, l => .ok [] l
  | k + 1, l => if atMark 125 l then .ok [] l else (p l).bind fun f r => (untilP p k r).bind fun fs r2 => .ok (f :: fs) r2
theorem fieldsP_until : ∀ k, fieldsP k = untilP fieldP k
  | 0 => rfl
  | k + 1 => by
    funext l
    rw [fieldsP, untilP, fieldsP_until k]
theorem blocksP_until : ∀ k, blocksP k = untilP blockP k
  | 0 => rfl
  | k + 1 => by
    funext l
    rw [blocksP, untilP, blocksP_until k]
section
variable {α : Type} {p : List Tok → PR α} {m : Nat}
theorem mono_until (hp : Mono p) : ∀ k, Mono (untilP p k)
  | 0 => mono_ok []
  | k + 1 => mono_ite (mono_ok []) (mono_bind hp fun _ => mono_bind (mono_until hp k) fun _ => mono_ok _)
theorem until_en (he : EB m p) (k : Nat) : untilP p (k + 1) [En m] = .bad m := by
  rw [untilP, show atMark 125 [En m] = isMark 125 (En m) from rfl, en_mark, if_neg (by decide), show p [En m] = .bad m from he]
  rfl
theorem tr_until (hp : Tr m p) (hm : Mono p) (he : EB m p) : ∀ k, Tr m (untilP p k)
  | 0 => tr_ok []
  | k + 1 => tr_ite (atMark_head 125) (tr_ok []).one (tr_bind hp (fun f => tr_bind (tr_until hp hm he k) (fun fs => tr_ok (f :: fs)) (fun _ => mono_ok _) fun fs => Or.inr ⟨_, rfl⟩) (fun _ => mono_bind (mono_until hm k) fun _ => mono_ok _) fun f => (by
      cases k with
      | zero => exact Or.inr ⟨[f], rfl⟩
      | succ k => exact Or.inl (by simp only [until_en he k, PR.bind_bad]))).one (mono_ok []) (mono_bind hm fun _ => mono_bind (mono_until hm k) fun _ => mono_ok _) (Or.inl (until_en he k))
theorem until_fuel (hlt : ∀ l a r, p l = .ok a r → r.length < l.length) : ∀ (n : Nat) (l : List Tok) (k k' : Nat), l.length ≤ n → l.length < k → l.length < k' → untilP p k l = untilP p k' l := by
  intro n
  induction n with
  | zero =>
    intro l k k' hn hk hk'
    obtain ⟨k, rfl⟩ : ∃ j, k = j + 1 := ⟨k - 1, by omega⟩
    obtain ⟨k', rfl⟩ : ∃ j, k' = j + 1 := ⟨k' - 1, by omega⟩
    rw [untilP, untilP]
    split
    · rfl
    · cases hv : p l with
      | bad e => rfl
      | ok v r => have := hlt l v r hv; omega
  | succ n ih =>
    intro l k k' hn hk hk'
    obtain ⟨k, rfl⟩ : ∃ j, k = j + 1 := ⟨k - 1, by omega⟩
    obtain ⟨k', rfl⟩ : ∃ j, k' = j + 1 := ⟨k' - 1, by omega⟩
    rw [untilP, untilP]
    split
    · rfl
    · cases hv : p l with
      | bad e => rfl
      | ok v r =>
        have := hlt l v r hv
        rw [PR.bind_ok, PR.bind_ok, ih r k k' (by omega) (by omega) (by omega)]
end
end Go.Proofs.Ytfknckbclddnmaa.Lx
