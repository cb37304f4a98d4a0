/-
  Lexical analysis in plain words: words, numbers, strings, marks, blanks; what stands behind a blank does not turn what stands before it; a quoted string is read back. No program, no world.
-/
import Derived.WalkKit
namespace Go.Proofs.Ytfknckbclddnmaa.Lx

def letB (c : UInt8) : Bool := decide (97 ≤ c.toNat) && decide (c.toNat ≤ 122)
def digB (c : UInt8) : Bool := decide (48 ≤ c.toNat) && decide (c.toNat ≤ 57)
def tailB (c : UInt8) : Bool := letB c || digB c || decide (c.toNat = 45)
def blankB (c : UInt8) : Bool := decide (c.toNat = 32) || decide (c.toNat = 9) || decide (c.toNat = 10) || decide (c.toNat = 13)
def markB (c : UInt8) : Bool := decide (c.toNat = 123) || decide (c.toNat = 125) || decide (c.toNat = 59) || decide (c.toNat = 44) || decide (c.toNat = 47)
def plainB (c : UInt8) : Bool := decide (32 ≤ c.toNat) && decide (c.toNat ≤ 126)
def escB (c : UInt8) : Bool := decide (c.toNat = 34) || decide (c.toNat = 92)

/-- The whole is a word. -/
def wordB : List UInt8 → Bool
  | [] => false
  | c :: r => letB c && r.all tailB
/-- The whole is a number. -/
def numB : List UInt8 → Bool
  | [] => false
  | c :: r => (c :: r).all digB && decide (r.length ≤ 5) && (r.isEmpty || !decide (c.toNat = 48))
def bareB (l : List UInt8) : Bool :=
  if l.any (fun c => decide (c.toNat = 47)) then numB (l.takeWhile fun c => !decide (c.toNat = 47)) && numB ((l.dropWhile fun c => !decide (c.toNat = 47)).drop 1)
  else wordB l || numB l
/-- What a string stands for whose opening quote was read, and how many bytes it takes with the closing one. -/
def strS : List UInt8 → Option (List UInt8 × Nat)
  | [] => none
  | c :: r =>
    if c.toNat = 34 then some ([], 1)
    else if plainB c then
      if c.toNat = 92 then match r with
        | [] => none
        | d :: q => if escB d then (strS q).map fun x => (d :: x.1, x.2 + 2) else none
      else (strS r).map fun x => (c :: x.1, x.2 + 1)
    else none
theorem strS_cons (c : UInt8) (r : List UInt8) : strS (c :: r) =
    if c.toNat = 34 then some ([], 1)
    else if plainB c then
      if c.toNat = 92 then match r with
        | [] => none
        | d :: q => if escB d then (strS q).map fun x => (d :: x.1, x.2 + 2) else none
      else (strS r).map fun x => (c :: x.1, x.2 + 1)
    else none := by cases r <;> rw [strS.eq_def]
/-- The token at the head: its kind, its text, its length. -/
def oneS (l : List UInt8) : Option (Nat × List UInt8 × Nat) :=
  if wordB (l.takeWhile tailB) then some (1, l.takeWhile tailB, (l.takeWhile tailB).length)
  else if numB (l.takeWhile tailB) then some (2, l.takeWhile tailB, (l.takeWhile tailB).length)
  else match l with
    | [] => none
    | c :: r => if markB c then some (4, [c], 1) else if c.toNat = 34 then (strS r).map fun x => (3, x.1, x.2 + 1) else none
structure Tok where
  kind : Nat
  text : List UInt8
  line : Nat
deriving DecidableEq
/-- The tokens ahead of the end and the end's line; or the line of the fault. -/
inductive Res where
  | ok (ts : List Tok) (ln : Nat)
  | err (ln : Nat)
def Res.cons (t : Tok) : Res → Res
  | .ok ts ln => .ok (t :: ts) ln
  | .err ln => .err ln
def Res.app (ts : List Tok) : Res → Res
  | .ok us ln => .ok (ts ++ us) ln
  | .err ln => .err ln
theorem Res.app_cons (t : Tok) (ts : List Tok) (r : Res) : Res.app (t :: ts) r = (Res.app ts r).cons t := by cases r <;> rfl
theorem Res.app_nil (r : Res) : Res.app [] r = r := by cases r <;> rfl
theorem Res.app_app (ts us : List Tok) (r : Res) : Res.app ts (Res.app us r) = Res.app (ts ++ us) r := by cases r <;> simp [Res.app]
def lineOf (c : UInt8) (ln : Nat) : Nat := if c.toNat = 10 then ln + 1 else ln
def notNl (c : UInt8) : Bool := !decide (c.toNat = 10)
theorem drop_while_len (p : UInt8 → Bool) (l : List UInt8) : (l.dropWhile p).length ≤ l.length := (List.dropWhile_suffix p).length_le
def lexS : List UInt8 → Nat → Res
  | [], ln => .ok [] ln
  | c :: r, ln =>
    if c.toNat = 35 then lexS (r.dropWhile notNl) ln
    else if blankB c then lexS r (lineOf c ln)
    else match oneS (c :: r) with
      | none => .err ln
      | some x => (lexS (r.drop (x.2.2 - 1)) ln).cons ⟨x.1, x.2.1, ln⟩
termination_by l => l.length
decreasing_by
  · have := drop_while_len notNl r; simp; omega
  · simp
  · simp; omega
def quoteS (l : List UInt8) : Option (List UInt8) :=
  if l.all plainB then some (34 :: (l.flatMap fun c => if escB c then [92, c] else [c]) ++ [34]) else none

theorem strS_pos (l : List UInt8) : ∀ x, strS l = some x → 1 ≤ x.2 := by
  induction l using strS.induct with
  | case1 => intro x h; simp [strS] at h
  | case2 c r h => intro x h'; rw [strS_cons, if_pos h] at h'; injection h' with h'; subst h'; exact Nat.le_refl _
  | case3 c h1 h2 h3 => intro x h; rw [strS_cons, if_neg h1, if_pos h2, if_pos h3] at h; cases h
  | case4 c h1 h2 h3 d q h4 ih =>
    intro x h
    rw [strS_cons, if_neg h1, if_pos h2, if_pos h3] at h
    simp only [if_pos h4] at h
    obtain ⟨y, hy, rfl⟩ := Option.map_eq_some_iff.1 h
    show 1 ≤ y.2 + 2
    omega
  | case5 c h1 h2 h3 d q h4 => intro x h; rw [strS_cons, if_neg h1, if_pos h2, if_pos h3] at h; simp only [if_neg h4] at h; cases h
  | case6 c r h1 h2 h3 ih =>
    intro x h
    rw [strS_cons, if_neg h1, if_pos h2, if_neg h3] at h
    obtain ⟨y, hy, rfl⟩ := Option.map_eq_some_iff.1 h
    show 1 ≤ y.2 + 1
    omega
  | case7 c r h1 h2 => intro x h; rw [strS_cons, if_neg h1, if_neg h2] at h; cases h
theorem wordB_pos {l : List UInt8} (h : wordB l = true) : 1 ≤ l.length := by
  cases l with
  | nil => cases h
  | cons c r => simp
theorem numB_pos {l : List UInt8} (h : numB l = true) : 1 ≤ l.length := by
  cases l with
  | nil => cases h
  | cons c r => simp
theorem oneS_pos (l : List UInt8) (x : Nat × List UInt8 × Nat) (h : oneS l = some x) : 1 ≤ x.2.2 := by
  unfold oneS at h
  split at h
  · rename_i hw; injection h with h; subst h; exact wordB_pos hw
  · split at h
    · rename_i hw; injection h with h; subst h; exact numB_pos hw
    · cases l with
      | nil => cases h
      | cons c r =>
        simp only at h
        split at h
        · injection h with h; subst h; exact Nat.le_refl _
        · split at h
          · obtain ⟨y, hy, rfl⟩ := Option.map_eq_some_iff.1 h
            show 1 ≤ y.2 + 1
            omega
          · cases h

/-- What may stand behind a text without turning it: a line's end; a blank, where the text has no quote and no comment. -/
def Sep (c : UInt8) (u : List UInt8) : Prop := c.toNat = 10 ∨ (c.toNat = 32 ∧ ∀ d ∈ u, d.toNat ≠ 34 ∧ d.toNat ≠ 35)
theorem Sep.tail {c : UInt8} {u : List UInt8} (h : Sep c u) : tailB c = false := by
  rcases h with h | ⟨h, _⟩ <;> simp [tailB, letB, digB, h]
theorem Sep.sub {c : UInt8} {u v : List UInt8} (h : Sep c u) (hv : ∀ d ∈ v, d ∈ u) : Sep c v := by
  rcases h with h | ⟨h, hu⟩
  · exact Or.inl h
  · exact Or.inr ⟨h, fun d hd => hu d (hv d hd)⟩
theorem take_while_sep (p : UInt8 → Bool) (c : UInt8) (q : List UInt8) (hc : p c = false) : ∀ u : List UInt8, (u ++ c :: q).takeWhile p = u.takeWhile p
  | [] => by simp [List.takeWhile, hc]
  | d :: u => by
    rw [List.cons_append, List.takeWhile_cons, List.takeWhile_cons, take_while_sep p c q hc u]
theorem strS_sep (c : UInt8) (q : List UInt8) (hc : c.toNat = 10) (u : List UInt8) : strS (u ++ c :: q) = strS u := by
  have hn : ∀ q, strS (c :: q) = none := fun q => by
    rw [strS_cons, if_neg (by omega), if_neg (by simp [plainB, hc])]
  induction u using strS.induct with
  | case1 => exact hn q
  | case2 d r h => rw [List.cons_append, strS_cons, strS_cons, if_pos h, if_pos h]
  | case3 d h1 h2 h3 =>
    rw [List.cons_append, strS_cons, strS_cons, if_neg h1, if_pos h2, if_pos h3, if_neg h1, if_pos h2, if_pos h3]
    simp [escB, hc]
  | case4 d h1 h2 h3 e r h4 ih =>
    rw [List.cons_append, List.cons_append, strS_cons d (e :: (r ++ c :: q)), strS_cons d (e :: r), if_neg h1, if_pos h2, if_pos h3, if_neg h1, if_pos h2, if_pos h3]
    simp only [if_pos h4, ih]
  | case5 d h1 h2 h3 e r h4 =>
    rw [List.cons_append, List.cons_append, strS_cons d (e :: (r ++ c :: q)), strS_cons d (e :: r), if_neg h1, if_pos h2, if_pos h3, if_neg h1, if_pos h2, if_pos h3]
    simp only [if_neg h4]
  | case6 d r h1 h2 h3 ih =>
    rw [List.cons_append, strS_cons, strS_cons, if_neg h1, if_pos h2, if_neg h3, if_neg h1, if_pos h2, if_neg h3, ih]
  | case7 d r h1 h2 => rw [List.cons_append, strS_cons, strS_cons, if_neg h1, if_neg h2, if_neg h1, if_neg h2]
theorem oneS_sep (c : UInt8) (q : List UInt8) (d : UInt8) (u : List UInt8) (h : Sep c (d :: u)) : oneS (d :: u ++ c :: q) = oneS (d :: u) := by
  unfold oneS
  rw [take_while_sep tailB c q h.tail]
  split
  · rfl
  · split
    · rfl
    · simp only [List.cons_append]
      split
      · rfl
      · split
        · rename_i hq
          rcases h with h | ⟨_, h⟩
          · rw [strS_sep c q h]
          · exact absurd hq (h d (List.mem_cons_self ..)).1
        · rfl
theorem drop_while_sep (p : UInt8 → Bool) (c : UInt8) (q : List UInt8) (hc : p c = false) : ∀ u : List UInt8, (u ++ c :: q).dropWhile p = u.dropWhile p ++ c :: q
  | [] => by simp [List.dropWhile, hc]
  | d :: u => by
    rw [List.cons_append, List.dropWhile_cons, List.dropWhile_cons, drop_while_sep p c q hc u]
    split <;> rfl
theorem strS_len (l : List UInt8) : ∀ x, strS l = some x → x.2 ≤ l.length := by
  induction l using strS.induct with
  | case1 => intro x h; simp [strS] at h
  | case2 c r h => intro x h'; rw [strS_cons, if_pos h] at h'; injection h' with h'; subst h'; simp
  | case3 c h1 h2 h3 => intro x h; rw [strS_cons, if_neg h1, if_pos h2, if_pos h3] at h; cases h
  | case4 c h1 h2 h3 d q h4 ih =>
    intro x h
    rw [strS_cons, if_neg h1, if_pos h2, if_pos h3] at h
    simp only [if_pos h4] at h
    obtain ⟨y, hy, rfl⟩ := Option.map_eq_some_iff.1 h
    have := ih y hy
    simp
    omega
  | case5 c h1 h2 h3 d q h4 => intro x h; rw [strS_cons, if_neg h1, if_pos h2, if_pos h3] at h; simp only [if_neg h4] at h; cases h
  | case6 c r h1 h2 h3 ih =>
    intro x h
    rw [strS_cons, if_neg h1, if_pos h2, if_neg h3] at h
    obtain ⟨y, hy, rfl⟩ := Option.map_eq_some_iff.1 h
    have := ih y hy
    simp
    omega
  | case7 c r h1 h2 => intro x h; rw [strS_cons, if_neg h1, if_neg h2] at h; cases h
theorem oneS_len (c : UInt8) (r : List UInt8) (x : Nat × List UInt8 × Nat) (h : oneS (c :: r) = some x) : x.2.2 ≤ (c :: r).length := by
  have ht : ((c :: r).takeWhile tailB).length ≤ (c :: r).length := (List.takeWhile_prefix tailB).length_le
  unfold oneS at h
  split at h
  · injection h with h; subst h; exact ht
  · split at h
    · injection h with h; subst h; exact ht
    · simp only at h
      split at h
      · injection h with h; subst h; simp
      · split at h
        · obtain ⟨y, hy, rfl⟩ := Option.map_eq_some_iff.1 h
          have := strS_len r y hy
          simp
          omega
        · cases h
theorem lexS_cons (c : UInt8) (r : List UInt8) (ln : Nat) : lexS (c :: r) ln =
    if c.toNat = 35 then lexS (r.dropWhile notNl) ln
    else if blankB c then lexS r (lineOf c ln)
    else match oneS (c :: r) with
      | none => .err ln
      | some x => (lexS (r.drop (x.2.2 - 1)) ln).cons ⟨x.1, x.2.1, ln⟩ := by rw [lexS]
theorem lexS_nil (ln : Nat) : lexS [] ln = .ok [] ln := by rw [lexS]
/-- What follows a result. -/
def Res.follow (r : Res) (f : Nat → Res) : Res := match r with
  | .ok ts ln => Res.app ts (f ln)
  | .err ln => .err ln
theorem Res.follow_cons (t : Tok) (r : Res) (f : Nat → Res) : (r.cons t).follow f = (r.follow f).cons t := by
  cases r with
  | ok ts ln => exact Res.app_cons t ts (f ln)
  | err ln => rfl
/-- What stands behind a blank is read by itself. -/
theorem lexS_sep (c : UInt8) (q : List UInt8) : ∀ (n : Nat) (u : List UInt8) (ln : Nat), u.length ≤ n → Sep c u → lexS (u ++ c :: q) ln = (lexS u ln).follow fun m => lexS (c :: q) m
  | n, [], ln, _, _ => by rw [lexS_nil, List.nil_append]; exact (Res.app_nil _).symm
  | 0, d :: u, ln, h, _ => absurd h (by simp)
  | n + 1, d :: u, ln, h, hs => by
    have hu : u.length ≤ n := by simpa using h
    have hs' : Sep c u := hs.sub fun x hx => List.mem_cons_of_mem _ hx
    have e1 := lexS_cons d (u ++ c :: q) ln
    rw [List.cons_append, e1, lexS_cons d u ln]
    split
    · rename_i h35
      have h10 : c.toNat = 10 := by
        rcases hs with h | ⟨_, h⟩
        · exact h
        · exact absurd h35 (h d (List.mem_cons_self ..)).2
      rw [drop_while_sep notNl c q (by simp [notNl, h10])]
      exact lexS_sep c q n _ ln (Nat.le_trans (drop_while_len _ _) hu) (hs'.sub fun x hx => (List.dropWhile_suffix notNl).subset hx)
    · split
      · exact lexS_sep c q n u _ hu hs'
      · have ho := oneS_sep c q d u hs
        rw [List.cons_append] at ho
        rw [ho]
        cases hx : oneS (d :: u) with
        | none => rfl
        | some x =>
          have hp := oneS_pos _ _ hx
          have hl := oneS_len d u x hx
          simp only [List.length_cons] at hl
          simp only
          rw [List.drop_append_of_le_length (by omega), Res.follow_cons]
          congr 1
          exact lexS_sep c q n _ ln (by rw [List.length_drop]; omega) (hs'.sub fun x hx => List.mem_of_mem_drop hx)
/-- Lines aside, a text is read alike from every line on; the lines move together. -/
def Tok.up (k : Nat) (t : Tok) : Tok := { t with line := t.line + k }
def Res.up (k : Nat) : Res → Res
  | .ok ts ln => .ok (ts.map (Tok.up k)) (ln + k)
  | .err ln => .err (ln + k)
theorem Res.up_cons (k : Nat) (t : Tok) (r : Res) : (r.cons t).up k = (r.up k).cons (t.up k) := by cases r <;> rfl
theorem lexS_up (k : Nat) : ∀ (n : Nat) (u : List UInt8) (ln : Nat), u.length ≤ n → lexS u (ln + k) = (lexS u ln).up k
  | n, [], ln, _ => by rw [lexS_nil, lexS_nil]; rfl
  | 0, d :: u, ln, h => absurd h (by simp)
  | n + 1, d :: u, ln, h => by
    have hu : u.length ≤ n := by simpa using h
    rw [lexS_cons d u (ln + k), lexS_cons d u ln]
    split
    · exact lexS_up k n _ ln (Nat.le_trans (drop_while_len _ _) hu)
    · split
      · have e : lineOf d (ln + k) = lineOf d ln + k := by unfold lineOf; split <;> omega
        rw [e]
        exact lexS_up k n u _ hu
      · cases hx : oneS (d :: u) with
        | none => rfl
        | some x =>
          simp only
          rw [lexS_up k n _ ln (by rw [List.length_drop]; omega), Res.up_cons]
          rfl
theorem escS (l q : List UInt8) (h : l.all plainB = true) : strS ((l.flatMap fun c => if escB c then [92, c] else [c]) ++ 34 :: q) = some (l, (l.flatMap fun c => if escB c then [92, c] else [c]).length + 1) := by
  induction l with
  | nil => rw [List.flatMap_nil, List.nil_append, strS_cons, if_pos (by decide)]; rfl
  | cons c l ih =>
    rw [List.all_cons, Bool.and_eq_true] at h
    have ih' := ih h.2
    rw [List.flatMap_cons]
    by_cases he : escB c = true
    · rw [if_pos he, List.append_assoc]
      show strS (92 :: c :: ((l.flatMap fun c => if escB c then [92, c] else [c]) ++ 34 :: q)) = _
      rw [strS_cons, if_neg (by decide), if_pos (by decide), if_pos (by decide)]
      simp only [if_pos he, ih', Option.map_some]
      simp
    · rw [if_neg he, List.append_assoc]
      show strS (c :: ((l.flatMap fun c => if escB c then [92, c] else [c]) ++ 34 :: q)) = _
      have h34 : ¬ c.toNat = 34 := fun e => he (by simp [escB, e])
      have h92 : ¬ c.toNat = 92 := fun e => he (by simp [escB, e])
      rw [strS_cons, if_neg h34, if_pos h.1, if_neg h92, ih']
      simp
/-- A quoted string is read as one string token. -/
theorem lexS_quote (l : List UInt8) (h : l.all plainB = true) (ln : Nat) : lexS (34 :: (l.flatMap fun c => if escB c then [92, c] else [c]) ++ [34]) ln = .ok [⟨3, l, ln⟩] ln := by
  rw [List.cons_append, lexS_cons, if_neg (by decide), if_neg (by decide)]
  have ho : oneS (34 :: ((l.flatMap fun c => if escB c then [92, c] else [c]) ++ [34])) = some (3, l, (l.flatMap fun c => if escB c then [92, c] else [c]).length + 2) := by
    unfold oneS
    have ht : List.takeWhile tailB (34 :: ((l.flatMap fun c => if escB c then [92, c] else [c]) ++ [34])) = [] := by
      rw [List.takeWhile_cons, if_neg (by decide)]
    rw [ht]
    simp only [wordB, numB, Bool.false_eq_true, if_false]
    rw [if_neg (by decide), if_pos (by decide), escS l [] h]
    rfl
  rw [ho]
  simp only
  rw [List.drop_of_length_le (by simp), lexS_nil]
  rfl
/-- How many lines end in a text. -/
def nlN (l : List UInt8) : Nat := l.countP fun c => decide (c.toNat = 10)
theorem lexS_blanks (q : List UInt8) : ∀ (g : List UInt8) (ln : Nat), g.all blankB = true → lexS (g ++ q) ln = lexS q (ln + nlN g)
  | [], ln, _ => rfl
  | c :: g, ln, h => by
    rw [List.all_cons, Bool.and_eq_true] at h
    have h35 : ¬ c.toNat = 35 := fun e => by have := h.1; simp [blankB, e] at this
    rw [List.cons_append, lexS_cons, if_neg h35, if_pos h.1, lexS_blanks q g _ h.2]
    congr 1
    unfold lineOf nlN
    rw [List.countP_cons]
    by_cases hc : c.toNat = 10
    · simp [hc]; omega
    · simp [hc]
theorem drop_all (p : UInt8 → Bool) : ∀ l : List UInt8, (∀ c ∈ l, p c = true) → l.dropWhile p = []
  | [], _ => rfl
  | c :: l, h => by
    rw [List.dropWhile_cons, if_pos (h c (List.mem_cons_self ..))]
    exact drop_all p l fun d hd => h d (List.mem_cons_of_mem _ hd)
theorem lexS_note (q : List UInt8) (note : List UInt8) (ln : Nat) (h : ∀ c ∈ note, c.toNat ≠ 10) : lexS (35 :: (note ++ 10 :: q)) ln = lexS q (ln + 1) := by
  have hd : (note ++ 10 :: q).dropWhile notNl = 10 :: q := by
    rw [drop_while_sep notNl 10 q (by decide)]
    have : note.dropWhile notNl = [] := drop_all notNl note fun c hc => by simp [notNl, h c hc]
    rw [this]; rfl
  rw [lexS_cons, if_pos (by decide), hd, lexS_cons, if_neg (by decide), if_pos (by decide)]
  rfl
/-- What a text reads as with a line's end behind it, it reads as without. -/
theorem lexS_nl {a : List UInt8} {ln e : Nat} {x : List Tok} (h : lexS (a ++ [10]) ln = .ok x e) : ∃ m, lexS a ln = .ok x m ∧ e = m + 1 := by
  rw [lexS_sep 10 [] a.length a ln (Nat.le_refl _) (Or.inl (by decide))] at h
  cases hr : lexS a ln with
  | err m => rw [hr] at h; cases h
  | ok ts m =>
    rw [hr] at h
    have e1 : lexS [10] m = .ok [] (m + 1) := by
      rw [lexS_cons, if_neg (by decide), if_pos (by decide), lexS_nil]; rfl
    simp only [Res.follow, e1, Res.app, List.append_nil] at h
    injection h with h1 h2
    subst h1
    exact ⟨m, rfl, h2.symm⟩
theorem lexS_between {a b g1 g2 note : List UInt8} {x y : List Tok} {e1 e2 : Nat} (ha : lexS (a ++ [10]) 1 = .ok x e1) (hb : lexS b 1 = .ok y e2) (h1 : g1.all blankB = true) (h2 : g2.all blankB = true) (hn : ∀ c ∈ note, c.toNat ≠ 10) :
    ∃ k, lexS (a ++ 10 :: (g1 ++ 35 :: (note ++ 10 :: (g2 ++ b)))) 1 = .ok (x ++ y.map (Tok.up k)) (e2 + k) := by
  obtain ⟨m, hm, rfl⟩ := lexS_nl ha
  refine ⟨m + 1 + nlN g1 + nlN g2, ?_⟩
  rw [lexS_sep 10 _ a.length a 1 (Nat.le_refl _) (Or.inl (by decide)), hm]
  simp only [Res.follow]
  rw [lexS_cons, if_neg (by decide), if_pos (by decide), lexS_blanks _ g1 _ h1, lexS_note _ note _ hn, lexS_blanks _ g2 _ h2]
  have e : lineOf 10 m + nlN g1 + 1 + nlN g2 = 1 + (m + 1 + nlN g1 + nlN g2) := by
    have : lineOf 10 m = m + 1 := rfl
    omega
  rw [e, lexS_up _ b.length b 1 (Nat.le_refl _), hb]
  rfl
/-- A byte that begins no token. -/
def badB (c : UInt8) : Bool := !blankB c && !decide (c.toNat = 35) && !tailB c && !markB c && !decide (c.toNat = 34)
theorem lexS_bad (c : UInt8) (q : List UInt8) (ln : Nat) (h : badB c = true) : lexS (c :: q) ln = .err ln := by
  simp only [badB, Bool.and_eq_true, Bool.not_eq_true', decide_eq_false_iff_not] at h
  obtain ⟨⟨⟨⟨h1, h2⟩, h3⟩, h4⟩, h5⟩ := h
  have ho : oneS (c :: q) = none := by
    unfold oneS
    rw [List.takeWhile_cons, h3]
    simp [wordB, numB, h4, h5]
  rw [lexS_cons, if_neg h2, h1, ho]
  rfl
theorem lexS_place {u q : List UInt8} {x : List Tok} {e k : Nat} {b : UInt8} (hu : ∀ d ∈ u, d.toNat ≠ 34 ∧ d.toNat ≠ 35) (h : lexS u 1 = .ok x e) (hb : badB b = true) :
    lexS (u ++ (List.replicate k 10 ++ 32 :: b :: q)) 1 = .err (e + k) := by
  have hg : (List.replicate k (10 : UInt8) ++ [32]).all blankB = true := by simp [blankB]
  have hnl : nlN (List.replicate k (10 : UInt8) ++ [32]) = k := by
    unfold nlN
    rw [List.countP_append, List.countP_replicate]
    simp
  have hq : ∀ ln, lexS (List.replicate k 10 ++ 32 :: b :: q) ln = .err (ln + k) := fun ln => by
    have := lexS_blanks (b :: q) (List.replicate k (10 : UInt8) ++ [32]) ln hg
    rw [List.append_assoc, hnl] at this
    rw [show (List.replicate k (10 : UInt8) ++ 32 :: b :: q) = List.replicate k 10 ++ ([32] ++ b :: q) from rfl, this, lexS_bad b q _ hb]
  cases k with
  | zero =>
    have := hq e
    simp only [List.replicate_zero, List.nil_append] at this ⊢
    rw [lexS_sep 32 _ u.length u 1 (Nat.le_refl _) (Or.inr ⟨by decide, hu⟩), h]
    simp only [Res.follow, this]
    rfl
  | succ k =>
    have := hq e
    rw [List.replicate_succ, List.cons_append] at this ⊢
    rw [lexS_sep 10 _ u.length u 1 (Nat.le_refl _) (Or.inl (by decide)), h]
    simp only [Res.follow, this]
    rfl
theorem lexS_spaces (n ln : Nat) : lexS (List.replicate n 32) ln = .ok [] ln := by
  have := lexS_blanks [] (List.replicate n (32 : UInt8)) ln (by simp [blankB])
  rw [List.append_nil, lexS_nil] at this
  rw [this]
  congr 1
  unfold nlN
  rw [List.countP_replicate]
  simp
end Go.Proofs.Ytfknckbclddnmaa.Lx
