/-
  The reference's reader, whether it has failed or not: take, at, value carry one equation on.
-/
import Derived.Test.YtaeionfhflnbpaaSynVal
import Derived.Test.YtaeionfhflnbpaaSynLs
import Derived.Test.YtaeionfhflnbpaaSynStep
namespace Go.Proofs.Ytaeionfhflnbpaa
open Go.RowKit Lx

/-- The reader's state: the tokens before it, or the line in which it failed. -/
def RS (w : World) (g : Nat) (ao : Option Addr) (n c : Nat) (ts : List Tok) (p : PR Unit) : Prop := match p with
  | .ok _ l => AtS w g ao n c ts l
  | .bad b => BdS w g ao n c ts b
section
variable {w w' : World} {g n c k : Nat} {ao : Option Addr} {ts : List Tok} {p : PR Unit}
theorem Rd.low {i bad : Nat} (h : Rd w g ao n c ts i bad) (hb : Below k w w') (h1 : g < k) (h2 : ∀ a, ao = some a → a.block < k) : Rd w' g ao n c ts i bad :=
  ⟨h.arr.below hb h1, ownsRow_low h.tok hb (fun j hj => by
    cases ao with
    | none => cases hj
    | some a =>
      have e : some a.block = some j := hj
      injection e with e
      have := h2 a rfl
      omega), h.ne⟩
theorem Rd.far {i bad : Nat} (h : Rd w g ao n c ts i bad) {p : Addr} (h1 : g ≠ p.block) (h2 : ∀ a, ao = some a → a.block ≠ p.block) (u : Value) : Rd (w.setCell p u) g ao n c ts i bad :=
  ⟨h.arr.far h1 u, ownsRow_set h.tok (fun e => by
    cases ao with
    | none => cases e
    | some a =>
      have e : some a.block = some p.block := e
      injection e with e
      exact h2 a rfl e) u, h.ne⟩
theorem RS.low (h : RS w g ao n c ts p) (hb : Below k w w') (h1 : g < k) (h2 : ∀ a, ao = some a → a.block < k) : RS w' g ao n c ts p := by
  cases p with
  | ok u l =>
    obtain ⟨i, a, b, d⟩ := h
    exact ⟨i, a.low hb h1 h2, b, d⟩
  | bad e =>
    obtain ⟨i, t, a, b, d⟩ := h
    exact ⟨i, t, a.low hb h1 h2, b, d⟩
theorem RS.far (h : RS w g ao n c ts p) {q : Addr} (h1 : g ≠ q.block) (h2 : ∀ a, ao = some a → a.block ≠ q.block) (u : Value) : RS (w.setCell q u) g ao n c ts p := by
  cases p with
  | ok v l =>
    obtain ⟨i, a, b, d⟩ := h
    exact ⟨i, a.far h1 h2 u, b, d⟩
  | bad e =>
    obtain ⟨i, t, a, b, d⟩ := h
    exact ⟨i, t, a.far h1 h2 u, b, d⟩
theorem RS.keep (h : RS w g ao n c ts p) (hb : Below w.heap.size w w') : RS w' g ao n c ts p := by
  cases p with
  | ok v l => exact AtS.keep h hb
  | bad e => exact BdS.keep h hb
theorem RS.lt (h : RS w g ao n c ts p) : g < w.heap.size := by
  cases p with
  | ok v l =>
    obtain ⟨i, a, b, d⟩ := h
    exact a.arr.lt
  | bad e =>
    obtain ⟨i, t, a, b, d⟩ := h
    exact a.arr.lt
theorem RS.tok_lt (h : RS w g ao n c ts p) : ∀ a, ao = some a → a.block < w.heap.size := by
  intro a ea
  subst ea
  cases p with
  | ok v l =>
    obtain ⟨i, x, b, d⟩ := h
    exact (World.ownsRow.lt (v := .slice (some a) n c) x.tok a.block rfl).2
  | bad e =>
    obtain ⟨i, t, x, b, d⟩ := h
    exact (World.ownsRow.lt (v := .slice (some a) n c) x.tok a.block rfl).2
theorem RS.len (h : RS w g ao n c ts p) : ts.length = n := by
  cases p with
  | ok v l =>
    obtain ⟨i, a, b, d⟩ := h
    exact a.tok.len
  | bad e =>
    obtain ⟨i, t, a, b, d⟩ := h
    exact a.tok.len
end
/-- p' carries on what p was, behind the text S: whatever follows. -/
def Goes (p : PR Unit) (q : List Tok → PR (List UInt8)) (S : List UInt8) (p' : PR Unit) : Prop := ∀ (β : Type) (f : List UInt8 → List Tok → PR β), (p.bind fun _ r => (q r).bind f) = p'.bind fun _ r => f S r
def GoesU (p : PR Unit) (q : List Tok → PR Unit) (p' : PR Unit) : Prop := ∀ (β : Type) (f : List Tok → PR β), (p.bind fun _ r => (q r).bind fun _ r2 => f r2) = p'.bind fun _ r => f r
theorem Goes.ok {l r : List Tok} {q : List Tok → PR (List UInt8)} {S : List UInt8} (h : Goes (.ok () l) q S (.ok () r)) : q l = .ok S r := by
  have := h (List UInt8) (fun v r => .ok v r)
  rw [PR.bind_ok, PR.bind_ok] at this
  cases hq : q l with
  | bad e => rw [hq] at this; cases this
  | ok v r2 => rw [hq] at this; exact this
theorem morR_step {acc : List (List UInt8)} {l : List Tok} (h : atMark 44 l = true) : morR acc l = (valueP (l.drop 1)).bind fun v r => morR (acc ++ [v]) r := by
  cases hv : valueP (l.drop 1) with
  | bad e => rw [morR_bad h hv]; rfl
  | ok v r => rw [morR_ok h hv]; rfl
theorem tailF_bind {α : Type} (key : List UInt8) (ln : Nat) (p : PR α) (f : α → List Tok → PR (List (List UInt8))) : tailF key ln (p.bind f) = p.bind fun v r => tailF key ln (f v r) := by
  cases p <;> rfl
theorem AtS.sub {w : World} {g n c : Nat} {ao : Option Addr} {ts l : List Tok} (h : AtS w g ao n c ts l) : l.length ≤ ts.length := by
  obtain ⟨i, _, b, _⟩ := h
  rw [← b, List.length_drop]
  omega
section
variable (w : World) (g : Nat) (ao : Option Addr) (n c : Nat) (ts : List Tok) (p : PR Unit) (h : RS w g ao n c ts p)
include h
theorem rsTake_c (he : EndsT ts) (k : Nat) (hk5 : k ≠ 5) :
    Calls Try.prog 19 #[.pointer (some ⟨g, 0, none⟩), .int .i64 (k : Int), .string ⟨#[]⟩] w fun e w' => ∃ S p', e = .returned (.string (stg S)) ∧ RS w' g ao n c ts p' ∧ Goes p (takeK k) S p' ∧ w.grownBy w' (some g) := by
  cases p with
  | bad b =>
    refine (take_stay w g ao n c ts b h k ⟨#[]⟩).mono fun e w' ⟨h1, h2, h3⟩ => ⟨[], .bad b, h1, h2, fun β f => rfl, h3⟩
  | ok u l =>
    refine (takeK_c w g ao n c ts l h he k hk5).mono fun e w' ⟨h1, h3⟩ => ?_
    cases hk : takeK k l with
    | ok a r =>
      rw [hk] at h1
      exact ⟨a, .ok () r, h1.1, h1.2, fun β f => by rw [PR.bind_ok, hk]; rfl, h3⟩
    | bad ln =>
      rw [hk] at h1
      exact ⟨[], .bad ln, h1.1, h1.2, fun β f => by rw [PR.bind_ok, hk]; rfl, h3⟩
theorem rsMark_c (he : EndsT ts) (d : UInt8) :
    Calls Try.prog 19 #[.pointer (some ⟨g, 0, none⟩), .int .i64 4, .string (stg [d])] w fun e w' => ∃ S p', e = .returned (.string S) ∧ RS w' g ao n c ts p' ∧ GoesU p (takeM d) p' ∧ w.grownBy w' (some g) := by
  cases p with
  | bad b =>
    refine (take_stay w g ao n c ts b h 4 (stg [d])).mono fun e w' ⟨h1, h2, h3⟩ => ⟨_, .bad b, h1, h2, fun β f => rfl, h3⟩
  | ok u l =>
    refine (takeM_c w g ao n c ts l h he d).mono fun e w' ⟨⟨⟨S, hS⟩, h1⟩, h3⟩ => ?_
    cases hk : takeM d l with
    | ok a r =>
      rw [hk] at h1
      exact ⟨S, .ok () r, hS, h1, fun β f => by rw [PR.bind_ok, hk], h3⟩
    | bad ln =>
      rw [hk] at h1
      exact ⟨S, .bad ln, hS, h1, fun β f => by rw [PR.bind_ok, hk], h3⟩
theorem rsElec_c (he : EndsT ts) :
    Calls Try.prog 19 #[.pointer (some ⟨g, 0, none⟩), .int .i64 1, .string (stg elec)] w fun e w' => ∃ S p', e = .returned (.string S) ∧ RS w' g ao n c ts p' ∧ GoesU p takeE p' ∧ w.grownBy w' (some g) := by
  cases p with
  | bad b =>
    refine (take_stay w g ao n c ts b h 1 (stg elec)).mono fun e w' ⟨h1, h2, h3⟩ => ⟨_, .bad b, h1, h2, fun β f => rfl, h3⟩
  | ok u l =>
    refine (takeE_c w g ao n c ts l h he).mono fun e w' ⟨⟨⟨S, hS⟩, h1⟩, h3⟩ => ?_
    cases hk : takeE l with
    | ok a r =>
      rw [hk] at h1
      exact ⟨S, .ok () r, hS, h1, fun β f => by rw [PR.bind_ok, hk], h3⟩
    | bad ln =>
      rw [hk] at h1
      exact ⟨S, .bad ln, hS, h1, fun β f => by rw [PR.bind_ok, hk], h3⟩
theorem rsAt_c (d : UInt8) :
    Calls Try.prog 20 #[.pointer (some ⟨g, 0, none⟩), .int .i64 4, .string (stg [d])] w fun e w' => ∃ b, e = .returned (.bool b) ∧ RS w' g ao n c ts p ∧ (b = true → ∃ l, p = .ok () l ∧ atMark d l = true) ∧ (b = false → ∀ l, p = .ok () l → atMark d l = false) ∧ w.grownBy w' (some g) := by
  cases p with
  | bad b =>
    refine (at_stay w g ao n c ts b h 4 (stg [d])).mono fun e w' ⟨h1, h2, h3⟩ => ⟨false, h1, h2, fun e => (by cases e), fun _ l e => (by cases e), h3⟩
  | ok u l =>
    refine (atM_c w g ao n c ts l h d).mono fun e w' ⟨h1, h2, h3⟩ => ⟨_, h1, h2, fun e => ⟨l, rfl, e⟩, fun e l' e2 => ?_, h3⟩
    injection e2 with _ e2
    rw [← e2]; exact e
theorem rsAtK_c (k : Nat) :
    Calls Try.prog 20 #[.pointer (some ⟨g, 0, none⟩), .int .i64 (k : Int), .string ⟨#[]⟩] w fun e w' => ∃ b, e = .returned (.bool b) ∧ RS w' g ao n c ts p ∧ (∀ l, p = .ok () l → b = atKind k l) ∧ (∀ ln, p = .bad ln → b = false) ∧ w.grownBy w' (some g) := by
  cases p with
  | bad b =>
    refine (at_stay w g ao n c ts b h k ⟨#[]⟩).mono fun e w' ⟨h1, h2, h3⟩ => ⟨false, h1, h2, fun l e => (by cases e), fun _ _ => rfl, h3⟩
  | ok u l =>
    refine (atK_c w g ao n c ts l h k).mono fun e w' ⟨h1, h2, h3⟩ => ⟨_, h1, h2, fun l' e => ?_, fun _ e => (by cases e), h3⟩
    injection e with _ e
    rw [e]
theorem rsValue_c (he : EndsT ts) (hsz : ∀ t ∈ ts, t.text.length ≤ 500000) :
    Calls Try.prog 58 #[.pointer (some ⟨g, 0, none⟩)] w fun e w' => ∃ S p', e = .returned (.string (stg S)) ∧ RS w' g ao n c ts p' ∧ Goes p valueP S p' ∧ w.grownBy w' (some g) := by
  cases p with
  | bad b =>
    refine (value_stay w g ao n c ts b h).mono fun e w' ⟨⟨S, h1⟩, h2, h3⟩ => ⟨bys S, .bad b, by rw [stg_bys]; exact h1, h2, fun β f => rfl, h3⟩
  | ok u l =>
    refine (value_c w g ao n c ts l h he hsz).mono fun e w' ⟨h1, h3⟩ => ?_
    cases hk : valueP l with
    | ok a r =>
      rw [hk] at h1
      exact ⟨a, .ok () r, h1.1, h1.2, fun β f => by rw [PR.bind_ok, hk]; rfl, h3⟩
    | bad ln =>
      rw [hk] at h1
      obtain ⟨⟨S, h1⟩, h2⟩ := h1
      exact ⟨bys S, .bad ln, by rw [stg_bys]; exact h1, h2, fun β f => by rw [PR.bind_ok, hk]; rfl, h3⟩
/-- The end: what the reader's two numbers are. -/
theorem rsEnd_c (he : EndsT ts) :
    Calls Try.prog 19 #[.pointer (some ⟨g, 0, none⟩), .int .i64 5, .string ⟨#[]⟩] w fun e w' => ∃ S i b, e = .returned (.string S) ∧ Rd w' g ao n c ts i b ∧ (match p.bind fun _ r => takeK 5 r with
      | .ok _ _ => b = 0
      | .bad ln => b = ln ∧ 1 ≤ ln) ∧ w.grownBy w' (some g) := by
  cases p with
  | bad b =>
    refine (take_stay w g ao n c ts b h 5 ⟨#[]⟩).mono fun e w' ⟨h1, ⟨i, t, h2, _, h4⟩, h3⟩ => ⟨_, i, b, h1, h2, ⟨rfl, h4⟩, h3⟩
  | ok u l =>
    obtain ⟨i, t, r, hR, ht, rfl, hr⟩ := AtS.head h
    have hl := he.line t (List.mem_of_getElem? ht)
    by_cases hk : t.kind = 5
    · refine (take_end w g ao n c ts i hR t ht hk).mono fun e w' ⟨h1, h2, h3⟩ => ⟨_, i, 0, h1, h2, ?_, h3⟩
      rw [PR.bind_ok, show takeK 5 (t :: r) = .ok t.text r from if_pos hk]
    · refine (take_kind w g ao n c ts i hR t ht 5 ⟨#[]⟩ hl hk).mono fun e w' ⟨h1, h2, h3⟩ => ⟨_, i, t.line, h1, h2, ?_, h3⟩
      rw [PR.bind_ok, show takeK 5 (t :: r) = .bad t.line from if_neg hk]
      exact ⟨rfl, hl⟩
end
/-- How many tokens a reader has left. -/
def rsN (g : Nat) (w : World) : Nat := match w.cell? ⟨g, 0, none⟩, w.cell? ⟨g, 1, none⟩, w.cell? ⟨g, 2, none⟩ with
  | some (.slice _ n _), some (.int _ i), some (.int _ b) => if b = 0 then n - i.toNat + 1 else 0
  | _, _, _ => 0
theorem AtS.rsN {w : World} {g n c : Nat} {ao : Option Addr} {ts l : List Tok} (h : AtS w g ao n c ts l) : rsN g w = l.length + 1 := by
  obtain ⟨i, a, b, d⟩ := h
  have h0 : w.cell? ⟨g, 0, none⟩ = some (.slice ao n c) := a.arr.cell 0
  have h1 : w.cell? ⟨g, 1, none⟩ = some (.int .i64 (i : Int)) := a.arr.cell 1
  have h2 : w.cell? ⟨g, 2, none⟩ = some (.int .i64 0) := a.arr.cell 2
  have hl := a.tok.len
  unfold Go.Proofs.Ytaeionfhflnbpaa.rsN
  rw [h0, h1, h2]
  show (if (0 : Int) = 0 then _ else _) = _
  rw [if_pos rfl, ← b, List.length_drop, hl]
  simp
theorem BdS.rsN {w : World} {g n c b : Nat} {ao : Option Addr} {ts : List Tok} (h : BdS w g ao n c ts b) : rsN g w = 0 := by
  obtain ⟨i, t, a, ht, hb⟩ := h
  have h0 : w.cell? ⟨g, 0, none⟩ = some (.slice ao n c) := a.arr.cell 0
  have h1 : w.cell? ⟨g, 1, none⟩ = some (.int .i64 (i : Int)) := a.arr.cell 1
  have h2 : w.cell? ⟨g, 2, none⟩ = some (.int .i64 (b : Int)) := a.arr.cell 2
  unfold Go.Proofs.Ytaeionfhflnbpaa.rsN
  rw [h0, h1, h2]
  show (if (b : Int) = 0 then _ else _) = _
  rw [if_neg (by omega)]
/-- r.i++ -/
theorem RS.step {w : World} {g n c : Nat} {ao : Option Addr} {ts l : List Tok} (h : AtS w g ao n c ts l) (he : EndsT ts) {d : UInt8} (hm : atMark d l = true) : ∃ i : Nat, w.cell? ⟨g, 1, none⟩ = some (.int .i64 (i : Int)) ∧ w.frozen? ⟨g, 1, none⟩ = false ∧ IntKind.i64.wrap ((i : Int) + 1) = (i : Int) + 1 ∧
    ∃ V, w.setCell ⟨g, 1, none⟩ (.int .i64 ((i : Int) + 1)) = V ∧ AtS V g ao n c ts (l.drop 1) ∧ w.grownBy V (some g) := by
  obtain ⟨i, t, r, hR, ht, rfl, hnx⟩ := h.next he
  have hk4 : t.kind = 4 := by
    have h1 : isMark d t = true := hm
    unfold isMark at h1
    rw [Bool.and_eq_true] at h1
    exact of_decide_eq_true h1.1
  have hin : i < n := by rw [← hR.tok.len]; exact drop_at ht
  have hmx : n ≤ 9223372036854775807 := by
    rcases hR.tok.cases with ⟨_, h0, _⟩ | ⟨_, _, _, _, h3, h4⟩
    · omega
    · unfold maxLen at h4; omega
  have ej : ((i + 1 : Nat) : Int) = (i : Int) + 1 := by omega
  have hA := hnx (by rw [hk4]; decide)
  rw [ej] at hA
  refine ⟨i, hR.arr.cell 1, hR.arr.frozen 1, by rw [IntWalk.i64_in _ (by omega)], _, rfl, hA, set_grown _ _ _ _⟩
end Go.Proofs.Ytaeionfhflnbpaa
