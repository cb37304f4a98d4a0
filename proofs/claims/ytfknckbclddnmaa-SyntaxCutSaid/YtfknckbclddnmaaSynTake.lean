/-
  take, in the words of readings: takeK, takeM, takeE; a reader that has failed stays so.
-/
import Derived.Test.YtfknckbclddnmaaSynAt
namespace Go.Proofs.Ytfknckbclddnmaa
open Go.RowKit Lx

/-- The reader stands before the tokens l; it has failed in line b. -/
def AtS (w : World) (g : Nat) (ao : Option Addr) (n c : Nat) (ts l : List Tok) : Prop := ∃ i, Rd w g ao n c ts i 0 ∧ ts.drop i = l ∧ i < ts.length
def BdS (w : World) (g : Nat) (ao : Option Addr) (n c : Nat) (ts : List Tok) (b : Nat) : Prop := ∃ i t, Rd w g ao n c ts i b ∧ ts[i]? = some t ∧ 1 ≤ b
section
variable {w w' : World} {g n c b : Nat} {ao : Option Addr} {ts l r : List Tok} {t : Tok}
theorem AtS.keep (h : AtS w g ao n c ts l) (hb : Below w.heap.size w w') : AtS w' g ao n c ts l := by
  obtain ⟨i, h1, h2, h3⟩ := h
  exact ⟨i, h1.keep hb, h2, h3⟩
theorem BdS.keep (h : BdS w g ao n c ts b) (hb : Below w.heap.size w w') : BdS w' g ao n c ts b := by
  obtain ⟨i, t, h1, h2, h3⟩ := h
  exact ⟨i, t, h1.keep hb, h2, h3⟩
theorem AtS.draw (h : AtS w g ao n c ts l) (q : Nat) : AtS (w.drewN q) g ao n c ts l := h.keep (below_drewN (Below.refl _ _) q)
theorem BdS.draw (h : BdS w g ao n c ts b) (q : Nat) : BdS (w.drewN q) g ao n c ts b := h.keep (below_drewN (Below.refl _ _) q)
/-- There is a token to look at. -/
theorem AtS.head (h : AtS w g ao n c ts l) : ∃ i t r, Rd w g ao n c ts i 0 ∧ ts[i]? = some t ∧ l = t :: r ∧ ts.drop (i + 1) = r := by
  obtain ⟨i, h1, h2, h3⟩ := h
  refine ⟨i, ts[i], ts.drop (i + 1), h1, List.getElem?_eq_getElem h3, ?_, rfl⟩
  rw [← h2, List.drop_eq_getElem_cons h3]
theorem drop_at {ts : List Tok} {i : Nat} {t : Tok} (h : ts[i]? = some t) : i < ts.length := (List.getElem?_eq_some_iff.1 h).1
end
/-- What take hands back, by its reading. -/
def TakeOut (w' : World) (g : Nat) (ao : Option Addr) (n c : Nat) (ts : List Tok) (p : PR (List UInt8)) (e : Ending) : Prop := match p with
  | .ok a r => e = .returned (.string (stg a)) ∧ AtS w' g ao n c ts r
  | .bad ln => e = .returned (.string ⟨#[]⟩) ∧ BdS w' g ao n c ts ln
/-- The same, whatever text comes. -/
def StepOut {α : Type} (w' : World) (g : Nat) (ao : Option Addr) (n c : Nat) (ts : List Tok) (p : PR α) (e : Ending) : Prop := (∃ S, e = .returned (.string S)) ∧ match p with
  | .ok _ r => AtS w' g ao n c ts r
  | .bad ln => BdS w' g ao n c ts ln

theorem takeK_c (w : World) (g : Nat) (ao : Option Addr) (n c : Nat) (ts l : List Tok) (h : AtS w g ao n c ts l) (he : EndsT ts) (k : Nat) (hk5 : k ≠ 5) :
    Calls Try.prog 19 #[.pointer (some ⟨g, 0, none⟩), .int .i64 (k : Int), .string ⟨#[]⟩] w fun e w' => TakeOut w' g ao n c ts (takeK k l) e ∧ w.grownBy w' (some g) := by
  obtain ⟨i, t, r, hR, ht, rfl, hr⟩ := h.head
  by_cases hk : t.kind = k
  · refine (take_any w g ao n c ts i hR t ht k hk hk5).mono fun e w' ⟨e1, e2, e3⟩ => ⟨?_, e3⟩
    have : takeK k (t :: r) = .ok t.text r := if_pos hk
    rw [this]
    exact ⟨e1, i + 1, e2, hr, he.next ht (by rw [hk]; exact hk5)⟩
  · refine (take_kind w g ao n c ts i hR t ht k ⟨#[]⟩ (he.line t (List.mem_of_getElem? ht)) hk).mono fun e w' ⟨e1, e2, e3⟩ => ⟨?_, e3⟩
    have : takeK k (t :: r) = .bad t.line := if_neg hk
    rw [this]
    exact ⟨e1, i, t, e2, ht, he.line t (List.mem_of_getElem? ht)⟩
theorem stg_ne {l : List UInt8} (h : l ≠ []) : stg l ≠ ⟨#[]⟩ := fun e => h (by have := congrArg bys e; rwa [bys_stg] at this)
theorem stg_eq {a b : List UInt8} (h : stg a = stg b) : a = b := by have := congrArg bys h; rwa [bys_stg, bys_stg] at this
theorem takeM_c (w : World) (g : Nat) (ao : Option Addr) (n c : Nat) (ts l : List Tok) (h : AtS w g ao n c ts l) (he : EndsT ts) (d : UInt8) :
    Calls Try.prog 19 #[.pointer (some ⟨g, 0, none⟩), .int .i64 4, .string (stg [d])] w fun e w' => StepOut w' g ao n c ts (takeM d l) e ∧ w.grownBy w' (some g) := by
  obtain ⟨i, t, r, hR, ht, rfl, hr⟩ := h.head
  have hl := he.line t (List.mem_of_getElem? ht)
  have hx0 : stg [d] ≠ ⟨#[]⟩ := stg_ne (by simp)
  by_cases hk : t.kind = 4
  · by_cases hT : t.text = [d]
    · refine (take_text w g ao n c ts i hR t ht 4 hk (by decide) (stg [d]) hx0 (by rw [hT])).mono fun e w' ⟨e1, e2, e3⟩ => ⟨?_, e3⟩
      have : takeM d (t :: r) = .ok () r := if_pos (by unfold isMark; rw [decide_eq_true hk, decide_eq_true hT]; rfl)
      rw [this]
      exact ⟨⟨_, e1⟩, i + 1, e2, hr, he.next ht (by rw [hk]; decide)⟩
    · refine (take_other w g ao n c ts i hR t ht 4 (stg [d]) hl hk hx0 (fun e => hT (stg_eq e))).mono fun e w' ⟨e1, e2, e3⟩ => ⟨?_, e3⟩
      have : takeM d (t :: r) = .bad t.line := if_neg (by unfold isMark; rw [decide_eq_false hT]; simp)
      rw [this]
      exact ⟨⟨_, e1⟩, i, t, e2, ht, hl⟩
  · refine (take_kind w g ao n c ts i hR t ht 4 (stg [d]) hl hk).mono fun e w' ⟨e1, e2, e3⟩ => ⟨?_, e3⟩
    have : takeM d (t :: r) = .bad t.line := if_neg (by unfold isMark; rw [decide_eq_false hk]; simp)
    rw [this]
    exact ⟨⟨_, e1⟩, i, t, e2, ht, hl⟩
theorem takeE_c (w : World) (g : Nat) (ao : Option Addr) (n c : Nat) (ts l : List Tok) (h : AtS w g ao n c ts l) (he : EndsT ts) :
    Calls Try.prog 19 #[.pointer (some ⟨g, 0, none⟩), .int .i64 1, .string (stg elec)] w fun e w' => StepOut w' g ao n c ts (takeE l) e ∧ w.grownBy w' (some g) := by
  obtain ⟨i, t, r, hR, ht, rfl, hr⟩ := h.head
  have hl := he.line t (List.mem_of_getElem? ht)
  have hx0 : stg elec ≠ ⟨#[]⟩ := stg_ne (by decide)
  by_cases hk : t.kind = 1
  · by_cases hT : t.text = elec
    · refine (take_text w g ao n c ts i hR t ht 1 hk (by decide) (stg elec) hx0 (by rw [hT])).mono fun e w' ⟨e1, e2, e3⟩ => ⟨?_, e3⟩
      have : takeE (t :: r) = .ok () r := if_pos ⟨hk, hT⟩
      rw [this]
      exact ⟨⟨_, e1⟩, i + 1, e2, hr, he.next ht (by rw [hk]; decide)⟩
    · refine (take_other w g ao n c ts i hR t ht 1 (stg elec) hl hk hx0 (fun e => hT (stg_eq e))).mono fun e w' ⟨e1, e2, e3⟩ => ⟨?_, e3⟩
      have : takeE (t :: r) = .bad t.line := if_neg (fun e => hT e.2)
      rw [this]
      exact ⟨⟨_, e1⟩, i, t, e2, ht, hl⟩
  · refine (take_kind w g ao n c ts i hR t ht 1 (stg elec) hl hk).mono fun e w' ⟨e1, e2, e3⟩ => ⟨?_, e3⟩
    have : takeE (t :: r) = .bad t.line := if_neg (fun e => hk e.1)
    rw [this]
    exact ⟨⟨_, e1⟩, i, t, e2, ht, hl⟩
theorem take_stay (w : World) (g : Nat) (ao : Option Addr) (n c : Nat) (ts : List Tok) (b : Nat) (h : BdS w g ao n c ts b) (k : Int) (x : ByteArray) :
    Calls Try.prog 19 #[.pointer (some ⟨g, 0, none⟩), .int .i64 k, .string x] w fun e w' => e = .returned (.string ⟨#[]⟩) ∧ BdS w' g ao n c ts b ∧ w.grownBy w' (some g) := by
  obtain ⟨i, t, hR, ht, hb⟩ := h
  exact (take_bad w g ao n c ts i b hR t ht hb k x).mono fun e w' ⟨e1, e2, e3⟩ => ⟨e1, ⟨i, t, e2, ht, hb⟩, e3⟩
theorem grown_draw {a w : World} {row : Option Nat} (h : a.grownBy w row) (q : Nat) : a.grownBy (w.drewN q) row := ⟨h.os, h.tape, h.output, h.size, h.block⟩
theorem grown_self (w : World) (row : Option Nat) : w.grownBy w row := ⟨rfl, rfl, rfl, Nat.le_refl _, fun _ _ _ => rfl⟩
theorem atK_c (w : World) (g : Nat) (ao : Option Addr) (n c : Nat) (ts l : List Tok) (h : AtS w g ao n c ts l) (k : Nat) :
    Calls Try.prog 20 #[.pointer (some ⟨g, 0, none⟩), .int .i64 (k : Int), .string ⟨#[]⟩] w fun e w' => e = .returned (.bool (atKind k l)) ∧ AtS w' g ao n c ts l ∧ w.grownBy w' (some g) := by
  obtain ⟨i, t, r, hR, ht, rfl, _⟩ := h.head
  refine (at_any w g ao n c ts i hR t ht k).mono fun e w' ⟨h1, q, h2⟩ => ?_
  subst h2
  exact ⟨h1, h.draw q, grown_draw (grown_self w _) q⟩
theorem atM_c (w : World) (g : Nat) (ao : Option Addr) (n c : Nat) (ts l : List Tok) (h : AtS w g ao n c ts l) (d : UInt8) :
    Calls Try.prog 20 #[.pointer (some ⟨g, 0, none⟩), .int .i64 4, .string (stg [d])] w fun e w' => e = .returned (.bool (atMark d l)) ∧ AtS w' g ao n c ts l ∧ w.grownBy w' (some g) := by
  obtain ⟨i, t, r, hR, ht, rfl, _⟩ := h.head
  refine (at_mark w g ao n c ts i hR t ht d _ rfl).mono fun e w' ⟨h1, q, h2⟩ => ?_
  subst h2
  exact ⟨h1, h.draw q, grown_draw (grown_self w _) q⟩
theorem at_stay (w : World) (g : Nat) (ao : Option Addr) (n c : Nat) (ts : List Tok) (b : Nat) (h : BdS w g ao n c ts b) (k : Int) (x : ByteArray) :
    Calls Try.prog 20 #[.pointer (some ⟨g, 0, none⟩), .int .i64 k, .string x] w fun e w' => e = .returned (.bool false) ∧ BdS w' g ao n c ts b ∧ w.grownBy w' (some g) := by
  have h' := h
  obtain ⟨i, t, hR, _, hb⟩ := h
  refine (at_bad w g ao n c ts i b hR hb k x).mono fun e w' ⟨h1, q, h2⟩ => ?_
  subst h2
  exact ⟨h1, h'.draw q, grown_draw (grown_self w _) q⟩
end Go.Proofs.Ytfknckbclddnmaa
