/-
  Tokens of a list in memory, one by one; what All hands back, case by case.
-/
import Derived.Test.YtfknckbclddnmaaLexTok
namespace Go.Proofs.Ytfknckbclddnmaa
open Go.RowKit Lx

theorem run_indexT {g n c : Nat} (i : Nat) (hi : i < n) (W : World) :
    (Instr.indexAt 43 (.slice (some ⟨g, 0, none⟩) n c) (.int .i64 (i : Int))).run Try.prog W = .ok (.pointer (some ⟨g, 3 * i, none⟩)) W := by
  obtain ⟨inf, hinf, hs⟩ := Option.map_eq_some_iff.1 sizeT
  have h1 : (0 : Int) ≤ (i : Int) ∧ (i : Int) < (n : Int) := by omega
  have e : i * 3 = 3 * i := Nat.mul_comm _ _
  simp [Instr.indexAt, run_underlying Try.underlying43, asIntOf, sizeOf, typeInfo, hinf, hs, hi, Addr.add, e]
  intro h
  omega
theorem TokOwn.cases {B : Nat} {w : World} {ao : Option Addr} {n c : Nat} {ts : List Tok} (h : TokOwn B w ao n c ts) : (ao = none ∧ n = 0 ∧ c = 0 ∧ ts = []) ∨ ∃ g, ao = some ⟨g, 0, none⟩ ∧ B ≤ g ∧ g < w.heap.size ∧ n ≤ c ∧ c ≤ maxLen := by
  have hl := h.len
  rcases h.2 with ⟨hv, hn⟩ | ⟨g, cap, cur, hv, hg, hh, hn, hc, _⟩
  · injection hv with h1 h2 h3
    exact Or.inl ⟨h1, hn, h3, List.eq_nil_of_length_eq_zero (by omega)⟩
  · injection hv with h1 h2 h3
    subst h3
    exact Or.inr ⟨g, h1, hg, (Array.getElem?_eq_some_iff.1 hh).1, hn, hc⟩
/-- Token i of a list, as the walk asks for it. -/
theorem TokOwn.at {B : Nat} {w : World} {ao : Option Addr} {n c : Nat} {ts : List Tok} (h : TokOwn B w ao n c ts) (i : Nat) (hi : i < n) (t : Tok) (ht : ts[i]? = some t) :
    ∃ g q, ao = some ⟨g, 0, none⟩ ∧ (∀ W, (Instr.indexAt 43 (.slice ao n c) (.int .i64 (i : Int))).run Try.prog W = .ok (.pointer (some ⟨g, q, none⟩)) W) ∧ w.cell? ⟨g, q, none⟩ = some (.int .i64 (t.kind : Int)) ∧ w.cell? ⟨g, q + 1, none⟩ = some (.string (stg t.text)) ∧ w.cell? ⟨g, q + 2, none⟩ = some (.int .i64 (t.line : Int)) := by
  rcases h.cases with ⟨_, h0, _⟩ | ⟨g, rfl, _⟩
  · omega
  · have hc := cellsT_at ts i t ht
    refine ⟨g, 3 * i, rfl, fun W => run_indexT i hi W, ?_, ?_, ?_⟩
    · rw [World.ownsRow.cellAt h (3 * i) (by omega)]; exact hc.1
    · rw [World.ownsRow.cellAt h (3 * i + 1) (by omega)]; exact hc.2.1
    · rw [World.ownsRow.cellAt h (3 * i + 2) (by omega)]; exact hc.2.2
/-- The same, the place as a number of cells. -/
theorem TokOwn.at3 {B : Nat} {w : World} {ao : Option Addr} {n c : Nat} {ts : List Tok} (h : TokOwn B w ao n c ts) (i : Nat) (hi : i < n) (t : Tok) (ht : ts[i]? = some t) (k0 k1 k2 : Nat) (h0 : k0 = 3 * i) (h1 : k1 = 3 * i + 1) (h2 : k2 = 3 * i + 2) :
    ∃ g, ao = some ⟨g, 0, none⟩ ∧ B ≤ g ∧ w.cell? ⟨g, k0, none⟩ = some (.int .i64 (t.kind : Int)) ∧ w.cell? ⟨g, k1, none⟩ = some (.string (stg t.text)) ∧ w.cell? ⟨g, k2, none⟩ = some (.int .i64 (t.line : Int)) := by
  subst h0 h1 h2
  rcases h.cases with ⟨_, h0, _⟩ | ⟨g, rfl, hg, _⟩
  · omega
  · have hc := cellsT_at ts i t ht
    refine ⟨g, rfl, hg, ?_, ?_, ?_⟩
    · rw [World.ownsRow.cellAt h (3 * i) (by omega)]; exact hc.1
    · rw [World.ownsRow.cellAt h (3 * i + 1) (by omega)]; exact hc.2.1
    · rw [World.ownsRow.cellAt h (3 * i + 2) (by omega)]; exact hc.2.2
theorem AllOut.ok {B : Nat} {w : World} {e : Ending} {ts : List Tok} {l : Nat} (h : AllOut B (some (.ok ts l)) w e) : ∃ ao c, e = .returned (.tuple #[.slice ao (ts.length + 1) c, .agg #[.int .i64 0, .int .i64 0]]) ∧ TokOwn B w ao (ts.length + 1) c (ts ++ [⟨5, [], l⟩]) := by
  obtain ⟨ao, n, c, er, ln, rfl, rfl, rfl, O⟩ := h
  have hl := O.len
  rw [List.length_append] at hl
  have hn : n = ts.length + 1 := hl.symm
  subst hn
  exact ⟨ao, c, rfl, O⟩
theorem AllOut.err {B : Nat} {w : World} {e : Ending} {l : Nat} (h : AllOut B (some (.err l)) w e) : e = .returned (.tuple #[.slice none 0 0, .agg #[.int .i64 1, .int .i64 (l : Int)]]) := by
  obtain ⟨ao, n, c, er, ln, rfl, rfl, rfl, rfl, rfl, rfl⟩ := h
  rfl
theorem AllOut.big {B : Nat} {w : World} {e : Ending} (h : AllOut B none w e) : e = .returned (.tuple #[.slice none 0 0, .agg #[.int .i64 7, .int .i64 0]]) := by
  obtain ⟨ao, n, c, er, ln, rfl, rfl, rfl, rfl, rfl, rfl⟩ := h
  rfl
/-- The fault's numbers and the list, by what the text reads as. -/
def outR : Option Res → Int × Int × List Tok
  | none => (7, 0, [])
  | some (.err l) => (1, l, [])
  | some (.ok ts l) => (0, 0, ts ++ [⟨5, [], l⟩])
theorem AllOut.view {B : Nat} {r : Option Res} {w : World} {e : Ending} (h : AllOut B r w e) : ∃ ao n c, e = .returned (.tuple #[.slice ao n c, .agg #[.int .i64 (outR r).1, .int .i64 (outR r).2.1]]) ∧ TokOwn B w ao n c (outR r).2.2 := by
  cases r with
  | none => exact ⟨none, 0, 0, h.big, TokOwn.nil _ _⟩
  | some r =>
    cases r with
    | err l => exact ⟨none, 0, 0, h.err, TokOwn.nil _ _⟩
    | ok ts l =>
      obtain ⟨ao, c, he, O⟩ := h.ok
      exact ⟨ao, _, c, he, O⟩
end Go.Proofs.Ytfknckbclddnmaa
