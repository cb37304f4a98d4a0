/-
  What Parse hands back, by what the text reads as.
-/
import Derived.Test.YtfknckbclddnmaaLexAllP
import Derived.Test.YtfknckbclddnmaaSynFs
import Derived.Test.YtfknckbclddnmaaSynRdMath
namespace Go.Proofs.Ytfknckbclddnmaa
open Go.RowKit Lx

namespace Lx
/-- What Parse reads: nothing where the text is too long. -/
def parseS (s : ByteArray) : Option Ans := if s.size > 20000 then none else some (parseL (bys s))
/-- The fault's two numbers and the definition. -/
def outA : Option Ans → Int × Int × Src
  | none => (7, 0, ⟨[], []⟩)
  | some (.err l) => (1, l, ⟨[], []⟩)
  | some (.ok s) => (0, 0, s)
/-- A reading's answer. -/
def ansR : PR Src → Ans
  | .ok x _ => .ok x
  | .bad e => .err e
/-- The text is divided into tokens, or there is a fault before. -/
theorem parseS_cases (s : ByteArray) : (∃ (ts : List Tok) (m : Nat), allS s = some (.ok ts m) ∧ parseS s = some (ansR (sourceP (ts ++ [⟨5, [], m⟩]))) ∧ EndsT (ts ++ [⟨5, [], m⟩]) ∧ (∀ t ∈ ts ++ [(⟨5, [], m⟩ : Tok)], t.text.length ≤ 500000) ∧ (ts ++ [(⟨5, [], m⟩ : Tok)]).length ≤ 1000000) ∨
    (∃ E L : Int, (E == 0) = false ∧ outA (parseS s) = (E, L, ⟨[], []⟩) ∧ outR (allS s) = (E, L, [])) := by
  unfold parseS allS
  by_cases hb : s.size > 20000
  · rw [if_pos hb, if_pos hb]
    exact Or.inr ⟨7, 0, rfl, rfl, rfl⟩
  · rw [if_neg hb, if_neg hb]
    unfold parseL
    cases hx : lexS (bys s) 1 with
    | err l => exact Or.inr ⟨1, l, rfl, rfl, rfl⟩
    | ok ts m =>
      refine Or.inl ⟨ts, m, rfl, ?_, ends_lex hx, ?_⟩
      · simp only
        cases sourceP (ts ++ [⟨5, [], m⟩]) <;> rfl
      obtain ⟨_, hw⟩ := lexS_good (bys s).length (bys s) 1 ts m (Nat.le_refl _) hx
      rw [bys_len] at hw
      have h1 : ∀ us : List Tok, us.length * 20 ≤ wgt us ∧ ∀ t ∈ us, 2 * t.text.length ≤ wgt us := by
        intro us
        induction us with
        | nil => exact ⟨Nat.le_refl _, fun t ht => by cases ht⟩
        | cons t us ih =>
          refine ⟨by rw [wgt, List.length_cons]; have := ih.1; omega, fun u hu => ?_⟩
          rw [wgt]
          rcases List.mem_cons.1 hu with rfl | hu
          · omega
          · have := ih.2 u hu; omega
      obtain ⟨a, b⟩ := h1 ts
      refine ⟨fun t ht => ?_, by rw [List.length_append]; simp only [List.length_cons, List.length_nil]; omega⟩
      rcases List.mem_append.1 ht with ht | ht
      · have := b t ht; omega
      · have : t = ⟨5, [], m⟩ := by simpa using ht
        subst this
        exact Nat.zero_le _
end Lx
/-- What Parse hands back. -/
def ParseOut (r : Option Ans) (w' : World) (e : Ending) : Prop := ∃ (ao : Option Addr) (m d : Nat), e = .returned (.tuple #[.agg #[.string (stg (outA r).2.2.title), .slice ao m d], .agg #[.int .i64 (outA r).1, .int .i64 (outA r).2.1]]) ∧ BlkL true anyF w' ao m d (outA r).2.2.blks
theorem blkl_nil (q : Bool) (S : World → Nat → Prop) (w : World) : BlkL q S w none 0 0 [] := ⟨[], Row.nil _ _ _, rfl⟩
/-- The end of a run that found a fault. -/
theorem parse_end {W w : World} {b : Nat} {E L : Int} {r : Option Ans} (AV : Arr W b 24 [.string ⟨#[]⟩, .slice none 0 0]) (AU : Arr W (b + 1) 27 [.int .i64 0, .int .i64 0]) (HB : Below b w W) (hr : outA r = (E, L, ⟨[], []⟩)) :
    (put2 (put2 W b (.string ⟨#[]⟩) (.slice none 0 0)) (b + 1) (.int .i64 E) (.int .i64 L)).cell? ⟨b, 0, none⟩ = some (.string ⟨#[]⟩) ∧ (put2 (put2 W b (.string ⟨#[]⟩) (.slice none 0 0)) (b + 1) (.int .i64 E) (.int .i64 L)).cell? ⟨b, 1, none⟩ = some (.slice none 0 0) ∧
    (put2 (put2 W b (.string ⟨#[]⟩) (.slice none 0 0)) (b + 1) (.int .i64 E) (.int .i64 L)).cell? ⟨b + 1, 0, none⟩ = some (.int .i64 E) ∧ (put2 (put2 W b (.string ⟨#[]⟩) (.slice none 0 0)) (b + 1) (.int .i64 E) (.int .i64 L)).cell? ⟨b + 1, 1, none⟩ = some (.int .i64 L) ∧
    ParseOut r (put2 (put2 W b (.string ⟨#[]⟩) (.slice none 0 0)) (b + 1) (.int .i64 E) (.int .i64 L)) (.returned (.tuple #[.agg #[.string ⟨#[]⟩, .slice none 0 0], .agg #[.int .i64 E, .int .i64 L]])) ∧
    Below b w (put2 (put2 W b (.string ⟨#[]⟩) (.slice none 0 0)) (b + 1) (.int .i64 E) (.int .i64 L)) := by
  have A1 := AV.put2 (.string ⟨#[]⟩) (.slice none 0 0)
  have A2 := A1.off2 (b := b + 1) (by omega) (.int .i64 E) (.int .i64 L)
  have A3 := (AU.off2 (b := b) (by omega) (.string ⟨#[]⟩) (.slice none 0 0)).put2 (.int .i64 E) (.int .i64 L)
  refine ⟨A2.cell 0, A2.cell 1, A3.cell 0, A3.cell 1, ⟨none, 0, 0, ?_, ?_⟩, below_put2 (below_put2 HB (Nat.le_refl _) _ _) (Nat.le_succ _) _ _⟩
  · rw [hr]; rfl
  · rw [hr]; exact blkl_nil _ _ _

end Go.Proofs.Ytfknckbclddnmaa
