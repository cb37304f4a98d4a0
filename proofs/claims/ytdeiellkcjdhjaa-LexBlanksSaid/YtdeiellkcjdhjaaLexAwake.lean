/-
  electionlaw06.Awake.
-/
import Derived.Test.YtdeiellkcjdhjaaLexEq
namespace Go.Proofs.Ytdeiellkcjdhjaa
open Go.RowKit Lx

theorem AllOut.ok {B : Nat} {w : World} {e : Ending} {ts : List Tok} {l : Nat} (h : AllOut B (some (.ok ts l)) w e) : ∃ ao c, e = .returned (.tuple #[.slice ao (ts.length + 1) c, .agg #[.int .i64 0, .int .i64 0]]) ∧ TokOwn B w ao (ts.length + 1) c (ts ++ [⟨5, [], l⟩]) := by
  obtain ⟨ao, n, c, er, ln, rfl, rfl, rfl, O⟩ := h
  have hl := O.len
  rw [List.length_append] at hl
  have hn : n = ts.length + 1 := hl.symm
  subst hn
  exact ⟨ao, c, rfl, O⟩
theorem AllOut.err {B : Nat} {w : World} {e : Ending} {l : Nat} (h : AllOut B (some (.err l)) w e) : e = .returned (.tuple #[.slice none 0 0, .agg #[.int .i64 1, .int .i64 (l : Int)]]) := by
  obtain ⟨ao, n, c, er, ln, rfl, rfl, rfl, rfl, rfl, rfl⟩ := h
  rfl
theorem AllOut.big {B : Nat} {w : World} {e : Ending} (h : AllOut B none w e) : e = .returned (.tuple #[.slice none 0 0, .agg #[.int .i64 7, .int .i64 0]]) := by
  obtain ⟨ao, n, c, er, ln, rfl, rfl, rfl, rfl, rfl, rfl⟩ := h
  rfl
theorem lex_dots : lexS [100, 111, 116, 115, 32, 50, 59] 1 = .ok [⟨1, [100, 111, 116, 115], 1⟩, ⟨2, [50], 1⟩, ⟨4, [59], 1⟩] 1 := by
  rw [lexS_cons, if_neg (by decide), if_neg (by decide), show oneS [100, 111, 116, 115, 32, 50, 59] = some (1, [100, 111, 116, 115], 4) by decide +kernel]
  show (lexS [32, 50, 59] 1).cons ⟨1, [100, 111, 116, 115], 1⟩ = _
  rw [lexS_cons, if_neg (by decide), if_pos (by decide), show lineOf 32 1 = 1 by decide]
  rw [lexS_cons, if_neg (by decide), if_neg (by decide), show oneS [50, 59] = some (2, [50], 1) by decide +kernel]
  show ((lexS [59] 1).cons ⟨2, [50], 1⟩).cons ⟨1, [100, 111, 116, 115], 1⟩ = _
  rw [lexS_cons, if_neg (by decide), if_neg (by decide), show oneS [59] = some (4, [59], 1) by decide +kernel]
  show (((lexS [] 1).cons ⟨4, [59], 1⟩).cons ⟨2, [50], 1⟩).cons ⟨1, [100, 111, 116, 115], 1⟩ = _
  rw [lexS_nil]
  rfl
theorem all_dots : allS ⟨#[100, 111, 116, 115, 32, 50, 59]⟩ = some (.ok [⟨1, [100, 111, 116, 115], 1⟩, ⟨2, [50], 1⟩, ⟨4, [59], 1⟩] 1) := by
  show (if _ then _ else _) = _
  rw [if_neg (by decide), ← lex_dots]
  rfl

set_option maxHeartbeats 3200000 in
set_option maxRecDepth 100000 in
theorem awake_c (w : World) :
    Calls Try.prog 12 #[] w fun e w' => e = .returned (.bool true) ∧ Below w.heap.size w w' := by
  have HA := Lib.hid (all_c ⟨#[100, 111, 116, 115, 32, 50, 59]⟩ w (by decide))
  have HB : Hid (∀ W, Calls Try.prog 16 #[.string ⟨#[49, 47, 50, 48]⟩] W fun e w' => e = .returned (.bool true) ∧ ∃ q, W.drewN q = w') := fun W => by
    have := bare_c ⟨#[49, 47, 50, 48]⟩ W (by decide)
    rwa [show bareB (bys ⟨#[49, 47, 50, 48]⟩) = true by decide +kernel] at this
  go_enter Try.func12, Try.ntmps12
  go_wp2_with fail
  refine HA.out.mono ?_
  rintro e w1 ⟨hO, B1⟩
  rw [all_dots] at hO
  obtain ⟨ao, c, rfl, O⟩ := hO.ok
  have O := Lib.hid O
  have HW := Lib.hid B1
  have b2 : Below w1.heap.size w1 (w1.alloc (.cells #[.int .i64 0, .int .i64 0] 26)) := (Below.refl _ _).alloc (Nat.le_refl _) _
  obtain ⟨g, hg, _, y1, _, _⟩ := (O.out.keep b2).at3 1 (by simp) ⟨2, [50], 1⟩ rfl 3 4 5 rfl rfl rfl
  have B2 := Lib.hid (B1.trans (b2.mono B1.size))
  have y1' : (w1.alloc (.cells #[.int .i64 0, .int .i64 0] 26)).cell? ⟨g, 3, none⟩ = some (.int .i64 2) := y1
  have hlen : (([⟨1, [100, 111, 116, 115], 1⟩, ⟨2, [50], 1⟩, ⟨4, [59], 1⟩] : List Tok).length + 1 : Nat) = 4 := rfl
  rw [hlen]
  subst hg
  clear HA hO b2 B1 hlen O y1
  go_wp2_with fail
  refine (HB.out _).mono ?_
  rintro e w' ⟨rfl, q, rfl⟩
  go_wp2_with fail
  go_ret
  exact ⟨rfl, below_drewN B2.out q⟩
end Go.Proofs.Ytdeiellkcjdhjaa
