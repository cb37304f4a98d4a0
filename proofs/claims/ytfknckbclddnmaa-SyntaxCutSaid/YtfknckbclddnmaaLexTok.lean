/-
  Lists of tokens in memory.
-/
import Derived.Test.YtfknckbclddnmaaLexBlank
namespace Go.Proofs.Ytfknckbclddnmaa
open Go.RowKit Lx

/-- The cells of tokens. -/
def cellsT : List Tok → List Value
  | [] => []
  | t :: r => .int .i64 (t.kind : Int) :: .string (stg t.text) :: .int .i64 (t.line : Int) :: cellsT r
theorem cellsT_len (ts : List Tok) : (cellsT ts).length = ts.length * 3 := by
  induction ts with
  | nil => rfl
  | cons t ts ih => simp [cellsT, ih]; omega
theorem cellsT_append (ts us : List Tok) : cellsT (ts ++ us) = cellsT ts ++ cellsT us := by
  induction ts with
  | nil => rfl
  | cons t ts ih => simp [cellsT, ih]
theorem cellsT_one (ts : List Tok) : ∀ u ∈ cellsT ts, u.oneCell' = true := by
  induction ts with
  | nil => intro u h; cases h
  | cons t ts ih =>
    intro u h
    simp only [cellsT, List.mem_cons] at h
    rcases h with rfl | rfl | rfl | h
    · rfl
    · rfl
    · rfl
    · exact ih u h
theorem cellsT_at : ∀ (ts : List Tok) (i : Nat) (t : Tok), ts[i]? = some t → (cellsT ts)[3 * i]? = some (.int .i64 (t.kind : Int)) ∧ (cellsT ts)[3 * i + 1]? = some (.string (stg t.text)) ∧ (cellsT ts)[3 * i + 2]? = some (.int .i64 (t.line : Int))
  | [], i, t, h => by simp at h
  | u :: ts, 0, t, h => by simp at h; subst h; exact ⟨rfl, rfl, rfl⟩
  | u :: ts, i + 1, t, h => by
    have := cellsT_at ts i t (by simpa using h)
    rw [show 3 * (i + 1) = 3 * i + 3 by omega]
    exact this
/-- A list of tokens that the call itself made, from block B on. -/
def TokOwn (B : Nat) (w : World) (ao : Option Addr) (n c : Nat) (ts : List Tok) : Prop := w.ownsRow B 47 3 (.slice ao n c) n (cellsT ts)
theorem TokOwn.len {B : Nat} {w : World} {ao : Option Addr} {n c : Nat} {ts : List Tok} (h : TokOwn B w ao n c ts) : ts.length = n := by
  have := h.1
  rw [cellsT_len] at this
  omega
theorem TokOwn.keep {B : Nat} {w w' : World} {ao : Option Addr} {n c : Nat} {ts : List Tok} (h : TokOwn B w ao n c ts) (hb : Below w.heap.size w w') : TokOwn B w' ao n c ts :=
  World.ownsRow.kept (row := none) h ⟨hb.os, hb.tape, hb.output, hb.size, fun j hj _ => hb.block j hj⟩ (by cases (Value.slice ao n c).ownBlock <;> simp)
theorem TokOwn.nil (B : Nat) (w : World) : TokOwn B w none 0 0 [] := World.ownsRow_nil _ _ _ _
theorem TokOwn.lower {B B' : Nat} {w : World} {ao : Option Addr} {n c : Nat} {ts : List Tok} (h : TokOwn B w ao n c ts) (hB : B' ≤ B) : TokOwn B' w ao n c ts := by
  refine ⟨h.1, ?_⟩
  rcases h.2 with h | ⟨g, cap, cur, hv, hg, r⟩
  · exact Or.inl h
  · exact Or.inr ⟨g, cap, cur, hv, Nat.le_trans hB hg, r⟩
/-- What lies in another block stays. -/
theorem TokOwn.far {B : Nat} {w : World} {ao : Option Addr} {n c : Nat} {ts : List Tok} (h : TokOwn B w ao n c ts) {g : Nat} (hg : g < B) (i : Nat) (u : Value) : TokOwn B (w.setCell ⟨g, i, none⟩ u) ao n c ts := by
  refine World.ownsRow.kept (row := some g) h ⟨rfl, rfl, rfl, by simp [World.setCell], fun k _ hk => Below.heap_setCell w _ u k (fun e => hk (by rw [e]))⟩ ?_
  cases ao with
  | none => exact Or.inl rfl
  | some a =>
    refine Or.inr fun e => ?_
    have h2 := (World.ownsRow.lt h a.block rfl).1
    injection e with e
    omega
theorem infoT : (Try.prog.info? 47).map (fun i => (i.zero, i.size, i.bytes)) = some (some (.agg #[.int .i64 0, .string ⟨#[]⟩, .int .i64 0]), 3, 32) := by kernel_rfl
theorem sizeT : (Try.prog.info? 47).map (·.size) = some 3 := by kernel_rfl
section
variable {w : World} {ops : Array Oper} {rest : List Oper} {a : Act} {Q : Exit → Act → World → Prop} {d : Option Tmp} {p q : Operand} {ty : TypeId} {pos : String} {after : Array Edge}
/-- One token, in a slice that has just been made, is appended. -/
theorem wpList_appT {B : Nat} {ao : Option Addr} {n c : Nat} {ts : List Tok} {t : Tok} {S : ByteArray} {k l : Int} (hO : TokOwn B w ao n c ts) (hB : B ≤ w.heap.size) (hn : n ≤ 1048576) (hk : k = (t.kind : Int)) (hS : S = stg t.text) (hl : l = (t.line : Int))
    (hp : a.eval p = .slice ao n c) (hq : a.eval q = .slice (some ⟨w.heap.size, 0, none⟩) 1 1)
    (h : ∀ ao' c' w', TokOwn B w' ao' (n + 1) c' (ts ++ [t]) → Below B w w' → wpList Try.prog ops Q rest (a.put d (.slice ao' (n + 1) c')) w') :
    wpList Try.prog ops Q (⟨d, .call { callee := .builtin .append, args := #[p, q], argTypes := #[43, 43] }, ty, pos, after, none⟩ :: rest) a (w.alloc (.cells #[.int .i64 k, .string S, .int .i64 l] 47)) := by
  subst hk hS hl
  obtain ⟨i0, hi, hz0, hz1, hz2⟩ := info_parts infoT
  have b1 : Below w.heap.size w (w.alloc (.cells #[.int .i64 (t.kind : Int), .string (stg t.text), .int .i64 (t.line : Int)] 47)) := (Below.refl _ _).alloc (Nat.le_refl _) _
  have hnew : Arr (w.alloc (.cells #[.int .i64 (t.kind : Int), .string (stg t.text), .int .i64 (t.line : Int)] 47)) w.heap.size 47 (cellsT [t]) := Arr.new w _ (cellsT [t])
  refine wpList_append_own _ rfl p q 43 rfl B 47 i0 _ 3 32 Try.underlying43 hi hz0 hz1 hz2 rfl (by decide) _ n _ hp (hO.keep b1) ⟨w.heap.size, 0, none⟩ 1 1 (cellsT [t]) hq rfl ?_ (cellsT_one [t]) (by unfold maxLen; omega) (by omega) (by simp; omega) ?_
  · intro j u hj
    have e := pt_own w.heap.size j
    simp only [pt, Option.getD_some] at e
    rw [e, hnew.cell]
    exact hj
  · intro v' w' ho' hg _
    obtain ⟨av, cv, hv⟩ : ∃ ao c, v' = .slice ao (n + 1) c := by
      rcases ho'.2 with ⟨hv, h0⟩ | ⟨g, cap, _, hv, _⟩
      · omega
      · exact ⟨_, cap, hv⟩
    subst hv
    refine h av cv w' (by unfold TokOwn; rw [cellsT_append]; exact ho') ((b1.mono hB).trans ((Below.refl _ _).grown hg (by simp; omega) (fun k hk => (World.ownsRow.lt hO k hk).1)))
end
/-- The two cells of a fault are stored. -/
def put2 (w : World) (g : Nat) (u0 u1 : Value) : World := (w.setCell ⟨g, 0, none⟩ u0).setCell ⟨g, 1, none⟩ u1
section
variable {w : World} {g : Nat} {t : TypeId} {v0 v1 : Value}
theorem Arr.store2 (h : Arr w g t [v0, v1]) (u0 : Value) :
    w.cell? ⟨g, 0, none⟩ = some v0 ∧ w.frozen? ⟨g, 0, none⟩ = false ∧ (w.setCell ⟨g, 0, none⟩ u0).cell? ⟨g, 1, none⟩ = some v1 ∧ (w.setCell ⟨g, 0, none⟩ u0).frozen? ⟨g, 1, none⟩ = false :=
  ⟨h.cell 0, h.frozen 0, (h.set 0 u0).cell 1, (h.set 0 u0).frozen 1⟩
theorem Arr.put2 (h : Arr w g t [v0, v1]) (u0 u1 : Value) : Arr (put2 w g u0 u1) g t [u0, u1] := (h.set 0 u0).set 1 u1
theorem below_put2 {B : Nat} {a : World} (h : Below B a w) (hg : B ≤ g) (u0 u1 : Value) : Below B a (Go.Proofs.Ytfknckbclddnmaa.put2 w g u0 u1) := (h.setCell hg u0).setCell hg u1
end
theorem TokOwn.put2 {B : Nat} {w : World} {ao : Option Addr} {n c : Nat} {ts : List Tok} (h : TokOwn B w ao n c ts) {g : Nat} (hg : g < B) (u0 u1 : Value) : TokOwn B (put2 w g u0 u1) ao n c ts := (h.far hg 0 u0).far hg 1 u1
/-- What All hands back, by what the text reads as: the list, the fault's two numbers. -/
def AllOut (B : Nat) (r : Option Res) (w' : World) (e : Ending) : Prop := ∃ (ao : Option Addr) (n c : Nat) (er ln : Nat), e = .returned (.tuple #[.slice ao n c, .agg #[.int .i64 (er : Int), .int .i64 (ln : Int)]]) ∧
  match r with
  | none => er = 7 ∧ ln = 0 ∧ n = 0 ∧ c = 0 ∧ ao = none
  | some (.err l) => er = 1 ∧ ln = l ∧ n = 0 ∧ c = 0 ∧ ao = none
  | some (.ok ts l) => er = 0 ∧ ln = 0 ∧ TokOwn B w' ao n c (ts ++ [⟨5, [], l⟩])
end Go.Proofs.Ytfknckbclddnmaa
