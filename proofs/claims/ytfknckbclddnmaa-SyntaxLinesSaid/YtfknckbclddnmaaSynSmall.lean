/-
  Definitions with a short text are small; lines do not matter for a definition's form.
-/
import Derived.Test.YtfknckbclddnmaaSynPrint
import Derived.Test.YtfknckbclddnmaaSynCanon
import Derived.Test.YtfknckbclddnmaaSynOut
namespace Go.Proofs.Ytfknckbclddnmaa.Lx

theorem mem_flat {α : Type} {f : α → List UInt8} {x : α} : ∀ {l : List α}, x ∈ l → (f x).length ≤ (l.flatMap f).length
  | [], h => by cases h
  | y :: l, h => by
    rw [List.flatMap_cons, List.length_append]
    rcases List.mem_cons.1 h with rfl | h
    · omega
    · have := mem_flat (f := f) h; omega
theorem esc_ge : ∀ l : List UInt8, l.length ≤ (l.flatMap fun c => if escB c then [92, c] else [c]).length
  | [] => Nat.le_refl _
  | c :: l => by
    rw [List.flatMap_cons, List.length_append, List.length_cons]
    have := esc_ge l
    split <;> simp only [List.length_cons, List.length_nil] <;> omega
theorem quoP_ge (l : List UInt8) : l.length ≤ (quoP l).length := by
  unfold quoP
  have := esc_ge l
  rw [List.length_append, List.length_cons]
  omega
theorem valP_ge (v : List UInt8) : v.length ≤ (valP v).length := by
  unfold valP
  split
  · exact Nat.le_refl _
  · exact quoP_ge v
theorem more_ge {v : List UInt8} : ∀ {r : List (List UInt8)}, v ∈ r → v.length ≤ moreLen r
  | [], h => by cases h
  | u :: r, h => by
    rw [moreLen]
    rcases List.mem_cons.1 h with rfl | h
    · have := valP_ge v; omega
    · have := more_ge h; omega
theorem vals_ge {v : List UInt8} : ∀ {r : List (List UInt8)}, v ∈ r → v.length ≤ (valsP r).length
  | [], h => by cases h
  | u :: r, h => by
    rw [valsP_len]
    rcases List.mem_cons.1 h with rfl | h
    · have := valP_ge v; omega
    · have := more_ge h; omega
theorem small_print {s : Src} (h : (srcP s).length ≤ 1000000) : smallS s := by
  unfold srcP at h
  simp only [List.length_append, List.length_cons] at h
  refine ⟨by have := quoP_ge s.title; omega, fun b hb => ?_⟩
  have h1 := mem_flat (f := blkP) hb
  obtain ⟨N, hN⟩ : ∃ N, (s.blks.flatMap blkP).length = N := ⟨_, rfl⟩
  rw [hN] at h1 h
  unfold blkP at h1
  simp only [List.length_append, List.length_cons] at h1
  refine ⟨by omega, ?_, fun f hf => ?_⟩
  · have h2 : b.name.length ≤ (nameP b.name).length := by
      unfold nameP
      split
      · next e => rw [e]; exact Nat.zero_le _
      · rw [List.length_cons]; omega
    omega
  · have h2 := mem_flat (f := fldP) hf
    obtain ⟨M, hM⟩ : ∃ M, (b.flds.flatMap fldP).length = M := ⟨_, rfl⟩
    rw [hM] at h1 h2
    unfold fldP at h2
    simp only [List.length_append, List.length_cons] at h2
    refine ⟨by omega, fun v hv => ?_⟩
    have := vals_ge hv
    omega
theorem fldsOk_L : ∀ (fs : List Fld) (ln : Nat), (fldsL fs ln).all fldOk = fs.all fldOk
  | [], _ => rfl
  | f :: r, ln => by rw [fldsL, List.all_cons, List.all_cons, fldsOk_L r (ln + 1)]; rfl
theorem blksOk_L : ∀ (bs : List Blc) (ln : Nat), (blksL bs ln).all blkOk = bs.all blkOk
  | [], _ => rfl
  | b :: r, ln => by
    rw [blksL, List.all_cons, List.all_cons, blksOk_L r _]
    congr 1
    show (wordB b.kind && (decide (b.name = []) || wordB b.name) && (fldsL b.flds (ln + 1)).all fldOk) = _
    rw [fldsOk_L]
    rfl
theorem srcOk_L (s : Src) : srcOk (srcL s) = srcOk s := by
  unfold srcOk srcL
  rw [blksOk_L]
theorem okP_L (s : Src) : okP (srcL s) = okP s := by
  unfold okP
  rw [srcOk_L, srcP_L]
/-- Nothing is wrong, or the fault has a number. -/
theorem out_cases (Z : Option Ans) : (∃ E L : Int, (E == 0) = false ∧ (outA Z).1 = E ∧ (outA Z).2.1 = L) ∨ ∃ s, Z = some (.ok s) := by
  rcases Z with _ | r
  · exact Or.inl ⟨7, 0, rfl, rfl, rfl⟩
  · cases r with
    | err l => exact Or.inl ⟨1, l, rfl, rfl, rfl⟩
    | ok s => exact Or.inr ⟨s, rfl⟩
/-- A text of up to 400 bytes that is read is printed, and read again. -/
theorem canon_facts {P : ByteArray} {s : Src} (hP : P.size ≤ 400) (h : parseS P = some (.ok s)) : okP s = true ∧ smallS s ∧ parseS (stg (srcP s)) = some (.ok (srcL s)) ∧ okP (srcL s) = true ∧ smallS (srcL s) ∧ srcP (srcL s) = srcP s ∧ (stg (srcP s)).size ≤ 20000 := by
  unfold parseS at h
  rw [if_neg (by omega)] at h
  injection h with h
  obtain ⟨h1, h2⟩ := canon_ok h (by rw [bys_len]; exact hP)
  have h3 : okP s = true := by unfold okP; rw [h1, decide_eq_true h2]; rfl
  have h4 : (stg (srcP s)).size = (srcP s).length := by rw [← bys_len, bys_stg]
  refine ⟨h3, small_print (by omega), ?_, by rw [okP_L]; exact h3, small_print (by rw [srcP_L]; omega), srcP_L s, by omega⟩
  unfold parseS
  rw [if_neg (by omega), bys_stg, parse_print h1]
end Go.Proofs.Ytfknckbclddnmaa.Lx
