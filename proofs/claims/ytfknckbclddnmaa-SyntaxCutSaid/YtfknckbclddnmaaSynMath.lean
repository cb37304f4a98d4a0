/-
  The grammar of definitions in plain words: what Print writes, how it is divided into tokens, how tokens are read. No program, no world.
-/
import Derived.Test.YtfknckbclddnmaaLexMath
namespace Go.Proofs.Ytfknckbclddnmaa.Lx

structure Fld where
  key : List UInt8
  vals : List (List UInt8)
  line : Nat
structure Blc where
  kind : List UInt8
  name : List UInt8
  flds : List Fld
  line : Nat
structure Src where
  title : List UInt8
  blks : List Blc

/-! What Print writes. -/
def quoP (l : List UInt8) : List UInt8 := 34 :: (l.flatMap fun c => if escB c then [92, c] else [c]) ++ [34]
def valP (v : List UInt8) : List UInt8 := if bareB v then v else quoP v
def valOk (v : List UInt8) : Bool := bareB v || v.all plainB
def valsP : List (List UInt8) → List UInt8
  | [] => []
  | [v] => 32 :: valP v
  | v :: w :: r => 32 :: valP v ++ 44 :: valsP (w :: r)
def fldP (f : Fld) : List UInt8 := [32, 32, 32, 32] ++ f.key ++ valsP f.vals ++ [59, 10]
def fldOk (f : Fld) : Bool := wordB f.key && !f.vals.isEmpty && f.vals.all valOk
def nameP (n : List UInt8) : List UInt8 := if n = [] then [] else 32 :: n
def blkP (b : Blc) : List UInt8 := [32, 32] ++ b.kind ++ nameP b.name ++ [32, 123, 10] ++ b.flds.flatMap fldP ++ [32, 32, 125, 10]
def blkOk (b : Blc) : Bool := wordB b.kind && (decide (b.name = []) || wordB b.name) && b.flds.all fldOk
def elec : List UInt8 := [101, 108, 101, 99, 116, 105, 111, 110]
def srcP (s : Src) : List UInt8 := elec ++ 32 :: quoP s.title ++ [32, 123, 10] ++ s.blks.flatMap blkP ++ [125, 10]
def srcOk (s : Src) : Bool := s.title.all plainB && s.blks.all blkOk

/-! One token at the head. -/
theorem take_word {u : List UInt8} (h : u.all tailB = true) (c : UInt8) (q : List UInt8) (hc : tailB c = false) : (u ++ c :: q).takeWhile tailB = u := by
  rw [take_while_sep tailB c q hc]
  have : ∀ u : List UInt8, u.all tailB = true → u.takeWhile tailB = u := by
    intro u
    induction u with
    | nil => intro _; rfl
    | cons d u ih =>
      intro h
      rw [List.all_cons, Bool.and_eq_true] at h
      rw [List.takeWhile_cons, if_pos h.1, ih h.2]
  exact this u h
theorem word_all {u : List UInt8} (h : wordB u = true) : u.all tailB = true := by
  cases u with
  | nil => rfl
  | cons c r =>
    have h' : (letB c && r.all tailB) = true := h
    rw [Bool.and_eq_true] at h'
    rw [List.all_cons, h'.2]
    unfold tailB
    rw [h'.1]
    rfl
theorem digB_tail {c : UInt8} (h : digB c = true) : tailB c = true := by unfold tailB; rw [h]; simp
theorem num_all {u : List UInt8} (h : numB u = true) : u.all tailB = true := by
  cases u with
  | nil => rfl
  | cons c r =>
    have h' : ((c :: r).all digB && decide (r.length ≤ 5) && (r.isEmpty || !decide (c.toNat = 48))) = true := h
    rw [Bool.and_eq_true, Bool.and_eq_true] at h'
    rw [List.all_eq_true] at h' ⊢
    exact fun x hx => digB_tail (h'.1.1 x hx)
theorem tail_not {c : UInt8} (h : tailB c = true) : c.toNat ≠ 35 ∧ blankB c = false := by
  unfold tailB letB digB at h
  simp only [Bool.or_eq_true, Bool.and_eq_true, decide_eq_true_eq] at h
  refine ⟨by omega, ?_⟩
  unfold blankB
  simp only [Bool.or_eq_false_iff, decide_eq_false_iff_not]
  omega
theorem lexS_run {u : List UInt8} {k : Nat} {c : UInt8} (q : List UInt8) (ln : Nat) (hu : u ≠ []) (ha : u.all tailB = true) (ho : oneS (u ++ c :: q) = some (k, u, u.length)) : lexS (u ++ c :: q) ln = (lexS (c :: q) ln).cons ⟨k, u, ln⟩ := by
  cases u with
  | nil => exact absurd rfl hu
  | cons d r =>
    rw [List.all_cons, Bool.and_eq_true] at ha
    have hd := tail_not ha.1
    rw [List.cons_append] at ho ⊢
    rw [lexS_cons, if_neg hd.1, hd.2, if_neg (by decide), ho]
    simp only
    rw [show (d :: r).length - 1 = r.length by simp, List.drop_left]
theorem lexS_word {u : List UInt8} {c : UInt8} (q : List UInt8) (ln : Nat) (h : wordB u = true) (hc : tailB c = false) : lexS (u ++ c :: q) ln = (lexS (c :: q) ln).cons ⟨1, u, ln⟩ := by
  refine lexS_run q ln (fun e => by rw [e] at h; cases h) (word_all h) ?_
  unfold oneS
  rw [take_word (word_all h) c q hc, if_pos h]
theorem num_not_word {u : List UInt8} (h : numB u = true) : wordB u = false := by
  cases u with
  | nil => rfl
  | cons c r =>
    have h' : ((c :: r).all digB && decide (r.length ≤ 5) && (r.isEmpty || !decide (c.toNat = 48))) = true := h
    rw [Bool.and_eq_true, Bool.and_eq_true, List.all_cons, Bool.and_eq_true] at h'
    have hd := h'.1.1.1
    show (letB c && r.all tailB) = false
    have : letB c = false := by
      unfold digB at hd
      unfold letB
      simp only [Bool.and_eq_true, decide_eq_true_eq] at hd
      simp only [Bool.and_eq_false_iff, decide_eq_false_iff_not]
      omega
    rw [this]; rfl
theorem lexS_num {u : List UInt8} {c : UInt8} (q : List UInt8) (ln : Nat) (h : numB u = true) (hc : tailB c = false) : lexS (u ++ c :: q) ln = (lexS (c :: q) ln).cons ⟨2, u, ln⟩ := by
  refine lexS_run q ln (fun e => by rw [e] at h; cases h) (num_all h) ?_
  unfold oneS
  rw [take_word (num_all h) c q hc, num_not_word h, if_neg (by decide), if_pos h]
theorem mark_not_tail {c : UInt8} (h : markB c = true) : tailB c = false ∧ c.toNat ≠ 35 ∧ blankB c = false ∧ c.toNat ≠ 34 := by
  unfold markB at h
  simp only [Bool.or_eq_true, decide_eq_true_eq] at h
  refine ⟨?_, by omega, ?_, by omega⟩
  · unfold tailB letB digB
    simp only [Bool.or_eq_false_iff, Bool.and_eq_false_iff, decide_eq_false_iff_not]
    omega
  · unfold blankB
    simp only [Bool.or_eq_false_iff, decide_eq_false_iff_not]
    omega
theorem lexS_mark {c : UInt8} (q : List UInt8) (ln : Nat) (h : markB c = true) : lexS (c :: q) ln = (lexS q ln).cons ⟨4, [c], ln⟩ := by
  obtain ⟨h1, h2, h3, h4⟩ := mark_not_tail h
  have ho : oneS (c :: q) = some (4, [c], 1) := by
    unfold oneS
    rw [List.takeWhile_cons, h1]
    simp [wordB, numB, h]
  rw [lexS_cons, if_neg h2, h3, if_neg (by decide), ho]
  rfl
theorem lexS_str {l : List UInt8} (q : List UInt8) (ln : Nat) (h : l.all plainB = true) : lexS (quoP l ++ q) ln = (lexS q ln).cons ⟨3, l, ln⟩ := by
  unfold quoP
  have e : (34 :: (l.flatMap fun c => if escB c then [92, c] else [c]) ++ [34]) ++ q = 34 :: ((l.flatMap fun c => if escB c then [92, c] else [c]) ++ 34 :: q) := by simp
  rw [e, lexS_cons, if_neg (by decide), if_neg (by decide)]
  have ho : oneS (34 :: ((l.flatMap fun c => if escB c then [92, c] else [c]) ++ 34 :: q)) = some (3, l, (l.flatMap fun c => if escB c then [92, c] else [c]).length + 2) := by
    unfold oneS
    have ht : List.takeWhile tailB (34 :: ((l.flatMap fun c => if escB c then [92, c] else [c]) ++ 34 :: q)) = [] := by
      rw [List.takeWhile_cons, if_neg (by decide)]
    rw [ht]
    simp only [wordB, numB, Bool.false_eq_true, if_false]
    rw [if_neg (by decide), if_pos (by decide), escS l q h]
    rfl
  rw [ho]
  simp only
  have hd : ((l.flatMap fun c => if escB c then [92, c] else [c]) ++ 34 :: q).drop ((l.flatMap fun c => if escB c then [92, c] else [c]).length + 2 - 1) = q := by
    rw [show (l.flatMap fun c => if escB c then [92, c] else [c]).length + 2 - 1 = (l.flatMap fun c => if escB c then [92, c] else [c]).length + 1 by omega, List.drop_append, List.drop_of_length_le (by omega)]
    simp
  rw [hd]
theorem lexS_sp (q : List UInt8) (ln : Nat) : lexS (32 :: q) ln = lexS q ln := by
  rw [lexS_cons, if_neg (by decide), if_pos (by decide)]; rfl
theorem lexS_lf (q : List UInt8) (ln : Nat) : lexS (10 :: q) ln = lexS q (ln + 1) := by
  rw [lexS_cons, if_neg (by decide), if_pos (by decide)]; rfl

/-! The tokens of what Print writes. -/
def headF (v : List UInt8) : List UInt8 := v.takeWhile fun c => !decide (c.toNat = 47)
def restF (v : List UInt8) : List UInt8 := (v.dropWhile fun c => !decide (c.toNat = 47)).drop 1
def valT (v : List UInt8) (ln : Nat) : List Tok :=
  if wordB v then [⟨1, v, ln⟩] else if numB v then [⟨2, v, ln⟩] else if bareB v then [⟨2, headF v, ln⟩, ⟨4, [47], ln⟩, ⟨2, restF v, ln⟩] else [⟨3, v, ln⟩]
def valsT (ln : Nat) : List (List UInt8) → List Tok
  | [] => []
  | [v] => valT v ln
  | v :: w :: r => valT v ln ++ ⟨4, [44], ln⟩ :: valsT ln (w :: r)
def fldT (f : Fld) (ln : Nat) : List Tok := ⟨1, f.key, ln⟩ :: valsT ln f.vals ++ [⟨4, [59], ln⟩]
def fldsT : List Fld → Nat → List Tok
  | [], _ => []
  | f :: r, ln => fldT f ln ++ fldsT r (ln + 1)
def nameT (n : List UInt8) (ln : Nat) : List Tok := if n = [] then [] else [⟨1, n, ln⟩]
def blkT (b : Blc) (ln : Nat) : List Tok := ⟨1, b.kind, ln⟩ :: nameT b.name ln ++ ⟨4, [123], ln⟩ :: fldsT b.flds (ln + 1) ++ [⟨4, [125], ln + 1 + b.flds.length⟩]
def blksT : List Blc → Nat → List Tok
  | [], _ => []
  | b :: r, ln => blkT b ln ++ blksT r (ln + 2 + b.flds.length)
def blksN : List Blc → Nat
  | [] => 0
  | b :: r => 2 + b.flds.length + blksN r
def srcT (s : Src) : List Tok := ⟨1, elec, 1⟩ :: ⟨3, s.title, 1⟩ :: ⟨4, [123], 1⟩ :: blksT s.blks 2 ++ [⟨4, [125], 2 + blksN s.blks⟩]

theorem all_not47 {u : List UInt8} (h : u.all tailB = true) : ∀ x ∈ u, x.toNat ≠ 47 := by
  intro x hx e
  have := List.all_eq_true.1 h x hx
  simp [tailB, letB, digB, e] at this
theorem bare_word {v : List UInt8} (h : wordB v = true) : bareB v = true := by
  unfold bareB
  rw [if_neg]
  · rw [h]; rfl
  · intro hh
    obtain ⟨x, hx, e⟩ := List.any_eq_true.1 hh
    exact all_not47 (word_all h) x hx (of_decide_eq_true e)
theorem bare_num {v : List UInt8} (h : numB v = true) : bareB v = true := by
  unfold bareB
  rw [if_neg]
  · rw [h]; simp
  · intro hh
    obtain ⟨x, hx, e⟩ := List.any_eq_true.1 hh
    exact all_not47 (num_all h) x hx (of_decide_eq_true e)
theorem split_any : ∀ v : List UInt8, v.any (fun c => decide (c.toNat = 47)) = true → ∃ c, c.toNat = 47 ∧ v = headF v ++ c :: restF v
  | [], h => by simp at h
  | c :: r, h => by
    by_cases hc : c.toNat = 47
    · refine ⟨c, hc, ?_⟩
      simp [headF, restF, hc]
    · rw [List.any_cons, decide_eq_false hc, Bool.false_or] at h
      obtain ⟨d, hd, e⟩ := split_any r h
      refine ⟨d, hd, ?_⟩
      have h1 : headF (c :: r) = c :: headF r := by simp [headF, hc]
      have h2 : restF (c :: r) = restF r := by simp [restF, hc]
      rw [h1, h2, List.cons_append, ← e]
/-- A value that needs no quotes and is neither a word nor a number is a fraction. -/
theorem bare_frac {v : List UInt8} (h : bareB v = true) (h1 : wordB v = false) (h2 : numB v = false) : numB (headF v) = true ∧ numB (restF v) = true ∧ v = headF v ++ 47 :: restF v := by
  unfold bareB at h
  split at h
  · rename_i ha
    obtain ⟨c, hc, e⟩ := split_any v ha
    rw [Bool.and_eq_true] at h
    have : c = 47 := UInt8.toNat_inj.1 (by rw [hc]; rfl)
    subst this
    exact ⟨h.1, h.2, e⟩
  · rw [h1, h2] at h; cases h
theorem valP_bare {v : List UInt8} (h : bareB v = true) : valP v = v := if_pos h
theorem valP_quo {v : List UInt8} (h : bareB v = false) : valP v = quoP v := if_neg (by rw [h]; decide)
theorem valT_word {v : List UInt8} (ln : Nat) (h : wordB v = true) : valT v ln = [⟨1, v, ln⟩] := if_pos h
theorem valT_num {v : List UInt8} (ln : Nat) (h : numB v = true) : valT v ln = [⟨2, v, ln⟩] := by
  unfold valT
  rw [num_not_word h, if_neg (by decide), if_pos h]
theorem valT_frac {v : List UInt8} (ln : Nat) (h1 : wordB v = false) (h2 : numB v = false) (h : bareB v = true) : valT v ln = [⟨2, headF v, ln⟩, ⟨4, [47], ln⟩, ⟨2, restF v, ln⟩] := by
  unfold valT
  rw [h1, if_neg (by decide), h2, if_neg (by decide), if_pos h]
theorem valT_str {v : List UInt8} (ln : Nat) (h : bareB v = false) : valT v ln = [⟨3, v, ln⟩] := by
  have h1 : wordB v = false := by
    cases h1 : wordB v with
    | true => rw [bare_word h1] at h; cases h
    | false => rfl
  have h2 : numB v = false := by
    cases h2 : numB v with
    | true => rw [bare_num h2] at h; cases h
    | false => rfl
  unfold valT
  rw [h1, if_neg (by decide), h2, if_neg (by decide), h, if_neg (by decide)]
theorem lexS_val {v : List UInt8} {c : UInt8} (q : List UInt8) (ln : Nat) (h : valOk v = true) (hc : tailB c = false) : lexS (valP v ++ c :: q) ln = Res.app (valT v ln) (lexS (c :: q) ln) := by
  cases h3 : bareB v with
  | false =>
    have hp : v.all plainB = true := by
      unfold valOk at h
      rw [h3] at h
      simpa using h
    rw [valP_quo h3, valT_str ln h3, lexS_str _ ln hp, Res.app_cons, Res.app_nil]
  | true =>
    rw [valP_bare h3]
    cases h1 : wordB v with
    | true => rw [valT_word ln h1, lexS_word q ln h1 hc, Res.app_cons, Res.app_nil]
    | false =>
      cases h2 : numB v with
      | true => rw [valT_num ln h2, lexS_num q ln h2 hc, Res.app_cons, Res.app_nil]
      | false =>
        obtain ⟨f1, f2, f3⟩ := bare_frac h3 h1 h2
        have e : v ++ c :: q = headF v ++ 47 :: (restF v ++ c :: q) := by
          conv => lhs; rw [f3]
          simp
        rw [e, valT_frac ln h1 h2 h3, lexS_num _ ln f1 (by decide), lexS_mark _ ln (by decide), lexS_num q ln f2 hc, Res.app_cons, Res.app_cons, Res.app_cons, Res.app_nil]
theorem lexS_vals (q : List UInt8) (ln : Nat) : ∀ vs : List (List UInt8), vs ≠ [] → vs.all valOk = true → lexS (valsP vs ++ 59 :: q) ln = Res.app (valsT ln vs) (lexS (59 :: q) ln)
  | [], h, _ => absurd rfl h
  | [v], _, h => by
    rw [List.all_cons, Bool.and_eq_true] at h
    show lexS (32 :: valP v ++ 59 :: q) ln = _
    rw [List.cons_append, lexS_sp, lexS_val q ln h.1 (by decide)]
    rfl
  | v :: w :: r, _, h => by
    rw [List.all_cons, Bool.and_eq_true] at h
    show lexS (32 :: valP v ++ 44 :: valsP (w :: r) ++ 59 :: q) ln = _
    rw [List.append_assoc, List.cons_append, List.cons_append, lexS_sp, lexS_val _ ln h.1 (by decide), lexS_mark _ ln (by decide), lexS_vals q ln (w :: r) (by simp) h.2]
    show _ = Res.app (valT v ln ++ ⟨4, [44], ln⟩ :: valsT ln (w :: r)) _
    rw [← Res.app_app, Res.app_cons]
theorem valsP_head (vs : List (List UInt8)) (h : vs ≠ []) : ∃ r, valsP vs = 32 :: r := by
  match vs with
  | [] => exact absurd rfl h
  | [v] => exact ⟨_, rfl⟩
  | v :: w :: r => exact ⟨_, rfl⟩
theorem lexS_fld {f : Fld} (q : List UInt8) (ln : Nat) (h : fldOk f = true) : lexS (fldP f ++ q) ln = Res.app (fldT f ln) (lexS q (ln + 1)) := by
  unfold fldOk at h
  rw [Bool.and_eq_true, Bool.and_eq_true] at h
  obtain ⟨⟨hk, hv⟩, ha⟩ := h
  have hne : f.vals ≠ [] := by
    intro e
    rw [e] at hv
    simp at hv
  obtain ⟨r, hr⟩ := valsP_head f.vals hne
  have e : fldP f ++ q = 32 :: 32 :: 32 :: 32 :: (f.key ++ 32 :: (r ++ 59 :: (10 :: q))) := by
    unfold fldP
    rw [hr]
    simp
  have e2 : lexS (32 :: (r ++ 59 :: (10 :: q))) ln = Res.app (valsT ln f.vals) (lexS (59 :: (10 :: q)) ln) := by
    have := lexS_vals (10 :: q) ln f.vals hne ha
    rwa [hr, List.cons_append] at this
  rw [e, lexS_sp, lexS_sp, lexS_sp, lexS_sp, lexS_word _ ln hk (by decide), e2, lexS_mark _ ln (by decide), lexS_lf]
  unfold fldT
  rw [List.cons_append, Res.app_cons, ← Res.app_app, Res.app_cons, Res.app_nil]
theorem lexS_flds (q : List UInt8) : ∀ (fs : List Fld) (ln : Nat), fs.all fldOk = true → lexS (fs.flatMap fldP ++ q) ln = Res.app (fldsT fs ln) (lexS q (ln + fs.length))
  | [], ln, _ => by rw [fldsT, Res.app_nil]; rfl
  | f :: r, ln, h => by
    rw [List.all_cons, Bool.and_eq_true] at h
    rw [List.flatMap_cons, List.append_assoc, lexS_fld _ ln h.1, lexS_flds q r (ln + 1) h.2, fldsT, ← Res.app_app]
    congr 3
    simp
    omega
theorem lexS_blk {b : Blc} (q : List UInt8) (ln : Nat) (h : blkOk b = true) : lexS (blkP b ++ q) ln = Res.app (blkT b ln) (lexS q (ln + 2 + b.flds.length)) := by
  unfold blkOk at h
  rw [Bool.and_eq_true, Bool.and_eq_true] at h
  obtain ⟨⟨hk, hn⟩, hf⟩ := h
  have tail : ∀ u : List UInt8, u = 32 :: 123 :: 10 :: (b.flds.flatMap fldP ++ 32 :: 32 :: 125 :: 10 :: q) → lexS u ln = Res.app (⟨4, [123], ln⟩ :: fldsT b.flds (ln + 1) ++ [⟨4, [125], ln + 1 + b.flds.length⟩]) (lexS q (ln + 2 + b.flds.length)) := by
    intro u hu
    rw [hu, lexS_sp, lexS_mark _ ln (by decide), lexS_lf, lexS_flds _ b.flds (ln + 1) hf, lexS_sp, lexS_sp, lexS_mark _ _ (by decide), lexS_lf, List.cons_append, Res.app_cons, ← Res.app_app, Res.app_cons, Res.app_nil]
    congr 4
    omega
  unfold blkP blkT nameP nameT
  by_cases h0 : b.name = []
  · rw [if_pos h0, if_pos h0]
    have e : [32, 32] ++ b.kind ++ [] ++ [32, 123, 10] ++ b.flds.flatMap fldP ++ [32, 32, 125, 10] ++ q = 32 :: 32 :: (b.kind ++ 32 :: (123 :: 10 :: (b.flds.flatMap fldP ++ 32 :: 32 :: 125 :: 10 :: q))) := by simp
    rw [e, lexS_sp, lexS_sp, lexS_word _ ln hk (by decide), tail _ rfl]
    simp only [List.cons_append, List.nil_append, Res.app_cons]
  · rw [if_neg h0, if_neg h0]
    rw [decide_eq_false h0, Bool.false_or] at hn
    have e : [32, 32] ++ b.kind ++ 32 :: b.name ++ [32, 123, 10] ++ b.flds.flatMap fldP ++ [32, 32, 125, 10] ++ q = 32 :: 32 :: (b.kind ++ 32 :: (b.name ++ 32 :: (123 :: 10 :: (b.flds.flatMap fldP ++ 32 :: 32 :: 125 :: 10 :: q)))) := by simp
    rw [e, lexS_sp, lexS_sp, lexS_word _ ln hk (by decide), lexS_sp, lexS_word _ ln hn (by decide), tail _ rfl]
    simp only [List.cons_append, List.nil_append, Res.app_cons]
theorem lexS_blks (q : List UInt8) : ∀ (bs : List Blc) (ln : Nat), bs.all blkOk = true → lexS (bs.flatMap blkP ++ q) ln = Res.app (blksT bs ln) (lexS q (ln + blksN bs))
  | [], ln, _ => by rw [blksT, Res.app_nil]; rfl
  | b :: r, ln, h => by
    rw [List.all_cons, Bool.and_eq_true] at h
    rw [List.flatMap_cons, List.append_assoc, lexS_blk _ ln h.1, lexS_blks q r _ h.2, blksT, ← Res.app_app]
    congr 3
    show _ = ln + (2 + b.flds.length + blksN r)
    omega
/-- The tokens of what Print writes. -/
theorem lexS_src {s : Src} (h : srcOk s = true) : lexS (srcP s) 1 = .ok (srcT s) (3 + blksN s.blks) := by
  unfold srcOk at h
  rw [Bool.and_eq_true] at h
  have e : srcP s = elec ++ 32 :: (quoP s.title ++ 32 :: 123 :: 10 :: (s.blks.flatMap blkP ++ 125 :: 10 :: [])) := by
    unfold srcP
    simp
  rw [e, lexS_word _ 1 (by decide) (by decide), lexS_sp, lexS_str _ 1 h.1, lexS_sp, lexS_mark _ 1 (by decide), lexS_lf, lexS_blks _ s.blks 2 h.2, lexS_mark _ _ (by decide), lexS_lf, lexS_nil]
  unfold srcT
  have e3 : 2 + blksN s.blks + 1 = 3 + blksN s.blks := by omega
  rw [e3]
  simp [Res.app, Res.cons]
end Go.Proofs.Ytfknckbclddnmaa.Lx
