/-
  How tokens are read as a definition, in plain words; what Print writes is read back. No program, no world.
-/
import Derived.Test.YtfknckbclddnmaaSynMath
namespace Go.Proofs.Ytfknckbclddnmaa.Lx

/-- A reading: what was read and what is left, or the line of the first token that cannot stand where it does. -/
inductive PR (α : Type) where
  | ok (a : α) (r : List Tok)
  | bad (ln : Nat)
def PR.bind {α β : Type} : PR α → (α → List Tok → PR β) → PR β
  | .ok a r, f => f a r
  | .bad ln, _ => .bad ln
theorem PR.bind_ok {α β : Type} (a : α) (r : List Tok) (f : α → List Tok → PR β) : (PR.ok a r).bind f = f a r := rfl
theorem PR.bind_bad {α β : Type} (ln : Nat) (f : α → List Tok → PR β) : (PR.bad ln : PR α).bind f = .bad ln := rfl
def lineP : List Tok → Nat
  | [] => 0
  | t :: _ => t.line
def isMark (c : UInt8) (t : Tok) : Bool := decide (t.kind = 4) && decide (t.text = [c])
def atMark (c : UInt8) : List Tok → Bool
  | [] => false
  | t :: _ => isMark c t
def atKind (k : Nat) : List Tok → Bool
  | [] => false
  | t :: _ => decide (t.kind = k)
/-- A token of a kind. -/
def takeK (k : Nat) : List Tok → PR (List UInt8)
  | [] => .bad 0
  | t :: r => if t.kind = k then .ok t.text r else .bad t.line
/-- A mark. -/
def takeM (c : UInt8) : List Tok → PR Unit
  | [] => .bad 0
  | t :: r => if isMark c t then .ok () r else .bad t.line
def valueP (l : List Tok) : PR (List UInt8) :=
  if atKind 1 l then takeK 1 l
  else if atKind 3 l then takeK 3 l
  else (takeK 2 l).bind fun a r => if atMark 47 r then (takeK 2 (r.drop 1)).bind fun b r2 => .ok (a ++ 47 :: b) r2 else .ok a r
def moreP : Nat → List Tok → PR (List (List UInt8))
  | 0, l => .ok [] l
  | k + 1, l => if atMark 44 l then (valueP (l.drop 1)).bind fun v r => (moreP k r).bind fun vs r2 => .ok (v :: vs) r2 else .ok [] l
def fieldP (l : List Tok) : PR Fld :=
  (takeK 1 l).bind fun key r => (valueP r).bind fun v r2 => (moreP r2.length r2).bind fun vs r3 => (takeM 59 r3).bind fun _ r4 => .ok ⟨key, v :: vs, lineP l⟩ r4
def fieldsP : Nat → List Tok → PR (List Fld)
  | 0, l => .ok [] l
  | k + 1, l => if atMark 125 l then .ok [] l else (fieldP l).bind fun f r => (fieldsP k r).bind fun fs r2 => .ok (f :: fs) r2
def nameR (l : List Tok) : PR (List UInt8) := if atKind 1 l then takeK 1 l else .ok [] l
def blockP (l : List Tok) : PR Blc :=
  (takeK 1 l).bind fun kind r => (nameR r).bind fun name r2 => (takeM 123 r2).bind fun _ r3 => (fieldsP (r3.length + 1) r3).bind fun fs r4 => (takeM 125 r4).bind fun _ r5 => .ok ⟨kind, name, fs, lineP l⟩ r5
def blocksP : Nat → List Tok → PR (List Blc)
  | 0, l => .ok [] l
  | k + 1, l => if atMark 125 l then .ok [] l else (blockP l).bind fun b r => (blocksP k r).bind fun bs r2 => .ok (b :: bs) r2
/-- The word 'election'. -/
def takeE : List Tok → PR Unit
  | [] => .bad 0
  | t :: r => if t.kind = 1 ∧ t.text = elec then .ok () r else .bad t.line
def sourceP (l : List Tok) : PR Src :=
  (takeE l).bind fun _ r => (takeK 3 r).bind fun title r2 => (takeM 123 r2).bind fun _ r3 => (blocksP (r3.length + 1) r3).bind fun bs r4 => (takeM 125 r4).bind fun _ r5 => (takeK 5 r5).bind fun _ r6 => .ok ⟨title, bs⟩ r6
/-- What Parse answers: the definition, or the line of the fault; none: the text is too long. -/
inductive Ans where
  | ok (s : Src)
  | err (ln : Nat)
def parseL (l : List UInt8) : Ans :=
  match lexS l 1 with
  | .err ln => .err ln
  | .ok ts ln => match sourceP (ts ++ [⟨5, [], ln⟩]) with
    | .ok s _ => .ok s
    | .bad m => .err m

/-! What Print writes is read back. -/
theorem takeK_mk (k : Nat) (x : List UInt8) (n : Nat) (r : List Tok) : takeK k (⟨k, x, n⟩ :: r) = .ok x r := if_pos rfl
theorem mark_same (c : UInt8) (n : Nat) : isMark c ⟨4, [c], n⟩ = true := by simp [isMark]
theorem mark_ne {c d : UInt8} (h : d ≠ c) (n : Nat) : isMark c ⟨4, [d], n⟩ = false := by simp [isMark, h]
theorem takeE_mk (n : Nat) (r : List Tok) : takeE (⟨1, elec, n⟩ :: r) = .ok () r := by
  simp [takeE]
theorem takeM_mk (c : UInt8) (n : Nat) (r : List Tok) : takeM c (⟨4, [c], n⟩ :: r) = .ok () r := if_pos (mark_same c n)
theorem valueP_val (v : List UInt8) (ln : Nat) {t : Tok} (r : List Tok) (ht : isMark 47 t = false) : valueP (valT v ln ++ t :: r) = .ok v (t :: r) := by
  cases h3 : bareB v with
  | false => rw [valT_str ln h3]; rfl
  | true =>
    cases h1 : wordB v with
    | true => rw [valT_word ln h1]; rfl
    | false =>
      cases h2 : numB v with
      | true =>
        rw [valT_num ln h2]
        show valueP (⟨2, v, ln⟩ :: t :: r) = _
        unfold valueP
        rw [show atKind 1 (⟨2, v, ln⟩ :: t :: r) = false from rfl, if_neg (by decide), show atKind 3 (⟨2, v, ln⟩ :: t :: r) = false from rfl, if_neg (by decide), takeK_mk, PR.bind_ok, show atMark 47 (t :: r) = isMark 47 t from rfl, ht, if_neg (by decide)]
      | false =>
        obtain ⟨_, _, f3⟩ := bare_frac h3 h1 h2
        rw [valT_frac ln h1 h2 h3]
        conv => rhs; rw [f3]
        rfl
def moreT (ln : Nat) (vs : List (List UInt8)) : List Tok := vs.flatMap fun v => ⟨4, [44], ln⟩ :: valT v ln
theorem valsT_more (ln : Nat) : ∀ (v : List UInt8) (r : List (List UInt8)), valsT ln (v :: r) = valT v ln ++ moreT ln r
  | v, [] => by
    show valT v ln = valT v ln ++ []
    rw [List.append_nil]
  | v, w :: r => by
    show valT v ln ++ ⟨4, [44], ln⟩ :: valsT ln (w :: r) = _
    rw [valsT_more ln w r]
    rfl
theorem more_head (ln : Nat) (vs : List (List UInt8)) (t : Tok) (r : List Tok) (ht : isMark 47 t = false) : ∃ u q, moreT ln vs ++ t :: r = u :: q ∧ isMark 47 u = false := by
  cases vs with
  | nil => exact ⟨t, r, rfl, ht⟩
  | cons v vs => exact ⟨⟨4, [44], ln⟩, _, rfl, mark_ne (by decide) ln⟩
theorem moreP_vals (ln : Nat) {t : Tok} (r : List Tok) (ht : isMark 47 t = false) (ht2 : isMark 44 t = false) : ∀ (vs : List (List UInt8)) (k : Nat), vs.length ≤ k → moreP k (moreT ln vs ++ t :: r) = .ok vs (t :: r)
  | [], 0, _ => rfl
  | [], k + 1, _ => by
    show (if isMark 44 t then _ else _) = _
    rw [ht2, if_neg (by decide)]
    rfl
  | v :: vs, 0, h => by simp at h
  | v :: vs, k + 1, h => by
    have h' : vs.length ≤ k := by simpa using h
    obtain ⟨u, q, hu, hm⟩ := more_head ln vs t r ht
    have e : moreT ln (v :: vs) ++ t :: r = ⟨4, [44], ln⟩ :: (valT v ln ++ (moreT ln vs ++ t :: r)) := by simp [moreT]
    rw [e]
    show (valueP (valT v ln ++ (moreT ln vs ++ t :: r))).bind _ = _
    rw [hu, valueP_val v ln q hm, PR.bind_ok, ← hu, moreP_vals ln r ht ht2 vs k h', PR.bind_ok]
theorem valT_pos (v : List UInt8) (ln : Nat) : 1 ≤ (valT v ln).length := by
  unfold valT
  split
  · simp
  · split
    · simp
    · split <;> simp
theorem moreT_len (ln : Nat) (vs : List (List UInt8)) : vs.length ≤ (moreT ln vs).length := by
  induction vs with
  | nil => exact Nat.le_refl _
  | cons v vs ih =>
    have e : moreT ln (v :: vs) = ⟨4, [44], ln⟩ :: (valT v ln ++ moreT ln vs) := by simp [moreT]
    rw [e, List.length_cons, List.length_cons, List.length_append]
    omega
def fldL (f : Fld) (ln : Nat) : Fld := { f with line := ln }
theorem fieldP_fld (f : Fld) (ln : Nat) (r : List Tok) (h : f.vals ≠ []) : fieldP (fldT f ln ++ r) = .ok (fldL f ln) r := by
  obtain ⟨key, vals, line⟩ := f
  match vals, h with
  | v :: vs, _ =>
    have e : fldT ⟨key, v :: vs, line⟩ ln ++ r = ⟨1, key, ln⟩ :: (valT v ln ++ (moreT ln vs ++ ⟨4, [59], ln⟩ :: r)) := by
      unfold fldT
      rw [valsT_more]
      simp
    rw [e]
    unfold fieldP
    rw [takeK_mk, PR.bind_ok]
    obtain ⟨u, q, hu, hm⟩ := more_head ln vs ⟨4, [59], ln⟩ r (mark_ne (by decide) ln)
    rw [hu, valueP_val v ln q hm, PR.bind_ok, ← hu, moreP_vals ln r (mark_ne (by decide) ln) (mark_ne (by decide) ln) vs _ (by rw [List.length_append]; have := moreT_len ln vs; omega), PR.bind_ok, takeM_mk, PR.bind_ok]
    rfl
def fldsL : List Fld → Nat → List Fld
  | [], _ => []
  | f :: r, ln => fldL f ln :: fldsL r (ln + 1)
theorem fldsT_len : ∀ (fs : List Fld) (ln : Nat), fs.length ≤ (fldsT fs ln).length
  | [], _ => Nat.le_refl _
  | f :: r, ln => by
    have := fldsT_len r (ln + 1)
    rw [fldsT, List.length_append]
    unfold fldT
    simp
    omega
theorem fieldsP_flds {t : Tok} (r : List Tok) (ht : isMark 125 t = true) : ∀ (fs : List Fld) (ln k : Nat), fs.length < k → (∀ f ∈ fs, f.vals ≠ []) → fieldsP k (fldsT fs ln ++ t :: r) = .ok (fldsL fs ln) (t :: r)
  | _, _, 0, h, _ => absurd h (Nat.not_lt_zero _)
  | [], ln, k + 1, _, _ => by
    show (if isMark 125 t then _ else _) = _
    rw [if_pos ht]
    rfl
  | f :: fs, ln, k + 1, h, hv => by
    have h' : fs.length < k := by simpa using h
    rw [fldsT, List.append_assoc]
    have hat : atMark 125 (fldT f ln ++ (fldsT fs (ln + 1) ++ t :: r)) = false := rfl
    rw [fieldsP, hat, if_neg (by decide), fieldP_fld f ln _ (hv f (List.mem_cons_self ..)), PR.bind_ok, fieldsP_flds r ht fs (ln + 1) k h' (fun g hg => hv g (List.mem_cons_of_mem _ hg)), PR.bind_ok]
    rfl
def blkL (b : Blc) (ln : Nat) : Blc := ⟨b.kind, b.name, fldsL b.flds (ln + 1), ln⟩
theorem blockP_blk (b : Blc) (ln : Nat) (r : List Tok) (hv : ∀ f ∈ b.flds, f.vals ≠ []) : blockP (blkT b ln ++ r) = .ok (blkL b ln) r := by
  have hf : ∀ k, b.flds.length < k → fieldsP k (fldsT b.flds (ln + 1) ++ ⟨4, [125], ln + 1 + b.flds.length⟩ :: r) = .ok (fldsL b.flds (ln + 1)) (⟨4, [125], ln + 1 + b.flds.length⟩ :: r) := fun k hk => fieldsP_flds r (mark_same 125 _) b.flds (ln + 1) k hk hv
  have hlen : b.flds.length < (fldsT b.flds (ln + 1) ++ ⟨4, [125], ln + 1 + b.flds.length⟩ :: r).length := by
    rw [List.length_append, List.length_cons]
    have := fldsT_len b.flds (ln + 1)
    omega
  unfold blockP blkT nameT
  by_cases h0 : b.name = []
  · rw [if_pos h0]
    have e : ⟨1, b.kind, ln⟩ :: [] ++ ⟨4, [123], ln⟩ :: fldsT b.flds (ln + 1) ++ [⟨4, [125], ln + 1 + b.flds.length⟩] ++ r = (⟨1, b.kind, ln⟩ :: ⟨4, [123], ln⟩ :: (fldsT b.flds (ln + 1) ++ ⟨4, [125], ln + 1 + b.flds.length⟩ :: r) : List Tok) := by simp
    rw [e, takeK_mk, PR.bind_ok]
    have en : nameR (⟨4, [123], ln⟩ :: (fldsT b.flds (ln + 1) ++ ⟨4, [125], ln + 1 + b.flds.length⟩ :: r)) = .ok [] (⟨4, [123], ln⟩ :: (fldsT b.flds (ln + 1) ++ ⟨4, [125], ln + 1 + b.flds.length⟩ :: r)) := rfl
    rw [en, PR.bind_ok, takeM_mk, PR.bind_ok, hf _ (Nat.lt_succ_of_lt hlen), PR.bind_ok, takeM_mk, PR.bind_ok]
    show PR.ok (⟨b.kind, [], fldsL b.flds (ln + 1), ln⟩ : Blc) r = _
    unfold blkL
    rw [h0]
  · rw [if_neg h0]
    have e : ⟨1, b.kind, ln⟩ :: [⟨1, b.name, ln⟩] ++ ⟨4, [123], ln⟩ :: fldsT b.flds (ln + 1) ++ [⟨4, [125], ln + 1 + b.flds.length⟩] ++ r = (⟨1, b.kind, ln⟩ :: ⟨1, b.name, ln⟩ :: ⟨4, [123], ln⟩ :: (fldsT b.flds (ln + 1) ++ ⟨4, [125], ln + 1 + b.flds.length⟩ :: r) : List Tok) := by simp
    rw [e, takeK_mk, PR.bind_ok]
    have en : nameR (⟨1, b.name, ln⟩ :: ⟨4, [123], ln⟩ :: (fldsT b.flds (ln + 1) ++ ⟨4, [125], ln + 1 + b.flds.length⟩ :: r)) = .ok b.name (⟨4, [123], ln⟩ :: (fldsT b.flds (ln + 1) ++ ⟨4, [125], ln + 1 + b.flds.length⟩ :: r)) := rfl
    rw [en, PR.bind_ok, takeM_mk, PR.bind_ok, hf _ (Nat.lt_succ_of_lt hlen), PR.bind_ok, takeM_mk, PR.bind_ok]
    rfl
def blksL : List Blc → Nat → List Blc
  | [], _ => []
  | b :: r, ln => blkL b ln :: blksL r (ln + 2 + b.flds.length)
theorem blkT_pos (b : Blc) (ln : Nat) : 1 ≤ (blkT b ln).length := by unfold blkT; simp
theorem blksT_len : ∀ (bs : List Blc) (ln : Nat), bs.length ≤ (blksT bs ln).length
  | [], _ => Nat.le_refl _
  | b :: r, ln => by
    have := blksT_len r (ln + 2 + b.flds.length)
    have := blkT_pos b ln
    rw [blksT, List.length_append, List.length_cons]
    omega
theorem blk_at (b : Blc) (ln : Nat) (q : List Tok) : atMark 125 (blkT b ln ++ q) = false := rfl
theorem blocksP_blks {t : Tok} (r : List Tok) (ht : isMark 125 t = true) : ∀ (bs : List Blc) (ln k : Nat), bs.length < k → (∀ b ∈ bs, ∀ f ∈ b.flds, f.vals ≠ []) → blocksP k (blksT bs ln ++ t :: r) = .ok (blksL bs ln) (t :: r)
  | _, _, 0, h, _ => absurd h (Nat.not_lt_zero _)
  | [], ln, k + 1, _, _ => by
    show (if isMark 125 t then _ else _) = _
    rw [if_pos ht]
    rfl
  | b :: bs, ln, k + 1, h, hv => by
    have h' : bs.length < k := by simpa using h
    rw [blksT, List.append_assoc, blocksP, blk_at, if_neg (by decide), blockP_blk b ln _ (hv b (List.mem_cons_self ..)), PR.bind_ok, blocksP_blks r ht bs _ k h' (fun c hc => hv c (List.mem_cons_of_mem _ hc)), PR.bind_ok]
    rfl
def srcL (s : Src) : Src := ⟨s.title, blksL s.blks 2⟩
theorem fld_vals {f : Fld} (h : fldOk f = true) : f.vals ≠ [] := by
  intro e
  unfold fldOk at h
  rw [e] at h
  simp at h
theorem src_vals {s : Src} (h : srcOk s = true) : ∀ b ∈ s.blks, ∀ f ∈ b.flds, f.vals ≠ [] := by
  intro b hb f hf
  unfold srcOk at h
  rw [Bool.and_eq_true] at h
  have h1 := List.all_eq_true.1 h.2 b hb
  unfold blkOk at h1
  rw [Bool.and_eq_true] at h1
  exact fld_vals (List.all_eq_true.1 h1.2 f hf)
theorem sourceP_src (s : Src) (e : Nat) (hv : ∀ b ∈ s.blks, ∀ f ∈ b.flds, f.vals ≠ []) : sourceP (srcT s ++ [⟨5, [], e⟩]) = .ok (srcL s) [] := by
  unfold srcT sourceP
  have e1 : ⟨1, elec, 1⟩ :: ⟨3, s.title, 1⟩ :: ⟨4, [123], 1⟩ :: blksT s.blks 2 ++ [⟨4, [125], 2 + blksN s.blks⟩] ++ [⟨5, [], e⟩] = (⟨1, elec, 1⟩ :: ⟨3, s.title, 1⟩ :: ⟨4, [123], 1⟩ :: (blksT s.blks 2 ++ ⟨4, [125], 2 + blksN s.blks⟩ :: [⟨5, [], e⟩]) : List Tok) := by simp
  rw [e1]
  rw [takeE_mk, PR.bind_ok, takeK_mk, PR.bind_ok, takeM_mk, PR.bind_ok]
  rw [blocksP_blks _ (mark_same 125 _) s.blks 2 _ (by rw [List.length_append, List.length_cons]; have := blksT_len s.blks 2; omega) hv, PR.bind_ok, takeM_mk, PR.bind_ok, takeK_mk, PR.bind_ok]
  rfl
/-- What Print writes is read back, with the lines of the layout. -/
theorem parse_print {s : Src} (h : srcOk s = true) : parseL (srcP s) = .ok (srcL s) := by
  unfold parseL
  rw [lexS_src h]
  simp only
  rw [sourceP_src s _ (src_vals h)]
end Go.Proofs.Ytfknckbclddnmaa.Lx
