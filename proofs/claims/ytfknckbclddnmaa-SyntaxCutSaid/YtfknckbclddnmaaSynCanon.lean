/-
  Whatever is read can be printed, in plain words: what the tokens hold, and how long the print is at most. No program, no world.
-/
import Derived.Test.YtfknckbclddnmaaSynParse
namespace Go.Proofs.Ytfknckbclddnmaa.Lx

/-- What a token of a text holds. -/
structure GoodT (t : Tok) : Prop where
  word : t.kind = 1 → wordB t.text = true
  num : t.kind = 2 → numB t.text = true
  str : t.kind = 3 → t.text.all plainB = true
theorem strS_plain (l : List UInt8) : ∀ x, strS l = some x → x.1.all plainB = true ∧ x.1.length ≤ x.2 := by
  induction l using strS.induct with
  | case1 => intro x h; simp [strS] at h
  | case2 c r h => intro x h'; rw [strS_cons, if_pos h] at h'; injection h' with h'; subst h'; exact ⟨rfl, Nat.zero_le _⟩
  | case3 c h1 h2 h3 => intro x h; rw [strS_cons, if_neg h1, if_pos h2, if_pos h3] at h; cases h
  | case4 c h1 h2 h3 d q h4 ih =>
    intro x h
    rw [strS_cons, if_neg h1, if_pos h2, if_pos h3] at h
    simp only [if_pos h4] at h
    obtain ⟨y, hy, rfl⟩ := Option.map_eq_some_iff.1 h
    obtain ⟨p1, p2⟩ := ih y hy
    have hd : plainB d = true := by
      simp only [escB, Bool.or_eq_true, decide_eq_true_eq] at h4
      rcases h4 with h4 | h4 <;> simp [plainB, h4]
    refine ⟨by rw [List.all_cons, hd, p1]; rfl, ?_⟩
    simp only [List.length_cons]
    omega
  | case5 c h1 h2 h3 d q h4 => intro x h; rw [strS_cons, if_neg h1, if_pos h2, if_pos h3] at h; simp only [if_neg h4] at h; cases h
  | case6 c r h1 h2 h3 ih =>
    intro x h
    rw [strS_cons, if_neg h1, if_pos h2, if_neg h3] at h
    obtain ⟨y, hy, rfl⟩ := Option.map_eq_some_iff.1 h
    obtain ⟨p1, p2⟩ := ih y hy
    refine ⟨by rw [List.all_cons, h2, p1]; rfl, ?_⟩
    simp only [List.length_cons]
    omega
  | case7 c r h1 h2 => intro x h; rw [strS_cons, if_neg h1, if_neg h2] at h; cases h
theorem oneS_good (l : List UInt8) (x : Nat × List UInt8 × Nat) (ln : Nat) (h : oneS l = some x) : GoodT ⟨x.1, x.2.1, ln⟩ ∧ x.2.1.length ≤ x.2.2 := by
  unfold oneS at h
  split at h
  · rename_i hw
    injection h with h; subst h
    exact ⟨⟨fun _ => hw, fun e => (by cases e), fun e => (by cases e)⟩, Nat.le_refl _⟩
  · split at h
    · rename_i hw
      injection h with h; subst h
      exact ⟨⟨fun e => (by cases e), fun _ => hw, fun e => (by cases e)⟩, Nat.le_refl _⟩
    · cases l with
      | nil => cases h
      | cons c r =>
        simp only at h
        split at h
        · injection h with h; subst h
          exact ⟨⟨fun e => (by cases e), fun e => (by cases e), fun e => (by cases e)⟩, Nat.le_refl _⟩
        · split at h
          · obtain ⟨y, hy, rfl⟩ := Option.map_eq_some_iff.1 h
            obtain ⟨p1, p2⟩ := strS_plain r y hy
            exact ⟨⟨fun e => (by cases e), fun e => (by cases e), fun _ => p1⟩, Nat.le_succ_of_le p2⟩
          · cases h
/-- The weight of tokens: more than what is printed of them. -/
def wgt : List Tok → Nat
  | [] => 0
  | t :: r => 2 * t.text.length + 20 + wgt r
theorem lexS_good : ∀ (n : Nat) (l : List UInt8) (ln : Nat) (ts : List Tok) (m : Nat), l.length ≤ n → lexS l ln = .ok ts m → (∀ t ∈ ts, GoodT t) ∧ wgt ts ≤ 40 * l.length
  | n, [], ln, ts, m, _, h => by
    rw [lexS_nil] at h
    injection h with h _
    subst h
    exact ⟨fun t ht => (by cases ht), Nat.zero_le _⟩
  | 0, c :: r, _, _, _, hn, _ => absurd hn (by simp)
  | n + 1, c :: r, ln, ts, m, hn, h => by
    have hr : r.length ≤ n := by simpa using hn
    rw [lexS_cons] at h
    split at h
    · have hd := drop_while_len notNl r
      obtain ⟨g1, g2⟩ := lexS_good n _ ln ts m (Nat.le_trans hd hr) h
      exact ⟨g1, by rw [List.length_cons]; omega⟩
    · split at h
      · obtain ⟨g1, g2⟩ := lexS_good n _ _ ts m hr h
        exact ⟨g1, by rw [List.length_cons]; omega⟩
      · cases hx : oneS (c :: r) with
        | none => rw [hx] at h; cases h
        | some x =>
          rw [hx] at h
          simp only at h
          have hp := oneS_pos _ _ hx
          have hl := oneS_len c r x hx
          obtain ⟨o1, o2⟩ := oneS_good _ x ln hx
          cases hy : lexS (r.drop (x.2.2 - 1)) ln with
          | err e => rw [hy] at h; cases h
          | ok us e =>
            rw [hy] at h
            injection h with h _
            obtain ⟨g1, g2⟩ := lexS_good n _ ln us e (by rw [List.length_drop]; omega) hy
            rw [List.length_drop] at g2
            rw [List.length_cons] at hl
            subst h
            refine ⟨fun t ht => ?_, ?_⟩
            · rcases List.mem_cons.1 ht with rfl | ht
              · exact o1
              · exact g1 t ht
            · rw [wgt, List.length_cons]
              simp only
              omega

theorem PR.bind_eq {α β : Type} {p : PR α} {f : α → List Tok → PR β} {b : β} {r : List Tok} (h : p.bind f = .ok b r) : ∃ a q, p = .ok a q ∧ f a q = .ok b r := by
  cases p with
  | ok a q => exact ⟨a, q, rfl, h⟩
  | bad ln => cases h
theorem takeK_eq {k : Nat} {l : List Tok} {x : List UInt8} {r : List Tok} (h : takeK k l = .ok x r) : ∃ t, l = t :: r ∧ t.kind = k ∧ x = t.text := by
  cases l with
  | nil => cases h
  | cons t q =>
    have h : (if t.kind = k then PR.ok t.text q else PR.bad t.line) = .ok x r := h
    split at h
    · rename_i hk
      injection h with h1 h2
      exact ⟨t, by rw [h2], hk, h1.symm⟩
    · cases h
theorem takeM_eq {c : UInt8} {l : List Tok} {x : Unit} {r : List Tok} (h : takeM c l = .ok x r) : ∃ t, l = t :: r ∧ isMark c t = true := by
  cases l with
  | nil => cases h
  | cons t q =>
    have h : (if isMark c t = true then PR.ok () q else PR.bad t.line) = .ok x r := h
    split at h
    · rename_i hk
      injection h with h1 h2
      exact ⟨t, by rw [h2], hk⟩
    · cases h
theorem takeE_eq {l : List Tok} {x : Unit} {r : List Tok} (h : takeE l = .ok x r) : ∃ t, l = t :: r := by
  cases l with
  | nil => cases h
  | cons t q =>
    simp only [takeE] at h
    split at h
    · injection h with h1 h2
      exact ⟨t, by rw [h2]⟩
    · cases h
/-- The rest of good tokens is good. -/
theorem good_tail {t : Tok} {r : List Tok} (h : ∀ u ∈ t :: r, GoodT u) : GoodT t ∧ ∀ u ∈ r, GoodT u := ⟨h t (List.mem_cons_self ..), fun u hu => h u (List.mem_cons_of_mem _ hu)⟩
theorem esc_len (l : List UInt8) : (l.flatMap fun c => if escB c then [92, c] else [c]).length ≤ 2 * l.length := by
  induction l with
  | nil => exact Nat.le_refl _
  | cons c l ih =>
    rw [List.flatMap_cons, List.length_append, List.length_cons]
    have : (if escB c then [92, c] else [c]).length ≤ 2 := by split <;> simp
    omega
theorem quoP_len (l : List UInt8) : (quoP l).length ≤ 2 * l.length + 2 := by
  unfold quoP
  have := esc_len l
  simp only [List.length_append, List.length_cons, List.length_nil]
  omega
theorem valP_len (v : List UInt8) : (valP v).length ≤ 2 * v.length + 2 := by
  unfold valP
  split
  · omega
  · exact quoP_len v
theorem head_part {a b : List UInt8} (ha : numB a = true) : headF (a ++ 47 :: b) = a ∧ restF (a ++ 47 :: b) = b := by
  have h := all_not47 (num_all ha)
  have hh : ∀ a : List UInt8, (∀ x ∈ a, x.toNat ≠ 47) → headF (a ++ 47 :: b) = a ∧ restF (a ++ 47 :: b) = b := by
    intro a
    induction a with
    | nil => intro _; simp [headF, restF]
    | cons c a ih =>
      intro h
      have h1 := h c (List.mem_cons_self ..)
      obtain ⟨i1, i2⟩ := ih fun x hx => h x (List.mem_cons_of_mem _ hx)
      have e1 : headF (c :: a ++ 47 :: b) = c :: headF (a ++ 47 :: b) := by simp [headF, h1]
      have e2 : restF (c :: a ++ 47 :: b) = restF (a ++ 47 :: b) := by simp [restF, h1]
      rw [e1, e2, i1, i2]
      exact ⟨rfl, rfl⟩
  exact hh a h
theorem frac_bare {a b : List UInt8} (ha : numB a = true) (hb : numB b = true) : bareB (a ++ 47 :: b) = true := by
  obtain ⟨h1, h2⟩ := head_part (b := b) ha
  unfold bareB
  rw [if_pos (by rw [List.any_append, List.any_cons]; simp)]
  unfold headF at h1
  unfold restF at h2
  rw [h1, h2, ha, hb]
  rfl
theorem valueP_ok {l : List Tok} {v : List UInt8} {r : List Tok} (hg : ∀ t ∈ l, GoodT t) (h : valueP l = .ok v r) : valOk v = true ∧ (valP v).length + 2 + wgt r ≤ wgt l ∧ ∀ t ∈ r, GoodT t := by
  unfold valueP at h
  split at h
  · obtain ⟨t, rfl, hk, rfl⟩ := takeK_eq h
    obtain ⟨g1, g2⟩ := good_tail hg
    have := valP_len t.text
    exact ⟨by unfold valOk; rw [bare_word (g1.word hk)]; rfl, by rw [wgt]; omega, g2⟩
  · split at h
    · obtain ⟨t, rfl, hk, rfl⟩ := takeK_eq h
      obtain ⟨g1, g2⟩ := good_tail hg
      have := valP_len t.text
      exact ⟨by unfold valOk; rw [g1.str hk]; simp, by rw [wgt]; omega, g2⟩
    · obtain ⟨a, q, h1, h2⟩ := PR.bind_eq h
      obtain ⟨t, rfl, hk, rfl⟩ := takeK_eq h1
      obtain ⟨g1, g2⟩ := good_tail hg
      have hn := g1.num hk
      split at h2
      · rename_i hm
        cases q with
        | nil => cases hm
        | cons m q2 =>
          obtain ⟨b, q3, h3, h4⟩ := PR.bind_eq h2
          rw [List.drop_succ_cons, List.drop_zero] at h3
          obtain ⟨u, rfl, hk2, rfl⟩ := takeK_eq h3
          injection h4 with h4 h5
          subst h4 h5
          have g3 := (good_tail g2).2
          have hb := frac_bare hn ((good_tail g3).1.num hk2)
          refine ⟨by unfold valOk; rw [hb]; rfl, ?_, (good_tail g3).2⟩
          rw [valP_bare hb, wgt, wgt, wgt]
          simp only [List.length_append, List.length_cons]
          omega
      · injection h2 with h4 h5
        subst h4 h5
        have := valP_len t.text
        exact ⟨by unfold valOk; rw [bare_num hn]; rfl, by rw [wgt]; omega, g2⟩
def moreLen : List (List UInt8) → Nat
  | [] => 0
  | v :: r => 2 + (valP v).length + moreLen r
theorem valsP_len : ∀ (v : List UInt8) (r : List (List UInt8)), (valsP (v :: r)).length = 1 + (valP v).length + moreLen r
  | v, [] => by
    show (32 :: valP v).length = _
    simp [moreLen]
    omega
  | v, w :: r => by
    show (32 :: valP v ++ 44 :: valsP (w :: r)).length = _
    rw [List.length_append, List.length_cons, List.length_cons, valsP_len w r, moreLen]
    omega
theorem moreP_ok : ∀ (k : Nat) {l : List Tok} {vs : List (List UInt8)} {r : List Tok} (_ : ∀ t ∈ l, GoodT t) (_ : moreP k l = .ok vs r), vs.all valOk = true ∧ moreLen vs + wgt r ≤ wgt l ∧ ∀ t ∈ r, GoodT t
  | 0, l, vs, r, hg, h => by
    injection h with h1 h2
    subst h1 h2
    exact ⟨rfl, by rw [moreLen]; omega, hg⟩
  | k + 1, l, vs, r, hg, h => by
    rw [moreP] at h
    split at h
    · rename_i hm
      cases l with
      | nil => cases hm
      | cons m q =>
        rw [List.drop_succ_cons, List.drop_zero] at h
        obtain ⟨v, q2, h1, h2⟩ := PR.bind_eq h
        obtain ⟨vs2, q3, h3, h4⟩ := PR.bind_eq h2
        injection h4 with h4 h5
        subst h4 h5
        obtain ⟨a1, a2, a3⟩ := valueP_ok (good_tail hg).2 h1
        obtain ⟨b1, b2, b3⟩ := moreP_ok k a3 h3
        refine ⟨by rw [List.all_cons, a1, b1]; rfl, ?_, b3⟩
        rw [moreLen, wgt]
        omega
    · injection h with h1 h2
      subst h1 h2
      exact ⟨rfl, by rw [moreLen]; omega, hg⟩
theorem fieldP_ok {l : List Tok} {f : Fld} {r : List Tok} (hg : ∀ t ∈ l, GoodT t) (h : fieldP l = .ok f r) : fldOk f = true ∧ (fldP f).length + wgt r ≤ wgt l ∧ ∀ t ∈ r, GoodT t := by
  obtain ⟨key, q1, h1, h⟩ := PR.bind_eq h
  obtain ⟨v, q2, h2, h⟩ := PR.bind_eq h
  obtain ⟨vs, q3, h3, h⟩ := PR.bind_eq h
  obtain ⟨u, q4, h4, h⟩ := PR.bind_eq h
  injection h with h5 h6
  subst h5 h6
  obtain ⟨t, rfl, hk, rfl⟩ := takeK_eq h1
  obtain ⟨g1, g2⟩ := good_tail hg
  obtain ⟨a1, a2, a3⟩ := valueP_ok g2 h2
  obtain ⟨b1, b2, b3⟩ := moreP_ok _ a3 h3
  obtain ⟨m, rfl, _⟩ := takeM_eq h4
  refine ⟨?_, ?_, (good_tail b3).2⟩
  · unfold fldOk
    simp only [g1.word hk, List.all_cons, a1, b1]
    rfl
  · unfold fldP
    simp only [List.length_append, valsP_len, List.length_cons, List.length_nil]
    rw [wgt] at b2 ⊢
    omega
def fldsLen (fs : List Fld) : Nat := (fs.flatMap fldP).length
theorem fldsLen_cons (f : Fld) (fs : List Fld) : fldsLen (f :: fs) = (fldP f).length + fldsLen fs := by unfold fldsLen; rw [List.flatMap_cons, List.length_append]
theorem fieldsP_ok : ∀ (k : Nat) {l : List Tok} {fs : List Fld} {r : List Tok} (_ : ∀ t ∈ l, GoodT t) (_ : fieldsP k l = .ok fs r), fs.all fldOk = true ∧ fldsLen fs + wgt r ≤ wgt l ∧ ∀ t ∈ r, GoodT t
  | 0, l, fs, r, hg, h => by
    injection h with h1 h2
    subst h1 h2
    exact ⟨rfl, by simp [fldsLen], hg⟩
  | k + 1, l, fs, r, hg, h => by
    rw [fieldsP] at h
    split at h
    · injection h with h1 h2
      subst h1 h2
      exact ⟨rfl, by simp [fldsLen], hg⟩
    · obtain ⟨f, q, h1, h⟩ := PR.bind_eq h
      obtain ⟨fs2, q2, h2, h⟩ := PR.bind_eq h
      injection h with h5 h6
      subst h5 h6
      obtain ⟨a1, a2, a3⟩ := fieldP_ok hg h1
      obtain ⟨b1, b2, b3⟩ := fieldsP_ok k a3 h2
      exact ⟨by rw [List.all_cons, a1, b1]; rfl, by rw [fldsLen_cons]; omega, b3⟩
theorem nameR_ok {l : List Tok} {n : List UInt8} {r : List Tok} (hg : ∀ t ∈ l, GoodT t) (h : nameR l = .ok n r) : (decide (n = []) || wordB n) = true ∧ (nameP n).length + wgt r ≤ wgt l ∧ ∀ t ∈ r, GoodT t := by
  unfold nameR at h
  split at h
  · obtain ⟨t, rfl, hk, rfl⟩ := takeK_eq h
    obtain ⟨g1, g2⟩ := good_tail hg
    refine ⟨by rw [g1.word hk]; simp, ?_, g2⟩
    rw [wgt]
    unfold nameP
    split
    · simp
    · rw [List.length_cons]; omega
  · injection h with h1 h2
    subst h1 h2
    exact ⟨rfl, by simp [nameP], hg⟩
theorem blockP_ok {l : List Tok} {b : Blc} {r : List Tok} (hg : ∀ t ∈ l, GoodT t) (h : blockP l = .ok b r) : blkOk b = true ∧ (blkP b).length + wgt r ≤ wgt l ∧ ∀ t ∈ r, GoodT t := by
  obtain ⟨kind, q1, h1, h⟩ := PR.bind_eq h
  obtain ⟨name, q2, h2, h⟩ := PR.bind_eq h
  obtain ⟨u, q3, h3, h⟩ := PR.bind_eq h
  obtain ⟨fs, q4, h4, h⟩ := PR.bind_eq h
  obtain ⟨u2, q5, h5, h⟩ := PR.bind_eq h
  injection h with h6 h7
  subst h6 h7
  obtain ⟨t, rfl, hk, rfl⟩ := takeK_eq h1
  obtain ⟨g1, g2⟩ := good_tail hg
  obtain ⟨a1, a2, a3⟩ := nameR_ok g2 h2
  obtain ⟨m, rfl, _⟩ := takeM_eq h3
  obtain ⟨b1, b2, b3⟩ := fieldsP_ok _ (good_tail a3).2 h4
  obtain ⟨m2, rfl, _⟩ := takeM_eq h5
  refine ⟨?_, ?_, (good_tail b3).2⟩
  · unfold blkOk
    simp only [g1.word hk, a1, b1]
    rfl
  · unfold blkP
    unfold fldsLen at b2
    simp only [List.length_append, List.length_cons, List.length_nil]
    rw [wgt] at a2 b2 ⊢
    omega
theorem blocksP_ok : ∀ (k : Nat) {l : List Tok} {bs : List Blc} {r : List Tok} (_ : ∀ t ∈ l, GoodT t) (_ : blocksP k l = .ok bs r), bs.all blkOk = true ∧ (bs.flatMap blkP).length + wgt r ≤ wgt l ∧ ∀ t ∈ r, GoodT t
  | 0, l, bs, r, hg, h => by
    injection h with h1 h2
    subst h1 h2
    exact ⟨rfl, by simp, hg⟩
  | k + 1, l, bs, r, hg, h => by
    rw [blocksP] at h
    split at h
    · injection h with h1 h2
      subst h1 h2
      exact ⟨rfl, by simp, hg⟩
    · obtain ⟨b, q, h1, h⟩ := PR.bind_eq h
      obtain ⟨bs2, q2, h2, h⟩ := PR.bind_eq h
      injection h with h5 h6
      subst h5 h6
      obtain ⟨a1, a2, a3⟩ := blockP_ok hg h1
      obtain ⟨b1, b2, b3⟩ := blocksP_ok k a3 h2
      exact ⟨by rw [List.all_cons, a1, b1]; rfl, by rw [List.flatMap_cons, List.length_append]; omega, b3⟩
theorem sourceP_ok {l : List Tok} {s : Src} {r : List Tok} (hg : ∀ t ∈ l, GoodT t) (h : sourceP l = .ok s r) : srcOk s = true ∧ (srcP s).length ≤ wgt l := by
  obtain ⟨u0, q0, h0, h⟩ := PR.bind_eq h
  obtain ⟨title, q1, h1, h⟩ := PR.bind_eq h
  obtain ⟨u, q3, h3, h⟩ := PR.bind_eq h
  obtain ⟨bs, q4, h4, h⟩ := PR.bind_eq h
  obtain ⟨u2, q5, h5, h⟩ := PR.bind_eq h
  obtain ⟨u3, q6, h6, h⟩ := PR.bind_eq h
  injection h with h7 h8
  subst h7
  obtain ⟨t0, rfl⟩ := takeE_eq h0
  obtain ⟨t, rfl, hk, rfl⟩ := takeK_eq h1
  have g2 := (good_tail hg).2
  obtain ⟨g3, g4⟩ := good_tail g2
  obtain ⟨m, rfl, _⟩ := takeM_eq h3
  obtain ⟨b1, b2, b3⟩ := blocksP_ok _ (good_tail g4).2 h4
  obtain ⟨m2, rfl, _⟩ := takeM_eq h5
  refine ⟨?_, ?_⟩
  · unfold srcOk
    simp only [g3.str hk, b1]
    rfl
  · have := quoP_len t.text
    unfold srcP elec
    simp only [List.length_append, List.length_cons, List.length_nil]
    rw [wgt, wgt, wgt]
    rw [wgt] at b2
    omega
/-- Whatever a text of up to 400 bytes is read as can be printed. -/
theorem canon_ok {l : List UInt8} {s : Src} (h : parseL l = .ok s) (hl : l.length ≤ 400) : srcOk s = true ∧ (srcP s).length ≤ 20000 := by
  unfold parseL at h
  cases hx : lexS l 1 with
  | err e => rw [hx] at h; cases h
  | ok ts ln =>
    rw [hx] at h
    simp only at h
    obtain ⟨g1, g2⟩ := lexS_good l.length l 1 ts ln (Nat.le_refl _) hx
    cases hy : sourceP (ts ++ [⟨5, [], ln⟩]) with
    | bad m => rw [hy] at h; cases h
    | ok s' r =>
      rw [hy] at h
      injection h with h
      subst h
      have hg : ∀ t ∈ ts ++ [(⟨5, [], ln⟩ : Tok)], GoodT t := by
        intro t ht
        rcases List.mem_append.1 ht with ht | ht
        · exact g1 t ht
        · have : t = ⟨5, [], ln⟩ := by simpa using ht
          subst this
          exact ⟨fun e => (by cases e), fun e => (by cases e), fun e => (by cases e)⟩
      obtain ⟨o1, o2⟩ := sourceP_ok hg hy
      have hw : ∀ ts : List Tok, wgt (ts ++ [(⟨5, [], ln⟩ : Tok)]) = wgt ts + 20 := by
        intro ts
        induction ts with
        | nil => rfl
        | cons t ts ih => rw [List.cons_append, wgt, wgt, ih]; omega
      rw [hw] at o2
      exact ⟨o1, by omega⟩
/-- Lines are not printed. -/
theorem fldsP_L : ∀ (fs : List Fld) (ln : Nat), (fldsL fs ln).flatMap fldP = fs.flatMap fldP
  | [], _ => rfl
  | f :: r, ln => by rw [fldsL, List.flatMap_cons, List.flatMap_cons, fldsP_L r (ln + 1)]; rfl
theorem blksP_L : ∀ (bs : List Blc) (ln : Nat), (blksL bs ln).flatMap blkP = bs.flatMap blkP
  | [], _ => rfl
  | b :: r, ln => by
    rw [blksL, List.flatMap_cons, List.flatMap_cons, blksP_L r _]
    congr 1
    show [32, 32] ++ b.kind ++ nameP b.name ++ [32, 123, 10] ++ (fldsL b.flds (ln + 1)).flatMap fldP ++ [32, 32, 125, 10] = _
    rw [fldsP_L]
    rfl
theorem srcP_L (s : Src) : srcP (srcL s) = srcP s := by
  unfold srcP srcL
  rw [blksP_L]
end Go.Proofs.Ytfknckbclddnmaa.Lx
