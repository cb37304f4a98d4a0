/-
  Blocks and definitions that end too early; tokens of the same shape are read alike; a text that ends inside a definition. No program, no world.
-/
import Derived.Test.YtfknckbclddnmaaSynTrunc
namespace Go.Proofs.Ytfknckbclddnmaa.Lx

def fieldsA (l : List Tok) : PR (List Fld) := untilP fieldP (l.length + 1) l
theorem fields_any {l : List Tok} {k : Nat} (h : l.length < k) : fieldsA l = untilP fieldP k l := until_fuel (fun _ _ _ h => field_lt h) l.length l _ _ (Nat.le_refl _) (Nat.lt_succ_self _) h
theorem mono_fieldsA : Mono fieldsA := fun l => mono_until mono_field (l.length + 1) l
theorem fieldsA_en (m : Nat) : fieldsA [En m] = .bad m := until_en (field_en m) 1
theorem tr_fieldsA (m : Nat) : Tr m fieldsA := by
  intro pre rest a r h
  have e1 : fieldsA (pre ++ rest) = untilP fieldP (pre.length + rest.length + 2) (pre ++ rest) := fields_any (by rw [List.length_append]; omega)
  have e2 : fieldsA (pre ++ [En m]) = untilP fieldP (pre.length + rest.length + 2) (pre ++ [En m]) := fields_any (by rw [List.length_append, List.length_cons, List.length_nil]; omega)
  rw [e1] at h
  rw [e2]
  exact tr_until (trS_field m).tr mono_field (field_en m) _ pre rest a r h
theorem mono_name : Mono nameR := mono_ite (mono_takeK 1) (mono_ok [])
theorem name_en (m : Nat) : nameR [En m] = .ok [] [En m] := rfl
theorem tr_name (m : Nat) : Tr m nameR := tr_ite (atKind_head 1) (trS_takeK (by decide)).tr.one (tr_ok []).one (mono_takeK 1) (mono_ok []) (Or.inr ⟨[], rfl⟩)
def blockQ (n : Nat) (l : List Tok) : PR Blc :=
  (takeK 1 l).bind fun kind r => (nameR r).bind fun name r2 => (takeM 123 r2).bind fun _ r3 => (fieldsA r3).bind fun fs r4 => (takeM 125 r4).bind fun _ r5 => .ok ⟨kind, name, fs, n⟩ r5
theorem blockP_Q (l : List Tok) : blockP l = blockQ (lineP l) l := by
  unfold blockP blockQ fieldsA
  simp only [fieldsP_until]
theorem mono_b4 (kind name : List UInt8) (fs : List Fld) (n : Nat) : Mono fun r4 => (takeM 125 r4).bind fun _ r5 => PR.ok (⟨kind, name, fs, n⟩ : Blc) r5 := mono_bind (mono_takeM 125) fun _ => mono_ok _
theorem mono_b3 (kind name : List UInt8) (n : Nat) : Mono fun r3 => (fieldsA r3).bind fun fs r4 => (takeM 125 r4).bind fun _ r5 => PR.ok (⟨kind, name, fs, n⟩ : Blc) r5 := mono_bind mono_fieldsA fun fs => mono_b4 kind name fs n
theorem mono_b2 (kind name : List UInt8) (n : Nat) : Mono fun r2 => (takeM 123 r2).bind fun _ r3 => (fieldsA r3).bind fun fs r4 => (takeM 125 r4).bind fun _ r5 => PR.ok (⟨kind, name, fs, n⟩ : Blc) r5 := mono_bind (mono_takeM 123) fun _ => mono_b3 kind name n
theorem mono_b1 (kind : List UInt8) (n : Nat) : Mono fun r => (nameR r).bind fun name r2 => (takeM 123 r2).bind fun _ r3 => (fieldsA r3).bind fun fs r4 => (takeM 125 r4).bind fun _ r5 => PR.ok (⟨kind, name, fs, n⟩ : Blc) r5 := mono_bind mono_name fun name => mono_b2 kind name n
theorem mono_blockQ (n : Nat) : Mono (blockQ n) := mono_bind (mono_takeK 1) fun kind => mono_b1 kind n
theorem mono_block : Mono blockP := fun l => by rw [blockP_Q]; exact mono_blockQ (lineP l) l
theorem block_en (m : Nat) : blockP [En m] = .bad m := rfl
theorem trS_blockQ (n m : Nat) : TrS m (blockQ n) :=
  trS_bind (trS_takeK (by decide)).tr (fun kind => trS_bind (tr_name m) (fun name => trS_bind trS_takeM.tr (fun _ => trS_bind (tr_fieldsA m) (fun fs => trS_last trS_takeM (fun _ => ⟨kind, name, fs, n⟩) fun _ _ => rfl) (fun fs => mono_b4 kind name fs n) fun fs => by show (takeM 125 [En m]).bind _ = _; rw [takeM_en]; rfl) (fun _ => mono_b3 kind name n) fun _ => by show (fieldsA [En m]).bind _ = _; rw [fieldsA_en]; rfl) (fun name => mono_b2 kind name n) fun name => by show (takeM 123 [En m]).bind _ = _; rw [takeM_en]; rfl) (fun kind => mono_b1 kind n) fun kind => by show (nameR [En m]).bind _ = _; rw [name_en, PR.bind_ok, takeM_en]; rfl
theorem trS_block (m : Nat) : TrS m blockP := trS_line blockP_Q (fun n => trS_blockQ n m) mono_block (block_en m)
theorem block_lt {l : List Tok} {b : Blc} {r : List Tok} (h : blockP l = .ok b r) : r.length < l.length := by
  rw [blockP_Q] at h
  obtain ⟨kind, q1, h1, h⟩ := PR.bind_eq h
  obtain ⟨t, rfl, _⟩ := takeK_eq h1
  have := mono_b1 kind _ q1 b r h
  rw [List.length_cons]; omega
def blocksA (l : List Tok) : PR (List Blc) := untilP blockP (l.length + 1) l
theorem blocks_any {l : List Tok} {k : Nat} (h : l.length < k) : blocksA l = untilP blockP k l := until_fuel (fun _ _ _ h => block_lt h) l.length l _ _ (Nat.le_refl _) (Nat.lt_succ_self _) h
theorem mono_blocksA : Mono blocksA := fun l => mono_until mono_block (l.length + 1) l
theorem blocksA_en (m : Nat) : blocksA [En m] = .bad m := until_en (block_en m) 1
theorem tr_blocksA (m : Nat) : Tr m blocksA := by
  intro pre rest a r h
  have e1 : blocksA (pre ++ rest) = untilP blockP (pre.length + rest.length + 2) (pre ++ rest) := blocks_any (by rw [List.length_append]; omega)
  have e2 : blocksA (pre ++ [En m]) = untilP blockP (pre.length + rest.length + 2) (pre ++ [En m]) := blocks_any (by rw [List.length_append, List.length_cons, List.length_nil]; omega)
  rw [e1] at h
  rw [e2]
  exact tr_until (trS_block m).tr mono_block (block_en m) _ pre rest a r h
/-- What stands behind the word 'election', up to the last brace. -/
def bodyP (l : List Tok) : PR Src :=
  (takeK 3 l).bind fun title r2 => (takeM 123 r2).bind fun _ r3 => (blocksA r3).bind fun bs r4 => (takeM 125 r4).bind fun _ r5 => .ok ⟨title, bs⟩ r5
theorem sourceP_body (l : List Tok) : sourceP l = (takeE l).bind fun _ r => (bodyP r).bind fun s r5 => (takeK 5 r5).bind fun _ r6 => .ok s r6 := by
  unfold sourceP bodyP blocksA
  simp only [blocksP_until]
  cases takeE l with
  | bad e => rfl
  | ok u r =>
    simp only [PR.bind_ok]
    cases takeK 3 r with
    | bad e => rfl
    | ok title r2 =>
      simp only [PR.bind_ok]
      cases takeM 123 r2 with
      | bad e => rfl
      | ok u r3 =>
        simp only [PR.bind_ok]
        cases untilP blockP (r3.length + 1) r3 with
        | bad e => rfl
        | ok bs r4 =>
          simp only [PR.bind_ok]
          cases takeM 125 r4 with
          | bad e => rfl
          | ok u r5 => rfl
theorem trS_body (m : Nat) : TrS m bodyP :=
  trS_bind (trS_takeK (by decide)).tr (fun title => trS_bind trS_takeM.tr (fun _ => trS_bind (tr_blocksA m) (fun bs => trS_last trS_takeM (fun _ => ⟨title, bs⟩) fun _ _ => rfl) (fun bs => mono_bind (mono_takeM 125) fun _ => mono_ok _) fun bs => by show (takeM 125 [En m]).bind _ = _; rw [takeM_en]; rfl) (fun _ => mono_bind mono_blocksA fun bs => mono_bind (mono_takeM 125) fun _ => mono_ok _) fun _ => by show (blocksA [En m]).bind _ = _; rw [blocksA_en]; rfl) (fun _ => mono_bind (mono_takeM 123) fun _ => mono_bind mono_blocksA fun bs => mono_bind (mono_takeM 125) fun _ => mono_ok _) fun title => by show (takeM 123 [En m]).bind _ = _; rw [takeM_en]; rfl

/-! Tokens of the same shape. -/
def ShT (t u : Tok) : Prop := t.kind = u.kind ∧ (t.kind = 4 → t.text = u.text)
inductive Sh : List Tok → List Tok → Prop
  | nil : Sh [] []
  | cons {t u : Tok} {l k : List Tok} : ShT t u → Sh l k → Sh (t :: l) (u :: k)
theorem ShT.refl (t : Tok) : ShT t t := ⟨rfl, fun _ => rfl⟩
theorem Sh.refl : ∀ l, Sh l l
  | [] => .nil
  | t :: l => .cons (ShT.refl t) (Sh.refl l)
theorem Sh.len {l k : List Tok} (h : Sh l k) : l.length = k.length := by
  induction h with
  | nil => rfl
  | cons _ _ ih => rw [List.length_cons, List.length_cons, ih]
theorem Sh.app {l k x y : List Tok} (h : Sh l k) (h2 : Sh x y) : Sh (l ++ x) (k ++ y) := by
  induction h with
  | nil => exact h2
  | cons ht _ ih => exact .cons ht ih
theorem ShT.mark {t u : Tok} (h : ShT t u) (c : UInt8) : isMark c t = isMark c u := by
  unfold isMark
  rw [← h.1]
  by_cases h4 : t.kind = 4
  · rw [h.2 h4]
  · rw [decide_eq_false h4]; rfl
theorem Sh.atMark {l k : List Tok} (h : Sh l k) (c : UInt8) : atMark c l = Lx.atMark c k := by
  cases h with
  | nil => rfl
  | cons ht _ => exact ht.mark c
theorem Sh.atKind {l k : List Tok} (h : Sh l k) (c : Nat) : atKind c l = Lx.atKind c k := by
  cases h with
  | nil => rfl
  | cons ht _ =>
    show decide _ = decide _
    rw [ht.1]
theorem Sh.drop {l k : List Tok} (h : Sh l k) : Sh (l.drop 1) (k.drop 1) := by
  cases h with
  | nil => exact .nil
  | cons _ h => exact h
/-- Two readings that go alike over tokens of the same shape. -/
def R2 {α β : Type} (p : List Tok → PR α) (q : List Tok → PR β) : Prop := ∀ l k a r, Sh l k → p l = .ok a r → ∃ b s, q k = .ok b s ∧ Sh r s
theorem r_ok {α β : Type} (a : α) (b : β) : R2 (fun l => PR.ok a l) (fun l => PR.ok b l) := fun l k c r hs h => by
  injection h with _ h
  exact ⟨b, k, rfl, h ▸ hs⟩
theorem r_bind {α β γ δ : Type} {p : List Tok → PR α} {q : List Tok → PR β} {f : α → List Tok → PR γ} {g : β → List Tok → PR δ} (hp : R2 p q) (hf : ∀ a b, R2 (f a) (g b)) : R2 (fun l => (p l).bind f) (fun l => (q l).bind g) := fun l k c r hs h => by
  obtain ⟨a, x, h1, h2⟩ := PR.bind_eq h
  obtain ⟨b, y, h3, h4⟩ := hp l k a x hs h1
  obtain ⟨d, z, h5, h6⟩ := hf a b x y c r h4 h2
  exact ⟨d, z, by simp only [h3, PR.bind_ok, h5], h6⟩
theorem r_ite {α β : Type} {b : List Tok → Bool} {p p2 : List Tok → PR α} {q q2 : List Tok → PR β} (hb : ∀ l k, Sh l k → b l = b k) (hp : R2 p q) (hq : R2 p2 q2) : R2 (fun l => if b l then p l else p2 l) (fun l => if b l then q l else q2 l) := fun l k c r hs h => by
  simp only at h ⊢
  rw [← hb l k hs]
  split at h
  · rename_i hbl
    rw [if_pos hbl]
    exact hp l k c r hs h
  · rename_i hbl
    rw [if_neg hbl]
    exact hq l k c r hs h
theorem r_drop {α β : Type} {p : List Tok → PR α} {q : List Tok → PR β} (h : R2 p q) : R2 (fun l => p (l.drop 1)) (fun l => q (l.drop 1)) := fun _ _ c r hs e => h _ _ c r hs.drop e
theorem r_takeK (k : Nat) : R2 (takeK k) (takeK k) := fun l l2 c r hs h => by
  obtain ⟨t, rfl, hk, rfl⟩ := takeK_eq h
  cases hs with
  | @cons _ u _ x ht hr =>
    refine ⟨u.text, x, ?_, hr⟩
    show (if u.kind = k then _ else _) = _
    rw [if_pos (ht.1 ▸ hk)]
theorem r_takeM (c : UInt8) : R2 (takeM c) (takeM c) := fun l l2 a r hs h => by
  obtain ⟨t, rfl, hk⟩ := takeM_eq h
  cases hs with
  | @cons _ u _ x ht hr =>
    refine ⟨(), x, ?_, hr⟩
    show (if isMark c u = true then _ else _) = _
    rw [if_pos (by rw [← ht.mark]; exact hk)]
theorem r_frac (a b : List UInt8) : R2 (fracP a) (fracP b) := r_ite (fun _ _ h => h.atMark 47) (r_drop (p := fun l => (takeK 2 l).bind fun x r2 => PR.ok (a ++ 47 :: x) r2) (q := fun l => (takeK 2 l).bind fun x r2 => PR.ok (b ++ 47 :: x) r2) (r_bind (r_takeK 2) fun _ _ => r_ok _ _)) (r_ok a b)
theorem r_value : R2 valueP valueP := r_ite (fun _ _ h => h.atKind 1) (r_takeK 1) (r_ite (fun _ _ h => h.atKind 3) (r_takeK 3) (r_bind (r_takeK 2) r_frac))
theorem r_more : ∀ k, R2 (moreP k) (moreP k)
  | 0 => r_ok [] []
  | k + 1 => r_ite (fun _ _ h => h.atMark 44) (r_drop (p := fun l => (valueP l).bind fun v r => (moreP k r).bind fun vs r2 => PR.ok (v :: vs) r2) (q := fun l => (valueP l).bind fun v r => (moreP k r).bind fun vs r2 => PR.ok (v :: vs) r2) (r_bind r_value fun _ _ => r_bind (r_more k) fun _ _ => r_ok _ _)) (r_ok [] [])
theorem r_moreA : R2 moreA moreA := fun l k c r hs h => by
  have := r_more l.length l k c r hs h
  unfold moreA
  rw [← hs.len]
  exact this
theorem r_fieldQ (n m : Nat) : R2 (fieldQ n) (fieldQ m) := r_bind (r_takeK 1) fun _ _ => r_bind r_value fun _ _ => r_bind r_moreA fun _ _ => r_bind (r_takeM 59) fun _ _ => r_ok _ _
theorem r_field : R2 fieldP fieldP := fun l k c r hs h => by
  rw [fieldP_Q] at h ⊢
  exact r_fieldQ _ _ l k c r hs h
theorem r_until {α : Type} {p : List Tok → PR α} (hp : R2 p p) : ∀ k, R2 (untilP p k) (untilP p k)
  | 0 => r_ok [] []
  | k + 1 => r_ite (fun _ _ h => h.atMark 125) (r_ok [] []) (r_bind hp fun _ _ => r_bind (r_until hp k) fun _ _ => r_ok _ _)
theorem r_fieldsA : R2 fieldsA fieldsA := fun l k c r hs h => by
  have := r_until r_field (l.length + 1) l k c r hs h
  unfold fieldsA
  rw [← hs.len]
  exact this
theorem r_name : R2 nameR nameR := r_ite (fun _ _ h => h.atKind 1) (r_takeK 1) (r_ok [] [])
theorem r_blockQ (n m : Nat) : R2 (blockQ n) (blockQ m) := r_bind (r_takeK 1) fun _ _ => r_bind r_name fun _ _ => r_bind (r_takeM 123) fun _ _ => r_bind r_fieldsA fun _ _ => r_bind (r_takeM 125) fun _ _ => r_ok _ _
theorem r_block : R2 blockP blockP := fun l k c r hs h => by
  rw [blockP_Q] at h ⊢
  exact r_blockQ _ _ l k c r hs h
theorem r_blocksA : R2 blocksA blocksA := fun l k c r hs h => by
  have := r_until r_block (l.length + 1) l k c r hs h
  unfold blocksA
  rw [← hs.len]
  exact this
theorem r_body : R2 bodyP bodyP := r_bind (r_takeK 3) fun _ _ => r_bind (r_takeM 123) fun _ _ => r_bind r_blocksA fun _ _ => r_bind (r_takeM 125) fun _ _ => r_ok _ _

/-! A text that ends inside a definition. -/
/-- What is read of a definition whose last tokens lack fails at the end. -/
theorem body_cut {pre rest : List Tok} {s : Src} {e : Tok} {m : Nat} (h : bodyP (pre ++ rest) = .ok s [e]) (hr : 2 ≤ rest.length) : bodyP (pre ++ [En m]) = .bad m := by
  rcases trS_body m pre rest s [e] h with ⟨pre2, h1, _⟩ | ⟨_, h2⟩
  · have := congrArg List.length h1
    rw [List.length_append] at this
    simp at this
    omega
  · exact h2
theorem body_src (s : Src) (e : Nat) (hv : ∀ b ∈ s.blks, ∀ f ∈ b.flds, f.vals ≠ []) : ∃ s2 t, bodyP (⟨3, s.title, 1⟩ :: ⟨4, [123], 1⟩ :: blksT s.blks 2 ++ [⟨4, [125], 2 + blksN s.blks⟩, ⟨5, [], e⟩]) = .ok s2 [t] := by
  have h := sourceP_src s e hv
  rw [sourceP_body] at h
  have e1 : srcT s ++ [⟨5, [], e⟩] = (⟨1, elec, 1⟩ :: (⟨3, s.title, 1⟩ :: ⟨4, [123], 1⟩ :: blksT s.blks 2 ++ [⟨4, [125], 2 + blksN s.blks⟩, ⟨5, [], e⟩]) : List Tok) := by
    unfold srcT
    simp
  rw [e1, takeE_mk, PR.bind_ok] at h
  obtain ⟨s2, r5, h1, h2⟩ := PR.bind_eq h
  obtain ⟨x, r6, h3, h4⟩ := PR.bind_eq h2
  obtain ⟨t, rfl, _⟩ := takeK_eq h3
  injection h4 with _ h4
  subst h4
  exact ⟨s2, t, h1⟩
theorem takeE_bad {x : List UInt8} {k m : Nat} (r : List Tok) (h : ¬ (k = 1 ∧ x = elec)) : takeE (⟨k, x, m⟩ :: r) = .bad m := by
  show (if k = 1 ∧ x = elec then (PR.ok () r : PR Unit) else .bad m) = _
  rw [if_neg h]
/-- What Print writes, cut ahead of the last brace: if its tokens are valid, the reading fails in the line of its end. -/
theorem cut_src {s : Src} (hs : srcOk s = true) {k : Nat} (hk : k + 2 ≤ (srcP s).length) {us : List Tok} {m : Nat} (h : lexS ((srcP s).take k) 1 = .ok us m) : sourceP (us ++ [⟨5, [], m⟩]) = .bad m := by
  have hs' := hs
  unfold srcOk at hs
  rw [Bool.and_eq_true] at hs
  obtain ⟨P0, hP0⟩ : ∃ P, P = elec ++ 32 :: (quoP s.title ++ 32 :: 123 :: 10 :: (s.blks.flatMap blkP ++ [])) := ⟨_, rfl⟩
  have hP : srcP s = P0 ++ [125, 10] := by rw [hP0]; unfold srcP; simp
  have h0 : lexS P0 1 = .ok (⟨1, elec, 1⟩ :: ⟨3, s.title, 1⟩ :: ⟨4, [123], 1⟩ :: blksT s.blks 2) (2 + blksN s.blks) := by
    rw [hP0, lexS_word _ 1 (by decide) (by decide), lexS_sp, lexS_str _ 1 hs.1, lexS_sp, lexS_mark _ 1 (by decide), lexS_lf, lexS_blks _ s.blks 2 hs.2, lexS_nil]
    simp [Res.app, Res.cons]
  have hk' : k ≤ P0.length := by
    rw [hP, List.length_append] at hk
    simp at hk
    exact hk
  rw [hP, List.take_append_of_le_length hk'] at h
  rw [← List.take_append_drop k P0] at h0
  have hH := lexS_head (P0.drop k) _ (P0.take k) 1 us _ m _ (Nat.le_refl _) h h0
  obtain ⟨s2, t2, hb⟩ := body_src s 0 (src_vals hs')
  rw [sourceP_body]
  have hEn : (⟨5, [], m⟩ : Tok) = En m := rfl
  rw [hEn]
  rcases hH with ⟨rest, hr⟩ | ⟨us', kk, x, y, rest, rfl, hr, _, hxy⟩
  · cases us with
    | nil =>
      show (takeE [⟨5, [], m⟩]).bind _ = _
      rw [takeE_bad _ (by simp)]
      rfl
    | cons t us =>
      rw [List.cons_append] at hr
      injection hr with h1 h2
      subst h1
      rw [List.cons_append, takeE_mk, PR.bind_ok]
      have hb2 : bodyP (us ++ (rest ++ [⟨4, [125], 2 + blksN s.blks⟩, ⟨5, [], 0⟩])) = .ok s2 [t2] := by
        rw [← hb, ← List.append_assoc, ← h2]
      rw [body_cut hb2 (by rw [List.length_append]; simp), PR.bind_bad]
  · cases us' with
    | nil =>
      rw [List.nil_append] at hr
      injection hr with h1 h2
      injection h1 with h1 h3 h4
      show (takeE (⟨kk, x, m⟩ :: [En m])).bind _ = _
      rw [takeE_bad _ (fun e => hxy (e.2.trans h3))]
      rfl
    | cons t us' =>
      rw [List.cons_append] at hr
      injection hr with h1 h2
      subst h1
      rw [List.cons_append, List.cons_append, takeE_mk, PR.bind_ok]
      have hb2 : bodyP (us' ++ ⟨kk, y, m⟩ :: (rest ++ [⟨4, [125], 2 + blksN s.blks⟩, ⟨5, [], 0⟩])) = .ok s2 [t2] := by
        rw [← hb, show us' ++ ⟨kk, y, m⟩ :: (rest ++ [⟨4, [125], 2 + blksN s.blks⟩, ⟨5, [], 0⟩]) = (us' ++ ⟨kk, y, m⟩ :: rest) ++ [⟨4, [125], 2 + blksN s.blks⟩, ⟨5, [], 0⟩] by simp, ← h2]
      have hne : kk ≠ 4 := by rename_i hkk; omega
      obtain ⟨s3, r3, h3, h4⟩ := r_body (us' ++ ⟨kk, y, m⟩ :: (rest ++ [⟨4, [125], 2 + blksN s.blks⟩, ⟨5, [], 0⟩])) (us' ++ ⟨kk, x, m⟩ :: (rest ++ [⟨4, [125], 2 + blksN s.blks⟩, ⟨5, [], 0⟩])) s2 [t2] ((Sh.refl us').app (.cons ⟨rfl, fun e => absurd e hne⟩ (Sh.refl _))) hb2
      cases h4 with
      | @cons _ u _ z _ hz =>
        cases hz
        have h5 : bodyP ((us' ++ [⟨kk, x, m⟩]) ++ (rest ++ [⟨4, [125], 2 + blksN s.blks⟩, ⟨5, [], 0⟩])) = .ok s3 [u] := by
          rw [← h3]; simp
        rw [body_cut h5 (by rw [List.length_append]; simp), PR.bind_bad]
end Go.Proofs.Ytfknckbclddnmaa.Lx
