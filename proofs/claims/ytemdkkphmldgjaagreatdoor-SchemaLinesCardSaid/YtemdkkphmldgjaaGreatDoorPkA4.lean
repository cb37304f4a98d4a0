/-
  Texts of the proof, put together: SynCanon SynCut SynTrunc SynShape SynRdMath SynRd SynAt SynTake SynPs SynFs.
-/
import Derived.Deep.RegionHeld3
import Derived.Deep.QuietTactic
import Derived.BigQuiet
import Derived.Test.YtemdkkphmldgjaaGreatDoorPkA3
set_option maxRecDepth 100000
set_option maxHeartbeats 3200000
namespace Go.Proofs.YtemdkkphmldgjaaGreatDoor.Lx
structure GoodT (t : Tok) : Prop where
 word : t.kind = 1 -> wordB t.text = true
 num : t.kind = 2 -> numB t.text = true
 str : t.kind = 3 -> t.text.all plainB = true
theorem strS_plain (l : List UInt8) : ∀ x, strS l = some x -> x.1.all plainB = true /\ x.1.length <= x.2 := by
 induction l using strS.induct with
 | case1 => intro x h; simp [strS] at h
 | case2 c r h => intro x h'; rw [strS_cons, if_pos h] at h'; injection h' with h'; subst h'; exact ⟨rfl, Nat.zero_le _⟩
 | case3 c h1 h2 h3 => intro x h; rw [strS_cons, if_neg h1, if_pos h2, if_pos h3] at h; cases h
 | case4 c h1 h2 h3 d q h4 ih =>
  intro x h
  rw [strS_cons, if_neg h1, if_pos h2, if_pos h3] at h
  simp only [if_pos h4] at h
  obtain ⟨y, hy, rfl⟩ := Option.map_eq_some_iff.1 h
  obtain ⟨p1, p2⟩ := ih y hy
  have hd : plainB d = true := by
   simp only [escB, Bool.or_eq_true, decide_eq_true_eq] at h4
   rcases h4 with h4 | h4 <;> simp [plainB, h4]
  refine ⟨by rw [List.all_cons, hd, p1]; rfl, ?_⟩
  simp only [List.length_cons]
  omega
 | case5 c h1 h2 h3 d q h4 => intro x h; rw [strS_cons, if_neg h1, if_pos h2, if_pos h3] at h; simp only [if_neg h4] at h; cases h
 | case6 c r h1 h2 h3 ih =>
  intro x h
  rw [strS_cons, if_neg h1, if_pos h2, if_neg h3] at h
  obtain ⟨y, hy, rfl⟩ := Option.map_eq_some_iff.1 h
  obtain ⟨p1, p2⟩ := ih y hy
  refine ⟨by rw [List.all_cons, h2, p1]; rfl, ?_⟩
  simp only [List.length_cons]
  omega
 | case7 c r h1 h2 => intro x h; rw [strS_cons, if_neg h1, if_neg h2] at h; cases h
theorem oneS_good (l : List UInt8) (x : Nat × List UInt8 × Nat) (ln : Nat) (h : oneS l = some x) : GoodT ⟨x.1, x.2.1, ln⟩ /\ x.2.1.length <= x.2.2 := by
 unfold oneS at h
 split at h
 . rename_i hw
   injection h with h; subst h
   exact ⟨⟨fun _ => hw, fun e => (by cases e), fun e => (by cases e)⟩, Nat.le_refl _⟩
 . split at h
   . rename_i hw
     injection h with h; subst h
     exact ⟨⟨fun e => (by cases e), fun _ => hw, fun e => (by cases e)⟩, Nat.le_refl _⟩
   . cases l with
     | nil => cases h
     | cons c r =>
      simp only at h
      split at h
      . injection h with h; subst h
        exact ⟨⟨fun e => (by cases e), fun e => (by cases e), fun e => (by cases e)⟩, Nat.le_refl _⟩
      . split at h
        . obtain ⟨y, hy, rfl⟩ := Option.map_eq_some_iff.1 h
          obtain ⟨p1, p2⟩ := strS_plain r y hy
          exact ⟨⟨fun e => (by cases e), fun e => (by cases e), fun _ => p1⟩, Nat.le_succ_of_le p2⟩
        . cases h
def wgt : List Tok -> Nat
  | [] => 0
  | t :: r => 2 * t.text.length + 20 + wgt r
theorem lexS_good : ∀ (n : Nat) (l : List UInt8) (ln : Nat) (ts : List Tok) (m : Nat), l.length <= n -> lexS l ln = .ok ts m -> (∀ t ∈ ts, GoodT t) /\ wgt ts <= 40 * l.length
  | n, [], ln, ts, m, _, h => by
   rw [lexS_nil] at h
   injection h with h _
   subst h
   exact ⟨fun t ht => (by cases ht), Nat.zero_le _⟩
  | 0, c :: r, _, _, _, hn, _ => absurd hn (by simp)
  | n + 1, c :: r, ln, ts, m, hn, h => by
   have hr : r.length <= n := by simpa using hn
   rw [lexS_cons] at h
   split at h
   . have hd := drop_while_len notNl r
     obtain ⟨g1, g2⟩ := lexS_good n _ ln ts m (Nat.le_trans hd hr) h
     exact ⟨g1, by rw [List.length_cons]; omega⟩
   . split at h
     . obtain ⟨g1, g2⟩ := lexS_good n _ _ ts m hr h
       exact ⟨g1, by rw [List.length_cons]; omega⟩
     . cases hx : oneS (c :: r) with
       | none => rw [hx] at h; cases h
       | some x =>
        rw [hx] at h
        simp only at h
        have hp := oneS_pos _ _ hx
        have hl := oneS_len c r x hx
        obtain ⟨o1, o2⟩ := oneS_good _ x ln hx
        cases hy : lexS (r.drop (x.2.2 - 1)) ln with
        | err e => rw [hy] at h; cases h
        | ok us e =>
         rw [hy] at h
         injection h with h _
         obtain ⟨g1, g2⟩ := lexS_good n _ ln us e (by rw [List.length_drop]; omega) hy
         rw [List.length_drop] at g2
         rw [List.length_cons] at hl
         subst h
         refine ⟨fun t ht => ?_, ?_⟩
         . rcases List.mem_cons.1 ht with rfl | ht
           . exact o1
           . exact g1 t ht
         . rw [wgt, List.length_cons]
           simp only
           omega
theorem PR.bind_eq {α β : Type} {p : PR α} {f : α -> List Tok -> PR β} {b : β} {r : List Tok} (h : p.bind f = .ok b r) : ∃ a q, p = .ok a q /\ f a q = .ok b r := by
 cases p with
 | ok a q => exact ⟨a, q, rfl, h⟩
 | bad ln => cases h
theorem takeK_eq {k : Nat} {l : List Tok} {x : List UInt8} {r : List Tok} (h : takeK k l = .ok x r) : ∃ t, l = t :: r /\ t.kind = k /\ x = t.text := by
 cases l with
 | nil => cases h
 | cons t q =>
  have h : (if t.kind = k then PR.ok t.text q else PR.bad t.line) = .ok x r := h
  split at h
  . rename_i hk
    injection h with h1 h2
    exact ⟨t, by rw [h2], hk, h1.symm⟩
  . cases h
theorem takeM_eq {c : UInt8} {l : List Tok} {x : Unit} {r : List Tok} (h : takeM c l = .ok x r) : ∃ t, l = t :: r /\ isMark c t = true := by
 cases l with
 | nil => cases h
 | cons t q =>
  have h : (if isMark c t = true then PR.ok () q else PR.bad t.line) = .ok x r := h
  split at h
  . rename_i hk
    injection h with h1 h2
    exact ⟨t, by rw [h2], hk⟩
  . cases h
def En (m : Nat) : Tok := ⟨5, [], m⟩
section
variable {α β : Type} {m : Nat}
def Mono (p : List Tok -> PR α) : Prop := ∀ l a r, p l = .ok a r -> r.length <= l.length
def ES (m : Nat) (p : List Tok -> PR α) : Prop := p [En m] = .bad m \/ ∃ a, p [En m] = .ok a [En m]
theorem mono_ok (a : α) : Mono (fun l => PR.ok a l) := fun l b r h => by injection h with _ h; rw [h]; exact Nat.le_refl _
theorem mono_bind {p : List Tok -> PR α} {f : α -> List Tok -> PR β} (hp : Mono p) (hf : ∀ a, Mono (f a)) : Mono (fun l => (p l).bind f) := fun l b r h => by
 obtain ⟨a, q, h1, h2⟩ := PR.bind_eq h
 exact Nat.le_trans (hf a q b r h2) (hp l a q h1)
theorem mono_ite {b : List Tok -> Bool} {p q : List Tok -> PR α} (hp : Mono p) (hq : Mono q) : Mono (fun l => if b l then p l else q l) := fun l a r h => by
 simp only at h
 split at h
 . exact hp l a r h
 . exact hq l a r h
theorem mono_drop {p : List Tok -> PR α} (hp : Mono p) : Mono (fun l => p (l.drop 1)) := fun l a r h => Nat.le_trans (hp _ a r h) (by rw [List.length_drop]; omega)
end
theorem mono_takeK (k : Nat) : Mono (takeK k) := fun l a r h => by
 obtain ⟨t, rfl, _⟩ := takeK_eq h
 rw [List.length_cons]; omega
theorem mono_takeM (c : UInt8) : Mono (takeM c) := fun l a r h => by
 obtain ⟨t, rfl, _⟩ := takeM_eq h
 rw [List.length_cons]; omega
def fracP (a : List UInt8) (l : List Tok) : PR (List UInt8) := if atMark 47 l then (takeK 2 (l.drop 1)).bind fun b r2 => .ok (a ++ 47 :: b) r2 else .ok a l
theorem valueP_def : valueP = fun l => if atKind 1 l then takeK 1 l else (fun l => if atKind 3 l then takeK 3 l else (takeK 2 l).bind fracP) l := rfl
theorem mono_frac (a : List UInt8) : Mono (fracP a) := mono_ite (mono_drop (p := fun l => (takeK 2 l).bind fun b r2 => .ok (a ++ 47 :: b) r2) (mono_bind (mono_takeK 2) fun _ => mono_ok _)) (mono_ok a)
theorem mono_value : Mono valueP := mono_ite (mono_takeK 1) (mono_ite (mono_takeK 3) (mono_bind (mono_takeK 2) mono_frac))
theorem mono_more : ∀ k, Mono (moreP k)
  | 0 => mono_ok []
  | k + 1 => mono_ite (mono_drop (p := fun l => (valueP l).bind fun v r => (moreP k r).bind fun vs r2 => .ok (v :: vs) r2) (mono_bind mono_value fun _ => mono_bind (mono_more k) fun _ => mono_ok _)) (mono_ok [])
theorem value_lt {l : List Tok} {v : List UInt8} {r : List Tok} (h : valueP l = .ok v r) : r.length < l.length := by
 unfold valueP at h
 split at h
 . obtain ⟨t, rfl, _⟩ := takeK_eq h; rw [List.length_cons]; omega
 . split at h
   . obtain ⟨t, rfl, _⟩ := takeK_eq h; rw [List.length_cons]; omega
   . obtain ⟨a, q, h1, h2⟩ := PR.bind_eq h
     obtain ⟨t, rfl, _⟩ := takeK_eq h1
     have := mono_frac a q v r h2
     rw [List.length_cons]; omega
theorem more_fuel : ∀ (n : Nat) (l : List Tok) (k k' : Nat), l.length <= n -> l.length <= k -> l.length <= k' -> moreP k l = moreP k' l := by
 intro n
 induction n with
 | zero =>
  intro l k k' hn _ _
  have : l = [] := List.eq_nil_of_length_eq_zero (by omega)
  subst this
  cases k <;> cases k' <;> rfl
 | succ n ih =>
  intro l k k' hn hk hk'
  cases l with
  | nil => cases k <;> cases k' <;> rfl
  | cons t l =>
   rw [List.length_cons] at hn hk hk'
   obtain ⟨k, rfl⟩ : ∃ j, k = j + 1 := ⟨k - 1, by omega⟩
   obtain ⟨k', rfl⟩ : ∃ j, k' = j + 1 := ⟨k' - 1, by omega⟩
   rw [moreP, moreP]
   split
   . rw [List.drop_succ_cons, List.drop_zero]
     cases hv : valueP l with
     | bad e => rfl
     | ok v r =>
      have := value_lt hv
      rw [PR.bind_ok, PR.bind_ok, ih r k k' (by omega) (by omega) (by omega)]
   . rfl
def moreA (l : List Tok) : PR (List (List UInt8)) := moreP l.length l
theorem more_any {l : List Tok} {k : Nat} (h : l.length <= k) : moreA l = moreP k l := more_fuel l.length l _ _ (Nat.le_refl _) (Nat.le_refl _) h
theorem mono_moreA : Mono moreA := fun l => mono_more l.length l
def fieldQ (n : Nat) (l : List Tok) : PR Fld :=
 (takeK 1 l).bind fun key r => (valueP r).bind fun v r2 => (moreA r2).bind fun vs r3 => (takeM 59 r3).bind fun _ r4 => .ok ⟨key, v :: vs, n⟩ r4
theorem fieldP_Q (l : List Tok) : fieldP l = fieldQ (lineP l) l := rfl
theorem mono_fieldQ (n : Nat) : Mono (fieldQ n) := mono_bind (mono_takeK 1) fun _ => mono_bind mono_value fun _ => mono_bind mono_moreA fun _ => mono_bind (mono_takeM 59) fun _ => mono_ok _
theorem mono_field : Mono fieldP := fun l => mono_fieldQ (lineP l) l
theorem field_lt {l : List Tok} {f : Fld} {r : List Tok} (h : fieldP l = .ok f r) : r.length < l.length := by
 obtain ⟨key, q1, h1, h⟩ := PR.bind_eq h
 obtain ⟨t, rfl, _⟩ := takeK_eq h1
 have := (mono_bind mono_value fun _ => mono_bind mono_moreA fun _ => mono_bind (mono_takeM 59) fun _ => mono_ok _ : Mono fun r => (valueP r).bind fun v r2 => (moreA r2).bind fun vs r3 => (takeM 59 r3).bind fun _ r4 => PR.ok (⟨key, v :: vs, lineP (t :: q1)⟩ : Fld) r4) q1 f r h
 rw [List.length_cons]; omega
def untilP {α : Type} (p : List Tok -> PR α) : Nat -> List Tok -> PR (List α)
  | 0, l => .ok [] l
  | k + 1, l => if atMark 125 l then .ok [] l else (p l).bind fun f r => (untilP p k r).bind fun fs r2 => .ok (f :: fs) r2
theorem fieldsP_until : ∀ k, fieldsP k = untilP fieldP k
  | 0 => rfl
  | k + 1 => by
   funext l
   rw [fieldsP, untilP, fieldsP_until k]
theorem blocksP_until : ∀ k, blocksP k = untilP blockP k
  | 0 => rfl
  | k + 1 => by
   funext l
   rw [blocksP, untilP, blocksP_until k]
section
variable {α : Type} {p : List Tok -> PR α} {m : Nat}
theorem mono_until (hp : Mono p) : ∀ k, Mono (untilP p k)
  | 0 => mono_ok []
  | k + 1 => mono_ite (mono_ok []) (mono_bind hp fun _ => mono_bind (mono_until hp k) fun _ => mono_ok _)
theorem until_fuel (hlt : ∀ l a r, p l = .ok a r -> r.length < l.length) : ∀ (n : Nat) (l : List Tok) (k k' : Nat), l.length <= n -> l.length < k -> l.length < k' -> untilP p k l = untilP p k' l := by
 intro n
 induction n with
 | zero =>
  intro l k k' hn hk hk'
  obtain ⟨k, rfl⟩ : ∃ j, k = j + 1 := ⟨k - 1, by omega⟩
  obtain ⟨k', rfl⟩ : ∃ j, k' = j + 1 := ⟨k' - 1, by omega⟩
  rw [untilP, untilP]
  split
  . rfl
  . cases hv : p l with
    | bad e => rfl
    | ok v r => have := hlt l v r hv; omega
 | succ n ih =>
  intro l k k' hn hk hk'
  obtain ⟨k, rfl⟩ : ∃ j, k = j + 1 := ⟨k - 1, by omega⟩
  obtain ⟨k', rfl⟩ : ∃ j, k' = j + 1 := ⟨k' - 1, by omega⟩
  rw [untilP, untilP]
  split
  . rfl
  . cases hv : p l with
    | bad e => rfl
    | ok v r =>
     have := hlt l v r hv
     rw [PR.bind_ok, PR.bind_ok, ih r k k' (by omega) (by omega) (by omega)]
end
end Go.Proofs.YtemdkkphmldgjaaGreatDoor.Lx
namespace Go.Proofs.YtemdkkphmldgjaaGreatDoor.Lx
def fieldsA (l : List Tok) : PR (List Fld) := untilP fieldP (l.length + 1) l
theorem mono_fieldsA : Mono fieldsA := fun l => mono_until mono_field (l.length + 1) l
theorem mono_name : Mono nameR := mono_ite (mono_takeK 1) (mono_ok [])
def blockQ (n : Nat) (l : List Tok) : PR Blc :=
 (takeK 1 l).bind fun kind r => (nameR r).bind fun name r2 => (takeM 123 r2).bind fun _ r3 => (fieldsA r3).bind fun fs r4 => (takeM 125 r4).bind fun _ r5 => .ok ⟨kind, name, fs, n⟩ r5
theorem blockP_Q (l : List Tok) : blockP l = blockQ (lineP l) l := by
 unfold blockP blockQ fieldsA
 simp only [fieldsP_until]
theorem mono_b4 (kind name : List UInt8) (fs : List Fld) (n : Nat) : Mono fun r4 => (takeM 125 r4).bind fun _ r5 => PR.ok (⟨kind, name, fs, n⟩ : Blc) r5 := mono_bind (mono_takeM 125) fun _ => mono_ok _
theorem mono_b3 (kind name : List UInt8) (n : Nat) : Mono fun r3 => (fieldsA r3).bind fun fs r4 => (takeM 125 r4).bind fun _ r5 => PR.ok (⟨kind, name, fs, n⟩ : Blc) r5 := mono_bind mono_fieldsA fun fs => mono_b4 kind name fs n
theorem mono_b2 (kind name : List UInt8) (n : Nat) : Mono fun r2 => (takeM 123 r2).bind fun _ r3 => (fieldsA r3).bind fun fs r4 => (takeM 125 r4).bind fun _ r5 => PR.ok (⟨kind, name, fs, n⟩ : Blc) r5 := mono_bind (mono_takeM 123) fun _ => mono_b3 kind name n
theorem mono_b1 (kind : List UInt8) (n : Nat) : Mono fun r => (nameR r).bind fun name r2 => (takeM 123 r2).bind fun _ r3 => (fieldsA r3).bind fun fs r4 => (takeM 125 r4).bind fun _ r5 => PR.ok (⟨kind, name, fs, n⟩ : Blc) r5 := mono_bind mono_name fun name => mono_b2 kind name n
theorem block_lt {l : List Tok} {b : Blc} {r : List Tok} (h : blockP l = .ok b r) : r.length < l.length := by
 rw [blockP_Q] at h
 obtain ⟨kind, q1, h1, h⟩ := PR.bind_eq h
 obtain ⟨t, rfl, _⟩ := takeK_eq h1
 have := mono_b1 kind _ q1 b r h
 rw [List.length_cons]; omega
def ShT (t u : Tok) : Prop := t.kind = u.kind /\ (t.kind = 4 -> t.text = u.text)
inductive Sh : List Tok -> List Tok -> Prop
  | nil : Sh [] []
  | cons {t u : Tok} {l k : List Tok} : ShT t u -> Sh l k -> Sh (t :: l) (u :: k)
def R2 {α β : Type} (p : List Tok -> PR α) (q : List Tok -> PR β) : Prop := ∀ l k a r, Sh l k -> p l = .ok a r -> ∃ b s, q k = .ok b s /\ Sh r s
theorem oneS_kind (l : List UInt8) (x : Nat × List UInt8 × Nat) (h : oneS l = some x) : x.1 ≠ 5 := by
 unfold oneS at h
 split at h
 . injection h with h; subst h; exact (by decide : (1 : Nat) ≠ 5)
 . split at h
   . injection h with h; subst h; exact (by decide : (2 : Nat) ≠ 5)
   . cases l with
     | nil => cases h
     | cons c r =>
      simp only at h
      split at h
      . injection h with h; subst h; exact (by decide : (4 : Nat) ≠ 5)
      . split at h
        . obtain ⟨y, hy, rfl⟩ := Option.map_eq_some_iff.1 h
          exact (by decide : (3 : Nat) ≠ 5)
        . cases h
theorem lexS_lines : ∀ (n : Nat) (l : List UInt8) (ln : Nat) (ts : List Tok) (m : Nat), l.length <= n -> lexS l ln = .ok ts m -> ln <= m /\ ∀ t ∈ ts, ln <= t.line /\ t.line <= m /\ t.kind ≠ 5
  | n, [], ln, ts, m, _, h => by
   rw [lexS_nil] at h
   injection h with h h2
   subst h h2
   exact ⟨Nat.le_refl _, fun t ht => by cases ht⟩
  | 0, c :: r, _, _, _, hn, _ => absurd hn (by simp)
  | n + 1, c :: r, ln, ts, m, hn, h => by
   have hr : r.length <= n := by simpa using hn
   rw [lexS_cons] at h
   split at h
   . exact lexS_lines n _ ln ts m (Nat.le_trans (drop_while_len _ _) hr) h
   . split at h
     . obtain ⟨h1, h2⟩ := lexS_lines n _ _ ts m hr h
       have hl : ln <= lineOf c ln := by unfold lineOf; split <;> omega
       exact ⟨Nat.le_trans hl h1, fun t ht => ⟨Nat.le_trans hl (h2 t ht).1, (h2 t ht).2⟩⟩
     . cases hx : oneS (c :: r) with
       | none => rw [hx] at h; cases h
       | some x =>
        rw [hx] at h
        simp only at h
        cases hy : lexS (r.drop (x.2.2 - 1)) ln with
        | err e => rw [hy] at h; cases h
        | ok us e =>
         rw [hy] at h
         injection h with h h3
         subst h h3
         obtain ⟨h1, h2⟩ := lexS_lines n _ ln us e (by rw [List.length_drop]; omega) hy
         refine ⟨h1, fun t ht => ?_⟩
         rcases List.mem_cons.1 ht with rfl | ht
         . exact ⟨Nat.le_refl _, h1, oneS_kind _ x hx⟩
         . exact h2 t ht
structure EndsT (ts : List Tok) : Prop where
 last : ∀ i t, ts[i]? = some t -> (t.kind = 5 ↔ i + 1 = ts.length)
 line : ∀ t ∈ ts, 1 <= t.line
theorem ends_lex {l : List UInt8} {ts : List Tok} {m : Nat} (h : lexS l 1 = .ok ts m) : EndsT (ts ++ [⟨5, [], m⟩]) := by
 obtain ⟨h1, h2⟩ := lexS_lines l.length l 1 ts m (Nat.le_refl _) h
 refine ⟨fun i t ht => ?_, fun t ht => ?_⟩
 . rw [List.length_append]
   rcases Nat.lt_or_ge i ts.length with hi | hi
   . rw [List.getElem?_append_left hi] at ht
     have := (h2 t (List.mem_of_getElem? ht)).2.2
     simp only [List.length_cons, List.length_nil]
     omega
   . rw [List.getElem?_append_right hi] at ht
     have h0 : i - ts.length = 0 := by
      rcases Nat.eq_zero_or_pos (i - ts.length) with h0 | h0
      . exact h0
      . rw [List.getElem?_eq_none (by simp; omega)] at ht; cases ht
     rw [h0] at ht
     have : t = ⟨5, [], m⟩ := by simpa using ht.symm
     subst this
     simp only [List.length_cons, List.length_nil, true_iff]
     omega
 . rcases List.mem_append.1 ht with ht | ht
   . exact (h2 t ht).1
   . have : t = ⟨5, [], m⟩ := by simpa using ht
     subst this
     exact h1
theorem EndsT.next {ts : List Tok} (h : EndsT ts) {i : Nat} {t : Tok} (ht : ts[i]? = some t) (hk : t.kind ≠ 5) : i + 1 < ts.length := by
 have h1 := (List.getElem?_eq_some_iff.1 ht).1
 have h2 := (h.last i t ht).2
 rcases Nat.lt_or_ge (i + 1) ts.length with h3 | h3
 . exact h3
 . exact absurd (h2 (by omega)) hk
end Go.Proofs.YtemdkkphmldgjaaGreatDoor.Lx
namespace Go.Proofs.YtemdkkphmldgjaaGreatDoor
open Go.RowKit Lx
section
variable {w w' : World} {g n c b : Nat} {ao : Option Addr} {ts l r : List Tok} {t : Tok}
end
theorem stg_eq {a b : List UInt8} (h : stg a = stg b) : a = b := by have := congrArg bys h; rwa [bys_stg, bys_stg] at this
theorem grown_self (w : World) (row : Option Nat) : w.grownBy w row := ⟨rfl, rfl, rfl, Nat.le_refl _, fun _ _ _ => rfl⟩
end Go.Proofs.YtemdkkphmldgjaaGreatDoor
namespace Go.Proofs.YtemdkkphmldgjaaGreatDoor
open Go.RowKit Lx
structure Ps (w : World) (g gt n c : Nat) (ts : List Tok) (i : Nat) : Prop where
 arr : Arr w g 84 [.slice (some ⟨gt, 3 * i, none⟩) (n - i) (c - i)]
 tok : TokOwn 0 w (some ⟨gt, 0, none⟩) n c ts
 ne : gt ≠ g
 lt : i < n
 cap : n <= c /\ c <= maxLen
def AtP (w : World) (g gt n c : Nat) (ts l : List Tok) : Prop := ∃ i, Ps w g gt n c ts i /\ ts.drop i = l
section
variable {w w' : World} {g gt n c i : Nat} {ts l : List Tok}
theorem Ps.keep (h : Ps w g gt n c ts i) (hb : Below w.heap.size w w') : Ps w' g gt n c ts i := ⟨h.arr.kept hb, h.tok.keep hb, h.ne, h.lt, h.cap⟩
theorem Ps.far (h : Ps w g gt n c ts i) {p : Addr} (h1 : g ≠ p.block) (h2 : gt ≠ p.block) (u : Value) : Ps (w.setCell p u) g gt n c ts i :=
 ⟨h.arr.far h1 u, World.ownsRow.kept (row := some p.block) h.tok ⟨rfl, rfl, rfl, by simp [World.setCell], fun k _ hk => Below.heap_setCell w _ u k (fun e => hk (by rw [e]))⟩ (Or.inr (fun e => h2 (by injection e))), h.ne, h.lt, h.cap⟩
theorem Ps.step (h : Ps w g gt n c ts i) (hi : i + 1 < n) : Ps (w.setCell ⟨g, 0, none⟩ (.slice (some ⟨gt, 3 * (i + 1), none⟩) (n - (i + 1)) (c - (i + 1)))) g gt n c ts (i + 1) :=
 ⟨h.arr.set 0 _, World.ownsRow.kept (row := some g) h.tok (set_grown w g 0 _) (Or.inr (fun e => h.ne (by injection e))), h.ne, hi, h.cap⟩
theorem Ps.at (h : Ps w g gt n c ts i) (t : Tok) (ht : ts[i]? = some t) : w.cell? ⟨gt, 3 * i, none⟩ = some (.int .i64 (t.kind : Int)) /\ w.cell? ⟨gt, 3 * i + 1, none⟩ = some (.string (stg t.text)) /\ w.cell? ⟨gt, 3 * i + 2, none⟩ = some (.int .i64 (t.line : Int)) := by
 obtain ⟨g', h1, _, a, b, d⟩ := h.tok.at3 i h.lt t ht (3 * i) (3 * i + 1) (3 * i + 2) rfl rfl rfl
 injection h1 with h1
 injection h1 with h1 _ _
 subst h1
 exact ⟨a, b, d⟩
theorem AtP.keep (h : AtP w g gt n c ts l) (hb : Below w.heap.size w w') : AtP w' g gt n c ts l := by
 obtain ⟨i, h1, h2⟩ := h
 exact ⟨i, h1.keep hb, h2⟩
theorem AtP.head (h : AtP w g gt n c ts l) : ∃ i t r, Ps w g gt n c ts i /\ ts[i]? = some t /\ l = t :: r /\ ts.drop (i + 1) = r := by
 obtain ⟨i, h1, h2⟩ := h
 have hl := h1.tok.len
 have h3 : i < ts.length := by rw [hl]; exact h1.lt
 refine ⟨i, ts[i], ts.drop (i + 1), h1, List.getElem?_eq_getElem h3, ?_, rfl⟩
 rw [<- h2, List.drop_eq_getElem_cons h3]
end
theorem Ps.sizes {w : World} {g gt n c i : Nat} {ts : List Tok} (h : Ps w g gt n c ts i) : g < w.heap.size /\ gt < w.heap.size := by
 refine ⟨h.arr.lt, ?_⟩
 exact (World.ownsRow.lt (v := .slice (some ⟨gt, 0, none⟩) n c) h.tok gt rfl).2
theorem Ps.put3 {w : World} {g gt n c i : Nat} {ts : List Tok} (h : Ps w g gt n c ts i) {b : Nat} (h1 : g ≠ b) (h2 : gt ≠ b) (u0 u1 u2 : Value) : Ps (put3 w b u0 u1 u2) g gt n c ts i :=
 ((h.far (p := ⟨b, 0, none⟩) h1 h2 u0).far (p := ⟨b, 1, none⟩) h1 h2 u1).far (p := ⟨b, 2, none⟩) h1 h2 u2
theorem AtP.sizes {w : World} {g gt n c : Nat} {ts l : List Tok} (h : AtP w g gt n c ts l) : g < w.heap.size /\ gt < w.heap.size := by
 obtain ⟨i, h1, _⟩ := h
 exact h1.sizes
theorem slice_tok (gt i n c : Nat) (hi : i + 1 < n) (hc : n <= c) (W : World) :
    (Instr.slice 80 (.slice (some ⟨gt, 3 * i, none⟩) (n - i) (c - i)) (some (.int .i64 1)) none none).run Tryz.prog W = .ok (.slice (some ⟨gt, 3 * (i + 1), none⟩) (n - (i + 1)) (c - (i + 1))) W := by
 obtain ⟨inf, hinf, hs⟩ := Option.map_eq_some_iff.1 sizeT
 rw [run_slice_l (P := Tryz.prog) (w := W) 80 (some ⟨gt, 3 * i, none⟩) (n - i) (c - i) Tryz.underlying80 .i64 1 (by omega) (by omega)]
 have e : (sizeOf (Tryz.prog.elem 80)).run Tryz.prog W = .ok 3 W := by
  show (sizeOf 87).run Tryz.prog W = .ok 3 W
  simp [sizeOf, typeInfo, hinf, hs]
 rw [e]
 have h1 : ¬ (c - i = 1) := by omega
 have e3 : 3 * (i + 1) = 3 * i + 3 := by omega
 have e4 : n - (i + 1) = n - i - 1 := by omega
 have e5 : c - (i + 1) = c - i - 1 := by omega
 rw [e3, e4, e5]
 simp only [Result.andThen, sliced, Int.toNat_one, if_neg h1, Option.map_some, Addr.add]
 rw [if_neg (by decide)]
theorem ix_tok (gt i n c : Nat) (hi : i < n) (W : World) :
    (Instr.indexAt 80 (.slice (some ⟨gt, 3 * i, none⟩) (n - i) (c - i)) (.int .i64 0)).run Tryz.prog W = .ok (.pointer (some ⟨gt, 3 * i, none⟩)) W := by
 obtain ⟨inf, hinf, hs⟩ := Option.map_eq_some_iff.1 sizeT
 have h1 : 0 < n - i := by omega
 simp [Instr.indexAt, run_underlying Tryz.underlying80, asIntOf, sizeOf, typeInfo, hinf, Addr.add]
 omega
theorem next_c (w : World) (g gt n c : Nat) (ts : List Tok) (i : Nat) (h : Ps w g gt n c ts i) (t : Tok) (ht : ts[i]? = some t) (k : Nat) :
    Calls Tryz.prog 83 #[.pointer (some ⟨g, 0, none⟩), .int .i64 (k : Int)] w fun e w' => e = .returned (.bool (decide (t.kind = k))) /\ w = w' := by
 obtain ⟨a1, _, _⟩ := h.at t ht
 have y0 : w.cell? ⟨g, 0, none⟩ = some (.slice (some ⟨gt, 3 * i, none⟩) (n - i) (c - i)) := h.arr.cell 0
 have x0 := ix_tok gt i n c h.lt
 obtain ⟨K, hK⟩ : ∃ K, Hid (t.kind = K) := ⟨_, rfl⟩
 have hd : (((t.kind : Nat) : Int) == (k : Int)) = decide (t.kind = k) := by
  rw [Bool.eq_iff_iff]; simp only [beq_iff_eq, decide_eq_true_eq]; omega
 rw [hK.out] at a1 hd |-
 clear h ht
 go_enter Tryz.func83, Tryz.ntmps83
 go_wp2_with fail
 go_ret
 exact ⟨rfl, rfl⟩
theorem pTake_ok (w : World) (g gt n c : Nat) (ts : List Tok) (i : Nat) (h : Ps w g gt n c ts i) (t : Tok) (ht : ts[i]? = some t) (k : Nat) (hk : t.kind = k) (hi : i + 1 < n) :
    Calls Tryz.prog 80 #[.pointer (some ⟨g, 0, none⟩), .int .i64 (k : Int)] w fun e w' =>
     e = .returned (.tuple #[.agg #[.int .i64 (t.kind : Int), .string (stg t.text), .int .i64 (t.line : Int)], .bool true]) /\ Ps w' g gt n c ts (i + 1) /\ w.grownBy w' (some g) := by
 obtain ⟨K, hK⟩ : ∃ K, Hid (t.kind = K) := ⟨_, rfl⟩
 obtain ⟨Tx, hTx⟩ : ∃ K, Hid (stg t.text = K) := ⟨_, rfl⟩
 obtain ⟨Ln, hLn⟩ : ∃ K, Hid (t.line = K) := ⟨_, rfl⟩
 obtain ⟨V, hV⟩ : ∃ V, Hid (V = w.alloc (.cells #[.int .i64 0, .string ⟨#[]⟩, .int .i64 0] 87)) := ⟨_, rfl⟩
 have BV : Below w.heap.size w V := by rw [hV.out]; exact (Below.refl _ _).alloc (Nat.le_refl _) _
 have AV : Arr V w.heap.size 87 [.int .i64 0, .string ⟨#[]⟩, .int .i64 0] := by rw [hV.out]; exact Arr.new w _ _
 have PV := h.keep BV
 obtain ⟨hg, hgt⟩ := h.sizes
 have hsz : V.heap.size = w.heap.size + 1 := by rw [hV.out]; simp
 obtain ⟨b, hb⟩ : ∃ b, Hid (w.heap.size = b) := ⟨_, rfl⟩
 rw [hb.out] at AV hg hsz hgt
 have HN := next_c V g gt n c ts i PV t ht k
 rw [decide_eq_true hk] at HN
 obtain ⟨a1, a2, a3⟩ := PV.at t ht
 have y0 : V.cell? ⟨g, 0, none⟩ = some (.slice (some ⟨gt, 3 * i, none⟩) (n - i) (c - i)) := PV.arr.cell 0
 have x0 := ix_tok gt i n c h.lt
 have x1 := slice_tok gt i n c hi h.cap.1
 rw [hTx.out, hLn.out, hK.out]
 rw [hK.out] at a1
 rw [hTx.out] at a2
 rw [hLn.out] at a3
 obtain ⟨V2, hV2⟩ : ∃ V2, Hid (V2 = V.alloc (.cells #[.int .i64 (K : Int), .string Tx, .int .i64 (Ln : Int)] 87)) := ⟨_, rfl⟩
 have B2 : Below V.heap.size V V2 := by rw [hV2.out]; exact (Below.refl _ _).alloc (Nat.le_refl _) _
 have A2 : Arr V2 (b + 1) 87 [.int .i64 (K : Int), .string Tx, .int .i64 (Ln : Int)] := by rw [hV2.out, <- hsz]; exact Arr.new V _ _
 have P2 := PV.keep B2
 have AV2 := AV.kept B2
 have z0 : V2.cell? ⟨g, 0, none⟩ = some (.slice (some ⟨gt, 3 * i, none⟩) (n - i) (c - i)) := P2.arr.cell 0
 have f0 : V2.frozen? ⟨g, 0, none⟩ = false := P2.arr.frozen 0
 have P3 := P2.step hi
 obtain ⟨V3, hV3⟩ : ∃ V3, Hid (V3 = V2.setCell ⟨g, 0, none⟩ (.slice (some ⟨gt, 3 * (i + 1), none⟩) (n - (i + 1)) (c - (i + 1)))) := ⟨_, rfl⟩
 have GW : w.grownBy V3 (some g) := by
  rw [hV3.out]
  exact grown_on (grown_below BV _) (grown_on (grown_below B2 _) (set_grown _ _ _ _))
 rw [<- hV3.out] at P3
 have A3 : Arr V3 (b + 1) 87 [.int .i64 (K : Int), .string Tx, .int .i64 (Ln : Int)] := by rw [hV3.out]; exact A2.far (by show b + 1 ≠ g; omega) _
 have AV3 : Arr V3 b 87 [.int .i64 0, .string ⟨#[]⟩, .int .i64 0] := by rw [hV3.out]; exact AV2.far (by show b ≠ g; omega) _
 have v0 : V3.cell? ⟨b + 1, 0, none⟩ = some (.int .i64 (K : Int)) := A3.cell 0
 have v1 : V3.cell? ⟨b + 1, 1, none⟩ = some (.string Tx) := A3.cell 1
 have v2 : V3.cell? ⟨b + 1, 2, none⟩ = some (.int .i64 (Ln : Int)) := A3.cell 2
 obtain ⟨r0, r1, r2, r3, r4, r5⟩ := AV3.store3 (.int .i64 (K : Int)) (.string Tx)
 obtain ⟨V4, e5⟩ : ∃ V4, ((V3.setCell ⟨b, 0, none⟩ (.int .i64 (K : Int))).setCell ⟨b, 1, none⟩ (.string Tx)).setCell ⟨b, 2, none⟩ (.int .i64 (Ln : Int)) = V4 := ⟨_, rfl⟩
 have e5' : put3 V3 b (.int .i64 (K : Int)) (.string Tx) (.int .i64 (Ln : Int)) = V4 := e5
 have AF := Lib.hid (AV3.put3 (.int .i64 (K : Int)) (.string Tx) (.int .i64 (Ln : Int)))
 have PF := Lib.hid (P3.put3 (b := b) (by omega) (by omega) (.int .i64 (K : Int)) (.string Tx) (.int .i64 (Ln : Int)))
 have GF := Lib.hid (grown_put3 GW (Nat.le_of_eq hb.out) (.int .i64 (K : Int)) (.string Tx) (.int .i64 (Ln : Int)))
 rw [e5'] at AF PF GF
 clear e5'
 have HN := Lib.hid HN
 have e1 := hV.out.symm
 have e2 := hV2.out.symm
 have e3 := hV3.out.symm
 have e4 := hb.out
 clear h PV AV P2 AV2 P3 A3 AV3 GW B2 BV hK hTx hLn ht A2 hV hV2 hV3 hb
 go_enter Tryz.func80, Tryz.ntmps80
 go_wp2_with fail
 refine HN.out.mono ?_
 rintro e w1 ⟨rfl, rfl⟩
 go_wp2_with fail
 obtain ⟨q0, q1, q2⟩ : V4.cell? ⟨b, 0, none⟩ = some (.int .i64 (K : Int)) /\ V4.cell? ⟨b, 1, none⟩ = some (.string Tx) /\ V4.cell? ⟨b, 2, none⟩ = some (.int .i64 (Ln : Int)) := ⟨AF.out.cell 0, AF.out.cell 1, AF.out.cell 2⟩
 refine bodyPost_ret (v := .tuple #[.agg #[.int .i64 (K : Int), .string Tx, .int .i64 (Ln : Int)], .bool true]) (by simp [results, Tryz.results80, go_sem, q0, q1, q2]) rfl ?_
 exact ⟨rfl, PF.out, GF.out⟩
theorem pTake_no (w : World) (g gt n c : Nat) (ts : List Tok) (i : Nat) (h : Ps w g gt n c ts i) (t : Tok) (ht : ts[i]? = some t) (k : Nat) (hk : t.kind ≠ k) :
    Calls Tryz.prog 80 #[.pointer (some ⟨g, 0, none⟩), .int .i64 (k : Int)] w fun e w' =>
     e = .returned (.tuple #[.agg #[.int .i64 0, .string ⟨#[]⟩, .int .i64 0], .bool false]) /\ Ps w' g gt n c ts i /\ w.grownBy w' (some g) := by
 obtain ⟨V, e1, AV, BV, hsz⟩ := new_box w 87 [.int .i64 0, .string ⟨#[]⟩, .int .i64 0]
 have PV := h.keep BV
 obtain ⟨hg, hgt⟩ := h.sizes
 obtain ⟨V2, e2, hV2, A2, r0, r1, r2, r3, r4, r5⟩ := put_box3 AV (.int .i64 0) (.string ⟨#[]⟩) (.int .i64 0)
 have HN := next_c V g gt n c ts i PV t ht k
 rw [decide_eq_false hk] at HN
 have HN := Lib.hid HN
 have P2 := PV.put3 (b := w.heap.size) (by omega) (by omega) (.int .i64 0) (.string ⟨#[]⟩) (.int .i64 0)
 have G2 := grown_put3 (grown_below BV (some g)) (Nat.le_refl _) (.int .i64 0) (.string ⟨#[]⟩) (.int .i64 0)
 rw [<- hV2.out] at P2 G2
 have P2 := Lib.hid P2
 have G2 := Lib.hid G2
 have q0 : V2.cell? ⟨w.heap.size, 0, none⟩ = some (.int .i64 0) := A2.cell 0
 have q1 : V2.cell? ⟨w.heap.size, 1, none⟩ = some (.string ⟨#[]⟩) := A2.cell 1
 have q2 : V2.cell? ⟨w.heap.size, 2, none⟩ = some (.int .i64 0) := A2.cell 2
 clear h ht PV AV A2 BV
 go_enter Tryz.func80, Tryz.ntmps80
 go_wp2_with fail
 refine HN.out.mono ?_
 rintro e w1 ⟨rfl, rfl⟩
 go_wp2_with fail
 refine bodyPost_ret (v := .tuple #[.agg #[.int .i64 0, .string ⟨#[]⟩, .int .i64 0], .bool false]) (by simp [results, Tryz.results80, go_sem, q0, q1, q2]) rfl ?_
 exact ⟨rfl, P2.out, G2.out⟩
theorem AtP.uncons {w : World} {g gt n c : Nat} {ts r : List Tok} {t : Tok} (h : AtP w g gt n c ts (t :: r)) : ∃ i, Ps w g gt n c ts i /\ ts[i]? = some t /\ ts.drop (i + 1) = r := by
 obtain ⟨i, t', r', h1, h2, h3, h4⟩ := h.head
 injection h3 with h3 h5
 subst h3 h5
 exact ⟨i, h1, h2, h4⟩
theorem pTake_yes (w : World) (g gt n c : Nat) (ts r : List Tok) (t : Tok) (h : AtP w g gt n c ts (t :: r)) (he : EndsT ts) (k : Nat) (hk : t.kind = k) (hk5 : k ≠ 5) :
    Calls Tryz.prog 80 #[.pointer (some ⟨g, 0, none⟩), .int .i64 (k : Int)] w fun e w' =>
     e = .returned (.tuple #[.agg #[.int .i64 (t.kind : Int), .string (stg t.text), .int .i64 (t.line : Int)], .bool true]) /\ AtP w' g gt n c ts r /\ w.grownBy w' (some g) := by
 obtain ⟨i, h1, h2, h3⟩ := h.uncons
 exact (pTake_ok w g gt n c ts i h1 t h2 k hk (by have := he.next h2 (by rw [hk]; exact hk5); have := h1.tok.len; omega)).mono fun e w' ⟨a, b, d⟩ => ⟨a, ⟨i + 1, b, h3⟩, d⟩
theorem pTake_not (w : World) (g gt n c : Nat) (ts r : List Tok) (t : Tok) (h : AtP w g gt n c ts (t :: r)) (k : Nat) (hk : t.kind ≠ k) :
    Calls Tryz.prog 80 #[.pointer (some ⟨g, 0, none⟩), .int .i64 (k : Int)] w fun e w' =>
     e = .returned (.tuple #[.agg #[.int .i64 0, .string ⟨#[]⟩, .int .i64 0], .bool false]) /\ AtP w' g gt n c ts (t :: r) /\ w.grownBy w' (some g) := by
 obtain ⟨i, h1, h2, h3⟩ := h.uncons
 refine (pTake_no w g gt n c ts i h1 t h2 k hk).mono fun e w' ⟨a, b, d⟩ => ⟨a, ⟨i, b, ?_⟩, d⟩
 obtain ⟨hl, ht⟩ := List.getElem?_eq_some_iff.1 h2
 rw [List.drop_eq_getElem_cons hl, ht, h3]
theorem pTok_c (w : World) (g gt n c : Nat) (ts l : List Tok) (h : AtP w g gt n c ts l) (he : EndsT ts) (k : Nat) (hk5 : k ≠ 5) (x : List UInt8) :
    Calls Tryz.prog 79 #[.pointer (some ⟨g, 0, none⟩), .int .i64 (k : Int), .string (stg x)] w fun e w' => ∃ b : Bool, e = .returned (.bool b) /\
      (∀ t r, l = t :: r -> b = (decide (t.kind = k) && decide (t.text = x))) /\ AtP w' g gt n c ts (if b then l.drop 1 else l) /\ w.grownBy w' (some g) := by
 obtain ⟨i, t, r, hP, ht, rfl, hr⟩ := h.head
 obtain ⟨a1, a2, a3⟩ := hP.at t ht
 have y0 : w.cell? ⟨g, 0, none⟩ = some (.slice (some ⟨gt, 3 * i, none⟩) (n - i) (c - i)) := hP.arr.cell 0
 have x0 := ix_tok gt i n c hP.lt
 obtain ⟨X, hX⟩ : ∃ X, Hid (stg x = X) := ⟨_, rfl⟩
 obtain ⟨Y, hY⟩ : ∃ X, Hid (stg t.text = X) := ⟨_, rfl⟩
 rw [hY.out] at a2
 rw [hX.out]
 by_cases hT : t.text = x
 . have hne : (Y.toList == X.toList) = true := by rw [<- hX.out, <- hY.out, hT]; simp
   by_cases hk : t.kind = k
   . have HT := Lib.hid (pTake_yes w g gt n c ts r t h he k hk hk5)
     have hb : Hid (∀ t' r', t :: r = t' :: r' -> true = (decide (t'.kind = k) && decide (t'.text = x))) := by
      intro t' r' e
      injection e with e _
      subst e
      rw [decide_eq_true hk, decide_eq_true hT]; rfl
     clear h hP ht a1 a3 hr hk hT hY hX
     go_enter Tryz.func79, Tryz.ntmps79
     go_wp2_with fail
     refine HT.out.mono ?_
     rintro e w1 ⟨rfl, hA, hG⟩
     obtain ⟨V, e1, AV, BV, hsz⟩ := new_box w1 87 [.int .i64 (t.kind : Int), .string (stg t.text), .int .i64 (t.line : Int)]
     have hA := Lib.hid (hA.keep BV)
     have hG := Lib.hid (grown_on hG (grown_below BV _))
     clear HT AV BV
     go_wp2_with fail
     go_ret
     exact ⟨true, rfl, hb.out, hA.out, hG.out⟩
   . have HT := Lib.hid (pTake_not w g gt n c ts r t h k hk)
     have hb : Hid (∀ t' r', t :: r = t' :: r' -> false = (decide (t'.kind = k) && decide (t'.text = x))) := by
      intro t' r' e
      injection e with e _
      subst e
      rw [decide_eq_false hk]; rfl
     clear h hP ht a1 a3 hr hk hT hY hX
     go_enter Tryz.func79, Tryz.ntmps79
     go_wp2_with fail
     refine HT.out.mono ?_
     rintro e w1 ⟨rfl, hA, hG⟩
     obtain ⟨V0, V, e1, e2, AV, BV, hsz, r0, r1, r2, r3, r4, r5⟩ := new_put3 w1 87 (.int .i64 0) (.string ⟨#[]⟩) (.int .i64 0) (.int .i64 0) (.string ⟨#[]⟩) (.int .i64 0)
     have hA := Lib.hid (hA.keep BV)
     have hG := Lib.hid (grown_on hG (grown_below BV _))
     clear HT AV BV
     go_wp2_with fail
     go_ret
     exact ⟨false, rfl, hb.out, hA.out, hG.out⟩
 . have hne : (Y.toList == X.toList) = false := by
    rw [<- hX.out, <- hY.out, beq_eq_false_iff_ne]
    intro e
    exact hT (stg_eq (by rw [ByteArray.toList_eq, ByteArray.toList_eq] at e; exact bys_inj e))
   have hb : Hid (∀ t' r', t :: r = t' :: r' -> false = (decide (t'.kind = k) && decide (t'.text = x))) := by
    intro t' r' e
    injection e with e _
    subst e
    rw [decide_eq_false hT, Bool.and_false]
   have hA := Lib.hid h
   clear h hP ht a1 a3 hr hT hY hX
   go_enter Tryz.func79, Tryz.ntmps79
   go_wp2_with fail
   go_ret
   exact ⟨false, rfl, hb.out, hA.out, grown_self _ _⟩
theorem pMark_c (w : World) (g gt n c : Nat) (ts l : List Tok) (h : AtP w g gt n c ts l) (he : EndsT ts) (d : UInt8) :
    Calls Tryz.prog 81 #[.pointer (some ⟨g, 0, none⟩), .string (stg [d])] w fun e w' => e = .returned (.bool (atMark d l)) /\
      AtP w' g gt n c ts (if atMark d l then l.drop 1 else l) /\ w.grownBy w' (some g) := by
 have HT := Lib.hid (pTok_c w g gt n c ts l h he 4 (by decide) [d])
 obtain ⟨i, t, r, _, _, rfl, _⟩ := h.head
 have hm : Hid (atMark d (t :: r) = (decide (t.kind = 4) && decide (t.text = [d]))) := rfl
 obtain ⟨b, hb⟩ : ∃ b, Hid (atMark d (t :: r) = b) := ⟨_, rfl⟩
 rw [hb.out]
 obtain ⟨L, hL⟩ : ∃ L, Hid ((if b = true then (t :: r).drop 1 else t :: r) = L) := ⟨_, rfl⟩
 rw [hL.out]
 clear h
 go_enter Tryz.func81, Tryz.ntmps81
 go_wp2_with fail
 refine HT.out.mono ?_
 rintro e w1 ⟨b', rfl, h1, h2, h3⟩
 have e1 : b' = b := by rw [h1 t r rfl, <- hb.out, hm.out]
 subst e1
 rw [hL.out] at h2
 have h2 := Lib.hid h2
 have h3 := Lib.hid h3
 clear HT h1
 go_wp2_with fail
 go_ret
 exact ⟨rfl, h2.out, h3.out⟩
end Go.Proofs.YtemdkkphmldgjaaGreatDoor
namespace Go.Proofs.YtemdkkphmldgjaaGreatDoor
open Go.RowKit Lx
section
variable {w : World} {g b : Nat} {t : TypeId} {cs : List Value}
theorem Arr.off2 (h : Arr w g t cs) (hb : g ≠ b) (u0 u1 : Value) : Arr (Go.Proofs.YtemdkkphmldgjaaGreatDoor.put2 w b u0 u1) g t cs := (h.far (p := ⟨b, 0, none⟩) hb u0).far (p := ⟨b, 1, none⟩) hb u1
theorem Arr.off3 (h : Arr w g t cs) (hb : g ≠ b) (u0 u1 u2 : Value) : Arr (Go.Proofs.YtemdkkphmldgjaaGreatDoor.put3 w b u0 u1 u2) g t cs := ((h.far (p := ⟨b, 0, none⟩) hb u0).far (p := ⟨b, 1, none⟩) hb u1).far (p := ⟨b, 2, none⟩) hb u2
end
theorem grown_then {a b d : World} {row : Option Nat} (h : a.grownBy b row) (k : Below a.heap.size b d) : a.grownBy d row :=
 ⟨k.os.trans h.os, k.tape.trans h.tape, k.output.trans h.output, Nat.le_trans h.size k.size, fun i hi hne => (k.block i hi).trans (h.block i hi hne)⟩
theorem ownsRow_low {B s n k : Nat} {E : TypeId} {w w' : World} {v : Value} {us : List Value} (h : w.ownsRow B E s v n us) (hb : Below k w w') (hl : ∀ g, v.ownBlock = some g -> g < k) : w'.ownsRow B E s v n us := by
 refine ⟨h.1, ?_⟩
 rcases h.2 with h0 | ⟨g, cap, cur, hv, hg, hh, r⟩
 . exact Or.inl h0
 . exact Or.inr ⟨g, cap, cur, hv, hg, (hb.block g (hl g (by rw [hv]; rfl))).trans hh, r⟩
theorem ownsRow_set {B s n : Nat} {E : TypeId} {w : World} {v : Value} {us : List Value} (h : w.ownsRow B E s v n us) {p : Addr} (hp : v.ownBlock ≠ some p.block) (u : Value) : (w.setCell p u).ownsRow B E s v n us := by
 refine World.ownsRow.kept (row := some p.block) h ⟨rfl, rfl, rfl, by simp [World.setCell], fun k _ hk => Below.heap_setCell w _ u k (fun e => hk (by rw [e]))⟩ ?_
 exact Or.inr hp
theorem row_ne_box {B s n g : Nat} {E T : TypeId} {w : World} {v : Value} {us cs : List Value} (h : w.ownsRow B E s v n us) (hA : Arr w g T cs) (hT : T ≠ E) : v.ownBlock ≠ some g := by
 intro e
 rcases h.2 with ⟨hv, _⟩ | ⟨k, cap, cur, hv, _, hh, _⟩
 . rw [hv] at e; cases e
 . rw [hv] at e
   have e' : some k = some g := e
   injection e' with e'
   subst e'
   rw [show w.heap[k]? = _ from hA] at hh
   injection hh with hh
   injection hh with _ h2 _
   exact hT h2
theorem Arr.row {B s n g : Nat} {E T : TypeId} {w w' : World} {v : Value} {us cs : List Value} (hA : Arr w g T cs) (h : w.ownsRow B E s v n us) (hT : T ≠ E) (hg : w.grownBy w' v.ownBlock) : Arr w' g T cs :=
 (hg.block g hA.lt (fun e => row_ne_box h hA hT e.symm)).trans hA
theorem Ps.low {w w' : World} {g gt n c i : Nat} {ts : List Tok} (h : Ps w g gt n c ts i) {k : Nat} (hb : Below k w w') (h1 : g < k) (h2 : gt < k) : Ps w' g gt n c ts i :=
 ⟨h.arr.below hb h1, ownsRow_low h.tok hb (fun j hj => by have e : some gt = some j := hj; injection e with e; omega), h.ne, h.lt, h.cap⟩
theorem AtP.low {w w' : World} {g gt n c : Nat} {ts l : List Tok} (h : AtP w g gt n c ts l) {k : Nat} (hb : Below k w w') (h1 : g < k) (h2 : gt < k) : AtP w' g gt n c ts l := by
 obtain ⟨i, a, b⟩ := h
 exact ⟨i, a.low hb h1 h2, b⟩
theorem AtP.far {w : World} {g gt n c : Nat} {ts l : List Tok} (h : AtP w g gt n c ts l) {p : Addr} (h1 : g ≠ p.block) (h2 : gt ≠ p.block) (u : Value) : AtP (w.setCell p u) g gt n c ts l := by
 obtain ⟨i, a, b⟩ := h
 exact ⟨i, a.far h1 h2 u, b⟩
theorem AtP.put3 {w : World} {g gt n c : Nat} {ts l : List Tok} (h : AtP w g gt n c ts l) {b : Nat} (h1 : g ≠ b) (h2 : gt ≠ b) (u0 u1 u2 : Value) : AtP (put3 w b u0 u1 u2) g gt n c ts l :=
 ((h.far (p := ⟨b, 0, none⟩) h1 h2 u0).far (p := ⟨b, 1, none⟩) h1 h2 u1).far (p := ⟨b, 2, none⟩) h1 h2 u2
theorem AtP.put4 {w : World} {g gt n c : Nat} {ts l : List Tok} (h : AtP w g gt n c ts l) {b : Nat} (h1 : g ≠ b) (h2 : gt ≠ b) (u0 u1 u2 u3 : Value) : AtP (put4 w b u0 u1 u2 u3) g gt n c ts l :=
 (h.put3 h1 h2 u0 u1 u2).far (p := ⟨b, 3, none⟩) h1 h2 u3
theorem AtP.put2 {w : World} {g gt n c : Nat} {ts l : List Tok} (h : AtP w g gt n c ts l) {b : Nat} (h1 : g ≠ b) (h2 : gt ≠ b) (u0 u1 : Value) : AtP (put2 w b u0 u1) g gt n c ts l :=
 (h.far (p := ⟨b, 0, none⟩) h1 h2 u0).far (p := ⟨b, 1, none⟩) h1 h2 u1
theorem AtP.sub {w : World} {g gt n c : Nat} {ts l : List Tok} (h : AtP w g gt n c ts l) : l.length <= ts.length := by
 obtain ⟨i, _, b⟩ := h
 rw [<- b, List.length_drop]
 omega
def psN (g : Nat) (w : World) : Nat := match w.cell? ⟨g, 0, none⟩ with
 | some (.slice _ n _) => n
 | _ => 0
theorem AtP.psN {w : World} {g gt n c : Nat} {ts l : List Tok} (h : AtP w g gt n c ts l) : psN g w = l.length := by
 obtain ⟨i, a, b⟩ := h
 have hc : w.cell? ⟨g, 0, none⟩ = some (.slice (some ⟨gt, 3 * i, none⟩) (n - i) (c - i)) := a.arr.cell 0
 have hl := a.tok.len
 unfold Go.Proofs.YtemdkkphmldgjaaGreatDoor.psN
 rw [hc, <- b, List.length_drop, hl]
structure FSt (w wr : World) (g fb : Nat) (key : Value) (ln : Value) (ao : Option Addr) (n c : Nat) (vs : List (List UInt8)) : Prop where
 own : wr.ownsRow w.heap.size 9 1 (.slice ao n c) n (vs.map fun v => .string (stg v))
 box : Arr wr fb 63 [key, .slice ao n c, ln]
 res : Arr wr w.heap.size 63 [.string ⟨#[]⟩, .slice none 0 0, .int .i64 0]
 grown : w.grownBy wr (some g)
 new : w.heap.size < fb
 old : g < w.heap.size
section
variable {w wr w' : World} {g fb n c : Nat} {key ln : Value} {ao : Option Addr} {vs : List (List UInt8)}
theorem FSt.call (h : FSt w wr g fb key ln ao n c vs) (hg : wr.grownBy w' (some g)) : FSt w w' g fb key ln ao n c vs :=
 ⟨ownsRow_older h.own hg h.old, h.box.grown hg (by have := h.new; have := h.old; omega), h.res.grown hg (by have := h.old; omega), grown_on h.grown hg, h.new, h.old⟩
theorem FSt.keep (h : FSt w wr g fb key ln ao n c vs) (hb : Below wr.heap.size wr w') : FSt w w' g fb key ln ao n c vs := h.call (grown_below hb _)
theorem FSt.push (h : FSt w wr g fb key ln ao n c vs) {ao' : Option Addr} {c' : Nat} {x : List UInt8} (ho : w'.ownsRow w.heap.size 9 1 (.slice ao' (n + 1) c') (n + 1) ((vs.map fun v => .string (stg v)) ++ [.string (stg x)])) (hg : wr.grownBy w' (Value.slice ao n c).ownBlock) (hb : Below w.heap.size wr w') :
    ∃ W, w'.setCell ⟨fb, 1, none⟩ (.slice ao' (n + 1) c') = W /\ FSt w W g fb key ln ao' (n + 1) c' (vs ++ [x]) /\ Hid (W = w'.setCell ⟨fb, 1, none⟩ (.slice ao' (n + 1) c')) /\ w'.cell? ⟨fb, 1, none⟩ = some (.slice ao n c) /\ w'.frozen? ⟨fb, 1, none⟩ = false := by
 have A1 := h.box.row h.own (by decide) hg
 have R1 := h.res.row h.own (by decide) hg
 have hf := h.new
 refine ⟨_, rfl, ⟨?_, A1.set 1 _, R1.far (by show w.heap.size ≠ fb; omega) _, grown_set (grown_then h.grown hb) (by omega) _ _, h.new, h.old⟩, rfl, A1.cell 1, A1.frozen 1⟩
 have ho2 : w'.ownsRow w.heap.size 9 1 (.slice ao' (n + 1) c') (n + 1) ((vs ++ [x]).map fun v => .string (stg v)) := by simpa using ho
 exact ownsRow_set ho2 (row_ne_box ho2 A1 (by decide)) _
theorem FSt.strs (h : FSt w wr g fb key ln ao n c vs) : StrL (ownF w.heap.size [9]) wr ao n c vs := Row.own h.own (by decide)
end
end Go.Proofs.YtemdkkphmldgjaaGreatDoor
