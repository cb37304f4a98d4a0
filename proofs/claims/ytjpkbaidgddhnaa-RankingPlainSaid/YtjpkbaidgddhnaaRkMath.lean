/-
  Rankings on plain lists: the marks of a rank, the ranks one after another; what the program and the reference agree on.
-/
import Derived.Test.YtjpkbaidgddhnaaProg
namespace Go.Proofs.Ytjpkbaidgddhnaa
namespace Rk

/-- How many different numbers from 0 to n - 1 a list has (2: several), and the first of them. -/
def mk (n : Nat) : List Int → Int → Nat → Int × Nat
  | [], f, k => (f, k)
  | x :: l, f, k => if x < 0 ∨ (n : Int) ≤ x then mk n l f k else if k = 0 then mk n l x 1 else if x = f then mk n l f k else (f, 2)
/-- Whether a blank rank ends the ranking. -/
def ends (sk : Int) (b : Bool) : Bool := if sk = 1 then false else if sk = 3 then b else true
/-- One rank; none: the ranking ends. -/
def stepR (n : Nat) (ov sk : Int) (l : List Int) (R : List Int) (b : Bool) : Option (List Int × Bool) :=
  if (mk n l 0 0).2 = 2 ∧ ov ≠ 2 then none
  else if (mk n l 0 0).2 = 1 then some (if (mk n l 0 0).1 ∈ R then R else R ++ [(mk n l 0 0).1], false)
  else if ends sk b = true then none
  else some (R, true)
def goR (n : Nat) (ov sk : Int) : List (List Int) → List Int → Bool → List Int
  | [], R, _ => R
  | l :: ls, R, b => match stepR n ov sk l R b with
    | none => R
    | some s => goR n ov sk ls s.1 s.2
/-- The ranking of a vote. -/
def rank (n : Nat) (ranks ov sk : Int) (ls : List (List Int)) : List Int := goR n ov sk (ls.take ranks.toNat) [] false

def In (n : Nat) (x : Int) : Prop := 0 ≤ x ∧ x < (n : Int)
structure GoodR (n : Nat) (R : List Int) : Prop where
  nodup : R.Nodup
  inn : ∀ x ∈ R, In n x

theorem mk_one (n : Nat) : ∀ (l : List Int) (f : Int), ((mk n l f 1).2 = 1 ∧ (mk n l f 1).1 = f ∧ ∀ x ∈ l, In n x → x = f) ∨ ((mk n l f 1).2 = 2 ∧ ∃ x ∈ l, In n x ∧ x ≠ f)
  | [], f => Or.inl ⟨rfl, rfl, fun x hx => by cases hx⟩
  | x :: l, f => by
    rw [mk]
    by_cases h : x < 0 ∨ (n : Int) ≤ x
    · rw [if_pos h]
      rcases mk_one n l f with ⟨h1, h2, h3⟩ | ⟨h1, y, h2, h3⟩
      · refine Or.inl ⟨h1, h2, fun y hy hi => ?_⟩
        rcases List.mem_cons.1 hy with rfl | hy
        · unfold In at hi; omega
        · exact h3 y hy hi
      · exact Or.inr ⟨h1, y, List.mem_cons_of_mem _ h2, h3⟩
    · rw [if_neg h, if_neg (by decide)]
      by_cases hf : x = f
      · rw [if_pos hf]
        rcases mk_one n l f with ⟨h1, h2, h3⟩ | ⟨h1, y, h2, h3⟩
        · refine Or.inl ⟨h1, h2, fun y hy hi => ?_⟩
          rcases List.mem_cons.1 hy with rfl | hy
          · exact hf
          · exact h3 y hy hi
        · exact Or.inr ⟨h1, y, List.mem_cons_of_mem _ h2, h3⟩
      · rw [if_neg hf]
        exact Or.inr ⟨rfl, x, List.mem_cons_self, by unfold In; omega, hf⟩
theorem mk_zero (n : Nat) : ∀ (l : List Int) (f : Int), ((mk n l f 0).2 = 0 ∧ ∀ x ∈ l, ¬ In n x) ∨ ((mk n l f 0).2 = 1 ∧ (mk n l f 0).1 ∈ l ∧ In n (mk n l f 0).1 ∧ ∀ x ∈ l, In n x → x = (mk n l f 0).1) ∨ ((mk n l f 0).2 = 2 ∧ ∃ x ∈ l, ∃ y ∈ l, In n x ∧ In n y ∧ x ≠ y)
  | [], f => Or.inl ⟨rfl, fun x hx => by cases hx⟩
  | x :: l, f => by
    rw [mk]
    by_cases h : x < 0 ∨ (n : Int) ≤ x
    · rw [if_pos h]
      have hx : ¬ In n x := by unfold In; omega
      rcases mk_zero n l f with ⟨h1, h2⟩ | ⟨h1, h2, h3, h4⟩ | ⟨h1, y, h2, z, h3, h4⟩
      · exact Or.inl ⟨h1, fun y hy => by
          rcases List.mem_cons.1 hy with rfl | hy
          · exact hx
          · exact h2 y hy⟩
      · exact Or.inr (Or.inl ⟨h1, List.mem_cons_of_mem _ h2, h3, fun y hy hi => by
          rcases List.mem_cons.1 hy with rfl | hy
          · exact absurd hi hx
          · exact h4 y hy hi⟩)
      · exact Or.inr (Or.inr ⟨h1, y, List.mem_cons_of_mem _ h2, z, List.mem_cons_of_mem _ h3, h4⟩)
    · rw [if_neg h, if_pos rfl]
      have hx : In n x := by unfold In; omega
      rcases mk_one n l x with ⟨h1, h2, h3⟩ | ⟨h1, y, h2, h3, h4⟩
      · refine Or.inr (Or.inl ⟨h1, by rw [h2]; exact List.mem_cons_self, by rw [h2]; exact hx, fun y hy hi => ?_⟩)
        rw [h2]
        rcases List.mem_cons.1 hy with rfl | hy
        · rfl
        · exact h3 y hy hi
      · exact Or.inr (Or.inr ⟨h1, x, List.mem_cons_self, y, List.mem_cons_of_mem _ h2, hx, h3, fun e => h4 e.symm⟩)
theorem mk_le (n : Nat) (l : List Int) : (mk n l 0 0).2 ≤ 2 := by
  rcases mk_zero n l 0 with ⟨h, _⟩ | ⟨h, _⟩ | ⟨h, _⟩ <;> omega

/-- The marks in ascending order, as the reference collects them: those below c. -/
def mks (l : List Int) : Nat → List Int
  | 0 => []
  | c + 1 => if (c : Int) ∈ l then mks l c ++ [(c : Int)] else mks l c
theorem mem_mks (l : List Int) : ∀ (c : Nat) (x : Int), x ∈ mks l c ↔ In c x ∧ x ∈ l
  | 0, x => ⟨fun h => (by cases h), fun h => by obtain ⟨⟨h1, h2⟩, _⟩ := h; omega⟩
  | c + 1, x => by
    have ih := mem_mks l c x
    unfold In at ih ⊢
    rw [mks]
    by_cases h : (c : Int) ∈ l
    · rw [if_pos h, List.mem_append, ih, List.mem_singleton]
      constructor
      · rintro (⟨⟨h1, h2⟩, h3⟩ | rfl)
        · exact ⟨⟨h1, by omega⟩, h3⟩
        · exact ⟨⟨by omega, by omega⟩, h⟩
      · rintro ⟨⟨h1, h2⟩, h3⟩
        by_cases he : x = (c : Int)
        · exact Or.inr he
        · exact Or.inl ⟨⟨h1, by omega⟩, h3⟩
    · rw [if_neg h, ih]
      constructor
      · rintro ⟨⟨h1, h2⟩, h3⟩
        exact ⟨⟨h1, by omega⟩, h3⟩
      · rintro ⟨⟨h1, h2⟩, h3⟩
        refine ⟨⟨h1, ?_⟩, h3⟩
        rcases Int.lt_or_eq_of_le (show x ≤ (c : Int) by omega) with h4 | h4
        · exact h4
        · exact absurd (h4 ▸ h3) h
theorem mks_nodup (l : List Int) : ∀ c, (mks l c).Nodup
  | 0 => List.nodup_nil
  | c + 1 => by
    rw [mks]
    split
    · rw [List.nodup_append]
      refine ⟨mks_nodup l c, by simp, fun a ha b hb => ?_⟩
      have h1 := ((mem_mks l c a).1 ha).1.2
      rw [List.mem_singleton] at hb
      omega
    · exact mks_nodup l c
theorem mks_len (l : List Int) : ∀ c, (mks l c).length ≤ c
  | 0 => Nat.le_refl _
  | c + 1 => by
    have := mks_len l c
    rw [mks]
    split
    · rw [List.length_append, List.length_singleton]; omega
    · omega
/-- The reference's marks are those of the program: none, one, or several. -/
theorem mk_mks (n : Nat) (l : List Int) : ((mk n l 0 0).2 = 0 ∧ mks l n = []) ∨ ((mk n l 0 0).2 = 1 ∧ mks l n = [(mk n l 0 0).1]) ∨ ((mk n l 0 0).2 = 2 ∧ 1 < (mks l n).length) := by
  rcases mk_zero n l 0 with ⟨h1, h2⟩ | ⟨h1, h2, h3, h4⟩ | ⟨h1, x, hx, y, hy, ix, iy, hne⟩
  · refine Or.inl ⟨h1, List.eq_nil_iff_forall_not_mem.2 fun x hx => ?_⟩
    have := (mem_mks l n x).1 hx
    exact h2 x this.2 this.1
  · refine Or.inr (Or.inl ⟨h1, ?_⟩)
    have hm := (mem_mks l n _).2 ⟨h3, h2⟩
    have ha : ∀ x ∈ mks l n, x = (mk n l 0 0).1 := fun x hx => by
      have := (mem_mks l n x).1 hx
      exact h4 x this.2 this.1
    have hd := mks_nodup l n
    generalize mks l n = L at hm ha hd
    match L, hm, ha, hd with
    | [a], _, ha, _ => rw [ha a List.mem_cons_self]
    | a :: b :: L, _, ha, hd =>
      have e1 := ha a List.mem_cons_self
      have e2 := ha b (List.mem_cons_of_mem _ List.mem_cons_self)
      rw [List.nodup_cons] at hd
      exact absurd (show a ∈ b :: L by rw [e1, ← e2]; exact List.mem_cons_self) hd.1
  · refine Or.inr (Or.inr ⟨h1, ?_⟩)
    have h2 := (mem_mks l n x).2 ⟨ix, hx⟩
    have h3 := (mem_mks l n y).2 ⟨iy, hy⟩
    generalize mks l n = L at h2 h3
    match L, h2, h3 with
    | [a], h2, h3 =>
      rw [List.mem_singleton] at h2 h3
      exact absurd (h2.trans h3.symm) hne
    | a :: b :: L, _, _ => simp

section
variable {n : Nat} {ov sk : Int}
theorem step_some {l R R' : List Int} {b b' : Bool} (h : stepR n ov sk l R b = some (R', b')) (hR : GoodR n R) : GoodR n R' ∧ R'.length ≤ R.length + 1 ∧ R <+: R' ∧ ∀ x ∈ R', x ∈ R ∨ x ∈ l := by
  unfold stepR at h
  split at h
  · cases h
  · split at h
    · rename_i h1
      have hm : (mk n l 0 0).1 ∈ l ∧ In n (mk n l 0 0).1 := by
        rcases mk_zero n l 0 with ⟨h2, _⟩ | ⟨_, h2, h3, _⟩ | ⟨h2, _⟩
        · omega
        · exact ⟨h2, h3⟩
        · omega
      injection h with h
      injection h with h2 h3
      subst h2
      split
      · exact ⟨hR, by omega, List.prefix_refl _, fun x hx => Or.inl hx⟩
      · rename_i hn
        refine ⟨⟨?_, fun x hx => ?_⟩, by simp, List.prefix_append _ _, fun x hx => ?_⟩
        · rw [List.nodup_append]
          refine ⟨hR.nodup, by simp, fun a ha b hb e => ?_⟩
          rw [List.mem_singleton] at hb
          exact hn (by rw [← hb, ← e]; exact ha)
        · rcases List.mem_append.1 hx with hx | hx
          · exact hR.inn x hx
          · rw [List.mem_singleton] at hx
            rw [hx]
            exact hm.2
        · rcases List.mem_append.1 hx with hx | hx
          · exact Or.inl hx
          · rw [List.mem_singleton] at hx
            rw [hx]
            exact Or.inr hm.1
    · split at h
      · cases h
      · injection h with h
        injection h with h2 h3
        subst h2
        exact ⟨hR, by omega, List.prefix_refl _, fun x hx => Or.inl hx⟩
theorem goR_cons_none {l : List Int} {ls : List (List Int)} {R : List Int} {b : Bool} (h : stepR n ov sk l R b = none) : goR n ov sk (l :: ls) R b = R := by
  rw [goR, h]
theorem goR_cons_some {l R R' : List Int} {ls : List (List Int)} {b b' : Bool} (h : stepR n ov sk l R b = some (R', b')) : goR n ov sk (l :: ls) R b = goR n ov sk ls R' b' := by
  rw [goR, h]
theorem goR_good : ∀ (ls : List (List Int)) (R : List Int) (b : Bool), GoodR n R → GoodR n (goR n ov sk ls R b) ∧ R <+: goR n ov sk ls R b ∧ ∀ x ∈ goR n ov sk ls R b, x ∈ R ∨ ∃ l ∈ ls, x ∈ l
  | [], R, b, h => ⟨h, List.prefix_refl _, fun x hx => Or.inl hx⟩
  | l :: ls, R, b, h => by
    cases hs : stepR n ov sk l R b with
    | none => rw [goR_cons_none hs]; exact ⟨h, List.prefix_refl _, fun x hx => Or.inl hx⟩
    | some s =>
      obtain ⟨R', b'⟩ := s
      rw [goR_cons_some hs]
      obtain ⟨g1, _, g2, g3⟩ := step_some hs h
      obtain ⟨i1, i2, i3⟩ := goR_good ls R' b' g1
      refine ⟨i1, g2.trans i2, fun x hx => ?_⟩
      rcases i3 x hx with hx | ⟨k, hk, hx⟩
      · rcases g3 x hx with hx | hx
        · exact Or.inl hx
        · exact Or.inr ⟨l, List.mem_cons_self, hx⟩
      · exact Or.inr ⟨k, List.mem_cons_of_mem _ hk, hx⟩
theorem good_nil : GoodR n [] := ⟨List.nodup_nil, fun x hx => by cases hx⟩
/-- Ranks left off at the end: a prefix. -/
theorem goR_app : ∀ (A B : List (List Int)) (R : List Int) (b : Bool), GoodR n R → goR n ov sk A R b <+: goR n ov sk (A ++ B) R b
  | [], B, R, b, h => (goR_good B R b h).2.1
  | l :: A, B, R, b, h => by
    rw [List.cons_append]
    cases hs : stepR n ov sk l R b with
    | none => rw [goR_cons_none hs, goR_cons_none hs]; exact List.prefix_refl _
    | some s =>
      obtain ⟨R', b'⟩ := s
      rw [goR_cons_some hs, goR_cons_some hs]
      exact goR_app A B R' b' (step_some hs h).1
/-- A stricter rule for blank ranks: a prefix. -/
theorem goR_strict {sk' : Int} (hs : ∀ b b', ends sk b = false → ends sk' b' = false) : ∀ (ls : List (List Int)) (R : List Int) (b b' : Bool), GoodR n R → goR n ov sk ls R b <+: goR n ov sk' ls R b'
  | [], R, _, _, _ => List.prefix_refl _
  | l :: ls, R, b, b', h => by
    have hp : R <+: goR n ov sk' (l :: ls) R b' := (goR_good (l :: ls) R b' h).2.1
    by_cases h1 : (mk n l 0 0).2 = 2 ∧ ov ≠ 2
    · rw [goR_cons_none (show stepR n ov sk l R b = none by rw [stepR, if_pos h1])]; exact hp
    · by_cases h2 : (mk n l 0 0).2 = 1
      · have e1 : stepR n ov sk l R b = some (if (mk n l 0 0).1 ∈ R then R else R ++ [(mk n l 0 0).1], false) := by rw [stepR, if_neg h1, if_pos h2]
        have e2 : stepR n ov sk' l R b' = some (if (mk n l 0 0).1 ∈ R then R else R ++ [(mk n l 0 0).1], false) := by rw [stepR, if_neg h1, if_pos h2]
        rw [goR_cons_some e1, goR_cons_some e2]
        exact goR_strict hs ls _ _ _ (step_some e1 h).1
      · cases he : ends sk b with
        | true => rw [goR_cons_none (show stepR n ov sk l R b = none by rw [stepR, if_neg h1, if_neg h2, if_pos he])]; exact hp
        | false =>
          have he' := hs b b' he
          have e1 : stepR n ov sk l R b = some (R, true) := by rw [stepR, if_neg h1, if_neg h2, if_neg (by rw [he]; decide)]
          have e2 : stepR n ov sk' l R b' = some (R, true) := by rw [stepR, if_neg h1, if_neg h2, if_neg (by rw [he']; decide)]
          rw [goR_cons_some e1, goR_cons_some e2]
          exact goR_strict hs ls _ _ _ h
/-- One mark a rank, all different: these. -/
theorem goR_plain : ∀ (ks R : List Int) (b : Bool), GoodR n (R ++ ks) → goR n ov sk (ks.map fun k => [k]) R b = R ++ ks
  | [], R, b, _ => by simp [goR]
  | k :: ks, R, b, h => by
    have hi : In n k := h.inn k (by simp)
    have hm : mk n [k] 0 0 = (k, 1) := by
      rw [mk, if_neg (by unfold In at hi; omega), if_pos rfl, mk]
    have hk : k ∉ R := fun hR => by
      have := h.nodup
      rw [List.nodup_append] at this
      exact this.2.2 k hR k List.mem_cons_self rfl
    have e : stepR n ov sk [k] R b = some (R ++ [k], false) := by
      rw [stepR, hm, if_neg (by simp), if_pos rfl, if_neg hk]
    rw [List.map_cons, goR_cons_some e, goR_plain ks (R ++ [k]) false (by rw [List.append_assoc]; exact h), List.append_assoc]
    rfl
end
theorem rank_good (n : Nat) (ranks ov sk : Int) (ls : List (List Int)) : GoodR n (rank n ranks ov sk ls) := (goR_good _ _ _ good_nil).1
theorem good_len {n : Nat} {R : List Int} (h : GoodR n R) : R.length ≤ n := by
  have hs : R.length ≤ ((List.range n).map (fun k : Nat => (k : Int))).length := by
    refine List.Nodup.length_le_of_subset h.nodup fun x hx => ?_
    have := h.inn x hx
    refine List.mem_map.2 ⟨x.toNat, List.mem_range.2 ?_, ?_⟩ <;> unfold In at this <;> omega
  simpa using hs
end Rk
end Go.Proofs.Ytjpkbaidgddhnaa
