/-
  A region that draws its order: a load may be taken first where an operation that waits for it is the first that could turn its cell.
-/
import Derived.OrdersHeld
import Derived.RegionTactic
import Derived.Lib.Hide
namespace Go.Proofs.Ytbnomkcliejcaaa
open Go.RowKit

section
variable {P : Program} {md : Region.Mode} {ops : Array Oper} {Q : Exit → Act → World → Prop} {S : Array Bool → World → Prop}
/-- As wpAnyH, but what holds behind an operation may hang on which have come up. -/
def wpAnyL (P : Program) (md : Region.Mode) (ops : Array Oper) (Q : Exit → Act → World → Prop) (S : Array Bool → World → Prop) : Nat → Array Bool → Act → World → Prop
  | 0, listed, a, w => Region.ready md ops listed = [] ∧ Q .normal a w
  | fuel + 1, listed, a, w => (Region.ready md ops listed = [] → Q .normal a w) ∧ ∀ i ∈ Region.ready md ops listed, wpOp P ops Q i (fun a' w' => S (listed.setIfInBounds i true) w' ∧ wpAnyL P md ops Q S fuel (listed.setIfInBounds i true) a' w') a w
theorem wpAny_of_L : ∀ (fuel : Nat) (listed : Array Bool) (a : Act) (w : World), wpAnyL P md ops Q S fuel listed a w → wpAny P md ops Q fuel listed a w
  | 0, _, _, _, h => h
  | fuel + 1, _, _, _, h => ⟨h.1, fun i hi => wpOp_mono (fun a' w' h' => wpAny_of_L fuel _ a' w' h'.2) (h.2 i hi)⟩
theorem wpAnyL_first {i : Nat} {oi : Oper} {v : Value} {L : Array Bool → Prop} (hi : ops[i]? = some oi) (hsel : ∀ (j : Nat) (o : Oper) cs b, ops[j]? = some o → o.op ≠ .select cs b)
    (hQ : ∀ c a w, Q (.panic c) (a.put oi.dst v) w → Q (.panic c) a w) (hSi : ∀ l w, S (l.setIfInBounds i true) w ↔ S l w) (hL : ∀ (l : Array Bool) j oj, ops[j]? = some oj → j ≠ i → (∀ e ∈ oj.after, Region.binds md e = true → e.on ≠ i) → L l → L (l.setIfInBounds j true)) :
    ∀ (fuel : Nat) (listed : Array Bool) (a : Act) (w : World),
      (∀ j oj, ops[j]? = some oj → j ≠ i → listed.getD j true = false → (∀ e ∈ oj.after, Region.binds md e = true → e.on ≠ i) → oi.apart ops oj = true) →
      i ∈ Region.ready md ops listed → YieldsIf P ops (fun w => ∃ l, L l ∧ S l w) oi v a → L listed → S listed w →
      wpAnyL P md ops Q S fuel (listed.setIfInBounds i true) (a.put oi.dst v) w → wpAnyL P md ops Q S (fuel + 1) listed a w := by
  intro fuel
  induction fuel with
  | zero =>
    intro listed a w _ hr hy hl hS H
    refine ⟨fun h => (by rw [h] at hr; cases hr), fun j hj => ?_⟩
    by_cases hji : j = i
    · subst hji; exact hy.wpOp hi ⟨_, hl, hS⟩ ⟨(hSi _ _).2 hS, H⟩
    · have := ready_mono hj hji
      rw [H.1] at this
      cases this
  | succ fuel ih =>
    intro listed a w hfree hr hy hl hS H
    refine ⟨fun h => (by rw [h] at hr; cases hr), fun j hj => ?_⟩
    by_cases hji : j = i
    · subst hji; exact hy.wpOp hi ⟨_, hl, hS⟩ ⟨(hSi _ _).2 hS, H⟩
    · have h1 := H.2 j (ready_mono hj hji)
      obtain ⟨hjun, oj, hoj, hall⟩ := mem_ready.1 hj
      have hnot : ∀ e ∈ oj.after, Region.binds md e = true → e.on ≠ i := fun e he hb heq => by
        have h1 := hall e he hb
        have h0 := (mem_ready.1 hr).1
        rw [heq] at h1
        rcases Nat.lt_or_ge i listed.size with h' | h'
        · simp [h'] at h0 h1; rw [h0] at h1; cases h1
        · simp [Array.getElem?_eq_none h'] at h1
      have h2 := wpOp_putIf hoj (hfree j oj hoj hji hjun hnot) (fun cs b => hsel i oi cs b hi) (fun cs b => hsel j oj cs b hoj) hQ hy h1
      have hfree' : ∀ k ok, ops[k]? = some ok → k ≠ i → (listed.setIfInBounds j true).getD k true = false → (∀ e ∈ ok.after, Region.binds md e = true → e.on ≠ i) → oi.apart ops ok = true := fun k ok hk hki hun hno => by
        refine hfree k ok hk hki ?_ hno
        by_cases hjk : j = k
        · subst hjk; exact hjun
        · rw [getD_set_ne true hjk] at hun; exact hun
      refine wpOp_mono (fun a' w' h3 => ?_) h2
      have h4 := h3.2
      rw [Array.setIfInBounds_comm _ _ (Ne.symm hji)] at h4
      have h5 := (hSi _ _).1 h4.1
      exact ⟨h5, ih (listed.setIfInBounds j true) a' w' hfree' (ready_mono hr (Ne.symm hji)) h3.1 (hL _ _ _ hoj hji hnot hl) h5 h4.2⟩
/-- What is held: each fact until an operation comes up. -/
def SL (Cs : List (Nat × (World → Prop))) (l : Array Bool) (w : World) : Prop := ∀ c ∈ Cs, l.getD c.1 true = false → c.2 w
variable {Cs : List (Nat × (World → Prop))}
theorem SL_set {i : Nat} (h : Cs.all (fun c => c.1 != i) = true) (l : Array Bool) (w : World) : SL Cs (l.setIfInBounds i true) w ↔ SL Cs l w := by
  have hh : ∀ c ∈ Cs, (l.setIfInBounds i true).getD c.1 true = l.getD c.1 true := fun c hc => by
    have := List.all_eq_true.1 h c hc
    exact getD_set_ne true (fun e => by rw [e] at this; simp at this)
  exact ⟨fun k c hc hl => k c hc (by rw [hh c hc]; exact hl), fun k c hc hl => k c hc (by rw [hh c hc] at hl; exact hl)⟩
variable {l : List Oper}
theorem wp_region_L {id : Nat} {a : Act} {w : World} (Cs : List (Nat × (World → Prop))) (hm : P.follows .mixedOrders = true) (hS : SL Cs (Array.replicate l.toArray.size false) w.drew) (h : SL Cs (Array.replicate l.toArray.size false) w.drew → wpAnyL P .any l.toArray Q (SL Cs) l.toArray.size (Array.replicate l.toArray.size false) a w.drew) : (Code.region id l.toArray true).wp P Q a w :=
  wp_region_any hm (wpAny_of_L _ _ _ _ (h hS))
/-- A load is taken: its cell is held until c comes up, which waits for it. -/
theorem regL_take {i : Nat} {oi : Oper} {v : Value} {fuel : Nat} {listed : Array Bool} {a : Act} {w : World} (c : Nat × (World → Prop)) (hi : l[i]? = some oi) (hc : c ∈ Cs) (hni : Cs.all (fun c => c.1 != i) = true)
    (hwt : ((l[c.1]?).map fun o => o.after.any fun e => Region.binds md e && e.on == i) = some true) (hlc : listed.getD c.1 true = false)
    (hs : Region.noSelect l.toArray = true) (hf : Region.free md l.toArray listed i = true) (hr : (Region.ready md l.toArray listed).contains i = true)
    (hQ : ∀ c a w, Q (.panic c) (a.put oi.dst v) w → Q (.panic c) a w) (hwant : Region.wanted oi (yielded l.toArray a.tmps) = true) (hS : SL Cs listed w) (hy : ∀ w, c.2 w → (execOp a.eval oi).run P w = .ok (.value v) w)
    (h : SL Cs (listed.setIfInBounds i true) w → wpAnyL P md l.toArray Q (SL Cs) fuel (listed.setIfInBounds i true) (a.put oi.dst v) w) : wpAnyL P md l.toArray Q (SL Cs) (fuel + 1) listed a w := by
  refine wpAnyL_first (L := fun l => l.getD c.1 true = false) (by simpa using hi) (Region.noSelect_spec hs) hQ (SL_set hni) ?_ fuel listed a w (Region.free_spec (by simpa using hi) hf) (by simpa using hr) (Or.inl ⟨hwant, fun w ⟨l', h1, h2⟩ => hy w (h2 c hc h1)⟩) hlc hS (h ((SL_set hni _ _).2 hS))
  intro l' j oj hj hji hnot hl'
  by_cases hjc : j = c.1
  · subst hjc
    exfalso
    have hj' : l[c.1]? = some oj := by simpa using hj
    rw [hj'] at hwt
    simp only [Option.map_some, Option.some.injEq] at hwt
    obtain ⟨e, he, hb⟩ := Array.any_eq_true'.1 hwt
    simp only [Bool.and_eq_true, beq_iff_eq] at hb
    exact hnot e he hb.1 hb.2
  · show (l'.setIfInBounds j true).getD c.1 true = false
    rw [getD_set_ne true hjc]; exact hl'
/-- What looks at no memory is taken. -/
theorem regL_pure {i : Nat} {oi : Oper} {v : Value} {fuel : Nat} {listed : Array Bool} {a : Act} {w : World} (hi : l[i]? = some oi) (hni : Cs.all (fun c => c.1 != i) = true)
    (hs : Region.noSelect l.toArray = true) (hf : Region.free md l.toArray listed i = true) (hr : (Region.ready md l.toArray listed).contains i = true)
    (hQ : ∀ c a w, Q (.panic c) (a.put oi.dst v) w → Q (.panic c) a w) (hwant : Region.wanted oi (yielded l.toArray a.tmps) = true) (hS : SL Cs listed w) (hy : ∀ w, (execOp a.eval oi).run P w = .ok (.value v) w)
    (h : SL Cs (listed.setIfInBounds i true) w → wpAnyL P md l.toArray Q (SL Cs) fuel (listed.setIfInBounds i true) (a.put oi.dst v) w) : wpAnyL P md l.toArray Q (SL Cs) (fuel + 1) listed a w :=
  wpAnyL_first (L := fun _ => True) (by simpa using hi) (Region.noSelect_spec hs) hQ (SL_set hni) (fun _ _ _ _ _ _ _ => trivial) fuel listed a w (Region.free_spec (by simpa using hi) hf) (by simpa using hr) (Or.inl ⟨hwant, fun w _ => hy w⟩) trivial hS (h ((SL_set hni _ _).2 hS))
/-- regL_pure, its closed facts in one. -/
theorem regP {i : Nat} {oi : Oper} {v : Value} {fuel : Nat} {listed : Array Bool} {a : Act} {w : World} (hi : l[i]? = some oi) (hni : Cs.all (fun c => c.1 != i) = true) (hk : (Region.noSelect l.toArray && Region.free md l.toArray listed i && (Region.ready md l.toArray listed).contains i) = true) (hwant : Region.wanted oi (yielded l.toArray a.tmps) = true)
    (hQ : ∀ c a w, Q (.panic c) (a.put oi.dst v) w → Q (.panic c) a w) (hS : SL Cs listed w) (hy : ∀ w, (execOp a.eval oi).run P w = .ok (.value v) w) (h : SL Cs (listed.setIfInBounds i true) w → wpAnyL P md l.toArray Q (SL Cs) fuel (listed.setIfInBounds i true) (a.put oi.dst v) w) : wpAnyL P md l.toArray Q (SL Cs) (fuel + 1) listed a w := by
  simp only [Bool.and_eq_true] at hk
  exact regL_pure hi hni hk.1.1 hk.1.2 hk.2 hQ hwant hS hy h
/-- regL_take of the k-th cell that is held. -/
theorem regT {i k : Nat} {oi : Oper} {v : Value} {fuel : Nat} {listed : Array Bool} {a : Act} {w : World} {c : Nat × (World → Prop)} (hc : Cs[k]? = some c) (hi : l[i]? = some oi) (hni : Cs.all (fun c => c.1 != i) = true)
    (hk : ((((l[c.1]?).map fun o => o.after.any fun e => Region.binds md e && e.on == i) == some true) && Region.noSelect l.toArray && Region.free md l.toArray listed i && (Region.ready md l.toArray listed).contains i) = true) (hlc : listed.getD c.1 true = false) (hwant : Region.wanted oi (yielded l.toArray a.tmps) = true)
    (hQ : ∀ c a w, Q (.panic c) (a.put oi.dst v) w → Q (.panic c) a w) (hS : SL Cs listed w) (hy : ∀ w, c.2 w → (execOp a.eval oi).run P w = .ok (.value v) w) (h : SL Cs (listed.setIfInBounds i true) w → wpAnyL P md l.toArray Q (SL Cs) fuel (listed.setIfInBounds i true) (a.put oi.dst v) w) : wpAnyL P md l.toArray Q (SL Cs) (fuel + 1) listed a w := by
  simp only [Bool.and_eq_true, beq_iff_eq] at hk
  exact regL_take c hi (List.mem_of_getElem? hc) hni hk.1.1.1 hlc hk.1.1.2 hk.1.2 hk.2 hQ hwant hS hy h
theorem nof {p : Prop} (h : true = false) : p := Bool.noConfusion h
theorem sl1 {c1 : Nat × (World → Prop)} {m : Array Bool} {w : World} (h1 : m.getD c1.1 true = false → c1.2 w) : SL [c1] m w := fun c hc => by
  rw [List.mem_singleton.1 hc]; exact h1
theorem slC {c1 : Nat × (World → Prop)} {m : Array Bool} {w : World} (h1 : m.getD c1.1 true = false → c1.2 w) (h : SL Cs m w) : SL (c1 :: Cs) m w := fun c hc => by
  rcases List.mem_cons.1 hc with rfl | hc
  · exact h1
  · exact h c hc
theorem sl2 {c1 c2 : Nat × (World → Prop)} {m : Array Bool} {w : World} (h1 : m.getD c1.1 true = false → c1.2 w) (h2 : m.getD c2.1 true = false → c2.2 w) : SL [c1, c2] m w := slC h1 (sl1 h2)
theorem sl3 {c1 c2 c3 : Nat × (World → Prop)} {m : Array Bool} {w : World} (h1 : m.getD c1.1 true = false → c1.2 w) (h2 : m.getD c2.1 true = false → c2.2 w) (h3 : m.getD c3.1 true = false → c3.2 w) : SL [c1, c2, c3] m w := slC h1 (sl2 h2 h3)
theorem sl4 {c1 c2 c3 c4 : Nat × (World → Prop)} {m : Array Bool} {w : World} (h1 : m.getD c1.1 true = false → c1.2 w) (h2 : m.getD c2.1 true = false → c2.2 w) (h3 : m.getD c3.1 true = false → c3.2 w) (h4 : m.getD c4.1 true = false → c4.2 w) : SL [c1, c2, c3, c4] m w := slC h1 (sl3 h2 h3 h4)
theorem regL_ready {rs : List Nat} {fuel : Nat} {listed : Array Bool} {a : Act} {w : World} (hr : Region.ready md ops listed = rs) (hne : rs ≠ []) (h : ∀ i ∈ rs, wpOp P ops Q i (fun a' w' => S (listed.setIfInBounds i true) w' ∧ wpAnyL P md ops Q S fuel (listed.setIfInBounds i true) a' w') a w) : wpAnyL P md ops Q S (fuel + 1) listed a w :=
  ⟨fun h0 => absurd (hr ▸ h0) hne, hr ▸ h⟩
theorem regL_nil {fuel : Nat} {listed : Array Bool} {a : Act} {w : World} : ∀ i ∈ ([] : List Nat), wpOp P ops Q i (fun a' w' => S (listed.setIfInBounds i true) w' ∧ wpAnyL P md ops Q S fuel (listed.setIfInBounds i true) a' w') a w := fun _ h => by cases h
theorem regL_cons {i : Nat} {o : Oper} {rs : List Nat} {fuel : Nat} {listed : Array Bool} {a : Act} {w : World} (ho : l[i]? = some o) (hwant : Region.wanted o (yielded l.toArray a.tmps) = true)
    (h : ∀ K : Act → World → Prop, Hid (∀ a w, S (listed.setIfInBounds i true) w → (S (listed.setIfInBounds i true) w → wpAnyL P md l.toArray Q S fuel (listed.setIfInBounds i true) a w) → K a w) → Oper.wp P o a w K Q)
    (hs : ∀ i ∈ rs, wpOp P l.toArray Q i (fun a' w' => S (listed.setIfInBounds i true) w' ∧ wpAnyL P md l.toArray Q S fuel (listed.setIfInBounds i true) a' w') a w) :
    ∀ j ∈ i :: rs, wpOp P l.toArray Q j (fun a' w' => S (listed.setIfInBounds j true) w' ∧ wpAnyL P md l.toArray Q S fuel (listed.setIfInBounds j true) a' w') a w := fun j hj => by
  rcases List.mem_cons.1 hj with rfl | hj
  · refine wpOp_step (by simpa using ho) (fun K' hK => ?_)
    rw [if_pos hwant]
    exact h K' (fun a w hS hW => hK a w ⟨hS, hW hS⟩)
  · exact hs j hj
theorem regL_done {listed : Array Bool} {a : Act} {w : World} (hr : Region.ready md ops listed = []) (h : Q .normal a w) : ∀ fuel, wpAnyL P md ops Q S fuel listed a w
  | 0 => ⟨hr, h⟩
  | _ + 1 => ⟨fun _ => h, by rw [hr]; simp⟩
end
end Go.Proofs.Ytbnomkcliejcaaa
