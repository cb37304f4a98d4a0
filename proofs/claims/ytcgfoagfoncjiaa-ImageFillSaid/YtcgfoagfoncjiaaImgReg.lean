/-
  A drawn region, walked by hand: the moves of Derived/OrdersHeld with the region as a list; in a round's frame too.
-/
import Derived.Test.YtcgfoagfoncjiaaImgPix
import Derived.Test.YtcgfoagfoncjiaaImgNew
import Derived.Deep.RegionHeld3
namespace Go.Proofs.Ytcgfoagfoncjiaa
open Go.RowKit

section
variable {P : Program} {md : Region.Mode} {l : List Oper} {Q : Exit → Act → World → Prop} {S : World → Prop}
theorem reg_take {i : Nat} {oi : Oper} {v : Value} {fuel : Nat} {listed : Array Bool} {a : Act} {w : World} (hi : l[i]? = some oi)
    (hs : Region.noSelect l.toArray = true) (hf : Region.free md l.toArray listed i = true) (hr : (Region.ready md l.toArray listed).contains i = true)
    (hQ : ∀ c a w, Q (.panic c) (a.put oi.dst v) w → Q (.panic c) a w) (hwant : Region.wanted oi (yielded l.toArray a.tmps) = true) (hS : S w) (hy : ∀ w, S w → (execOp a.eval oi).run P w = .ok (.value v) w)
    (h : wpAnyH P md l.toArray Q S fuel (listed.setIfInBounds i true) (a.put oi.dst v) w) : wpAnyH P md l.toArray Q S (fuel + 1) listed a w :=
  wpAnyH_take (by simpa using hi) hs hf hr hQ (Or.inl ⟨hwant, hy⟩) hS h
/-- One of those that may come up: it is carried out, S is shown anew, and the region goes on. -/
theorem reg_cons {fuel : Nat} {listed : Array Bool} {a : Act} {w : World} {i : Nat} {o : Oper} {rs : List Nat} (ho : l[i]? = some o) (hwant : Region.wanted o (yielded l.toArray a.tmps) = true)
    (h : ∀ K : Act → World → Prop, Shut (∀ a w, S w → (S w → wpAnyH P md l.toArray Q S fuel (listed.setIfInBounds i true) a w) → K a w) → Oper.wp P o a w K Q)
    (hs : AllReadyH P md l.toArray Q S fuel listed a w rs) : AllReadyH P md l.toArray Q S fuel listed a w (i :: rs) :=
  AllReadyH.cons (by simpa using ho) (fun K hK => by rw [if_pos hwant]; exact h K hK) hs
end
section
variable {w : World} {a : Act} {K : Act → World → Prop} {Q : Exit → Act → World → Prop}
theorem size24 : (Try.prog.info? 24).map (·.size) = some 3 := by kernel_rfl
theorem info24 : (Try.prog.info? 24).map (fun i => (i.zero, i.size)) = some (some (.agg #[.int .i64 0, .int .i64 0, .slice none 0 0]), 3) := by kernel_rfl
theorem wp_store_img {d : Option Tmp} {x y : Operand} {ty : TypeId} {pos : String} {after : Array Edge} {gd : Option (Nat × Bool)} {g : Nat} {o0 o1 o2 c0 c1 c2 : Value} (hA : Arr w g 24 [o0, o1, o2]) (hx : a.eval x = .pointer (some ⟨g, 0, none⟩)) (hy : a.eval y = .agg #[c0, c1, c2]) (h1 : ∀ v ∈ [c0, c1, c2], v.oneCell' = true)
    (h : ∀ w', Arr w' g 24 [c0, c1, c2] → w.grownBy w' (some g) → K (a.put d undef) w') : Oper.wp Try.prog ⟨d, .store 24 x y, ty, pos, after, gd⟩ a w K Q := by
  refine wp_store_row 24 x y rfl g #[c0, c1, c2] hx hy 24 #[o0, o1, o2] hA (by rw [size24]; rfl) rfl (Array.all_eq_true_iff_forall_mem.2 (fun v hv => h1 v (by simpa using hv))) ?_
  refine h _ ?_ ⟨rfl, rfl, rfl, by simp, fun k hk hne => ?_⟩
  · unfold Arr World.setRow
    have hh : w.heap[g]? = some (.cells #[o0, o1, o2] 24 (0, 0)) := hA
    simp [Array.getElem?_modify, hh]
  · have hkg : g ≠ k := fun e => hne (by rw [e])
    simp [World.setRow, Array.getElem?_modify, hkg]
theorem wp_alloc_img {d : Option Tmp} {ty : TypeId} {pos : String} {after : Array Edge} {gd : Option (Nat × Bool)}
    (h : ∀ w' g, Arr w' g 24 [.int .i64 0, .int .i64 0, .slice none 0 0] → Below w.heap.size w w' → w.heap.size ≤ g → K (a.put d (.pointer (some ⟨g, 0, none⟩))) w') : Oper.wp Try.prog ⟨d, .alloc 24, ty, pos, after, gd⟩ a w K Q := by
  have hz' := (zero_of_info info24).1
  have h1 := h _ _ (Arr.new w 24 [.int .i64 0, .int .i64 0, .slice none 0 0]) ((Below.refl _ _).alloc (Nat.le_refl _) _) (Nat.le_refl _)
  unfold Oper.wp execOp
  simp only [Instr.alloc, Sem.run_bind, hz', Result.andThen_ok]
  exact h1
end
/-! In a round's frame. -/
section
variable {P : Program} {Q : Exit → Act → World → Prop} {l n : Nat}
theorem rows_wide {P : Program} {row : String} {args : Array Value} {w : World} {R : Value → World → Prop} (h : Rows P row args w R) : RowsIn (Fence.wide.inRound l) n P row args w R := fun c cs _ => by
  obtain ⟨v, w', r, s⟩ := h c cs
  exact ⟨v, w', r, stepsIn_wide.2 s⟩
theorem oper_in {o : Oper} (hd : ∀ c, o.op ≠ .defer c) {a : Act} {w : World} {K : Act → World → Prop} (h : o.wp P a w K Q) : o.wpIn (Fence.wide.inRound l) n P a w K Q := by
  unfold Oper.wp at h
  refine ⟨fun _ _ => trivial, ?_⟩
  rw [show (Fence.wide.inRound l).round = some l from rfl, Oper.semAt_some l _ _ hd]
  generalize (execOp a.eval o).run P w = r at *
  cases r with
  | ok x w' =>
    cases x <;> simp only [Oper.upon, Oper.uponIn] at h ⊢
    case value => exact h
    case skip => exact h
    case defer => exact h
    case enter f args => exact ⟨fun e => (by cases e), CallsIn.inRound l (callsIn_wide.2 h)⟩
    case row row args => exact ⟨fun e => (by cases e), rows_wide h⟩
  | halt x w' => cases x <;> simp only [Oper.upon, Oper.uponIn] at h ⊢ <;> exact h
theorem op_in {ops : Array Oper} (hd : ∀ o ∈ ops, ∀ c, o.op ≠ .defer c) (hQ : ¬ LetsOut Q) {i : Nat} {K : Act → World → Prop} {a : Act} {w : World} (h : wpOp P ops Q i K a w) : wpOpIn (Fence.wide.inRound l) n P ops Q i K a w := by
  unfold wpOp at h
  unfold wpOpIn
  cases ho : ops[i]? with
  | none => rw [ho] at h; exact h
  | some o =>
    rw [ho] at h
    simp only at h ⊢
    split
    · rename_i hw
      simp only [hw, if_true] at h
      rcases h with h | ⟨_, h⟩
      · exact oper_in (hd o (Array.mem_of_getElem? ho)) h
      · exact absurd h hQ
    · rename_i hw
      simp only [hw] at h
      exact ⟨fun _ _ => trivial, h⟩
theorem any_in {md : Region.Mode} {ops : Array Oper} (hd : ∀ o ∈ ops, ∀ c, o.op ≠ .defer c) (hQ : ¬ LetsOut Q) {S : World → Prop} : ∀ (fuel : Nat) (listed : Array Bool) (a : Act) (w : World), wpAnyH P md ops Q S fuel listed a w → wpAnyIn (Fence.wide.inRound l) n P md ops Q fuel listed a w
  | 0, _, _, _, h => h
  | fuel + 1, _, _, _, h => ⟨h.1, fun i hi => op_in hd hQ (wpOp_mono (fun a w h => any_in hd hQ fuel _ a w h.2) (h.2 i hi))⟩
/-- A drawn region in a round's frame, walked with S held. -/
theorem round_held {ops : Array Oper} {S : World → Prop} {id : Nat} {a : Act} {w : World} (hm : P.follows .mixedOrders = true) (hd : ∀ o ∈ ops, ∀ c, o.op ≠ .defer c) (hQ : ¬ LetsOut Q) (hS : S w.drew)
    (h : S w.drew → wpAnyH P .any ops Q S ops.size (Array.replicate ops.size false) a w.drew) : (Code.region id ops true).wpIn (Fence.wide.inRound l) n P Q a w :=
  wpIn_region_any hm (any_in hd hQ _ _ _ _ (h hS))
end
end Go.Proofs.Ytcgfoagfoncjiaa
