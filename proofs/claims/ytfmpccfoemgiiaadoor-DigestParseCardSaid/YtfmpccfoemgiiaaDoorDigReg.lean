/-
  A drawn region, walked by hand: the moves of Derived/OrdersHeld with the region as a list; loads and stores of a whole array as its steps.
-/
import Derived.Test.YtfmpccfoemgiiaaDoorDigBase
import Derived.Deep.RegionHeld3
namespace Go.Proofs.YtfmpccfoemgiiaaDoor
open Go.RowKit

section
variable {P : Program} {md : Region.Mode} {l : List Oper} {Q : Exit → Act → World → Prop} {S : World → Prop}
theorem reg_take {i : Nat} {oi : Oper} {v : Value} {fuel : Nat} {listed : Array Bool} {a : Act} {w : World} (hi : l[i]? = some oi)
    (hs : Region.noSelect l.toArray = true) (hf : Region.free md l.toArray listed i = true) (hr : (Region.ready md l.toArray listed).contains i = true)
    (hQ : ∀ c a w, Q (.panic c) (a.put oi.dst v) w → Q (.panic c) a w) (hwant : Region.wanted oi (yielded l.toArray a.tmps) = true) (hS : S w) (hy : ∀ w, S w → (execOp a.eval oi).run P w = .ok (.value v) w)
    (h : wpAnyH P md l.toArray Q S fuel (listed.setIfInBounds i true) (a.put oi.dst v) w) : wpAnyH P md l.toArray Q S (fuel + 1) listed a w :=
  wpAnyH_take (by simpa using hi) hs hf hr hQ (Or.inl ⟨hwant, hy⟩) hS h
/-- One of those that may come up: it is carried out, S is shown anew, and the region goes on. -/
theorem reg_cons {fuel : Nat} {listed : Array Bool} {a : Act} {w : World} {i : Nat} {o : Oper} {rs : List Nat} (ho : l[i]? = some o) (hwant : Region.wanted o (yielded l.toArray a.tmps) = true)
    (h : ∀ K : Act → World → Prop, Shut (∀ a w, S w → (S w → wpAnyH P md l.toArray Q S fuel (listed.setIfInBounds i true) a w) → K a w) → Oper.wp P o a w K Q)
    (hs : AllReadyH P md l.toArray Q S fuel listed a w rs) : AllReadyH P md l.toArray Q S fuel listed a w (i :: rs) :=
  AllReadyH.cons (by simpa using ho) (fun K hK => by rw [if_pos hwant]; exact h K hK) hs
end

section
variable {w : World} {a : Act} {K : Act → World → Prop} {Q : Exit → Act → World → Prop}
theorem wp_store_arr {t e : TypeId} {n : Nat} (ht : ArrT t e n) {d : Option Tmp} {x y : Operand} {ty : TypeId} {pos : String} {after : Array Edge} {gd : Option (Nat × Bool)} {g : Nat} {old cs : List Value} (hA : Arr w g t old) (hx : a.eval x = .pointer (some ⟨g, 0, none⟩)) (hy : a.eval y = .agg cs.toArray) (hold : old.length = n) (hn : cs.length = n) (h1 : ∀ v ∈ cs, v.oneCell' = true)
    (h : ∀ w', Arr w' g t cs → Only g w w' → K (a.put d undef) w') : Oper.wp Tryd.prog ⟨d, .store t x y, ty, pos, after, gd⟩ a w K Q := by
  refine wp_store_row t x y rfl g cs.toArray hx hy t old.toArray hA (by rw [ht.cells]; simp [hn]) (by simp [hn, hold]) (Array.all_eq_true_iff_forall_mem.2 (fun v hv => h1 v (by simpa using hv))) ?_
  refine h _ ?_ ⟨⟨rfl, rfl, rfl, by simp, fun k hk hne => ?_⟩, by simp⟩
  · unfold Arr World.setRow
    have hh : w.heap[g]? = some (.cells old.toArray t (0, 0)) := hA
    simp [Array.getElem?_modify, hh]
  · have hkg : g ≠ k := fun e => hne (by rw [e])
    simp [World.setRow, Array.getElem?_modify, hkg]
theorem exec_load_arr {t e : TypeId} {n : Nat} (ht : ArrT t e n) {d : Option Tmp} {x : Operand} {ty : TypeId} {pos : String} {after : Array Edge} {gd : Option (Nat × Bool)} {g : Nat} {cs : List Value} (hx : a.eval x = .pointer (some ⟨g, 0, none⟩)) (hA : Arr w g t cs) (hn : cs.length = n) :
    (execOp a.eval ⟨d, .load t x, ty, pos, after, gd⟩).run Tryd.prog w = .ok (.value (.agg cs.toArray)) w := by
  unfold execOp
  simp only [hx, Instr.loadAt, Instr.sureAddr, Sem.run_bind, Sem.run_pure, Result.andThen_ok, run_loadVar_row w g t t cs.toArray (0, 0) _ hA ht.under rfl (by rw [ht.cells]; simp [hn])]
theorem wp_load_arr {t e : TypeId} {n : Nat} (ht : ArrT t e n) {d : Option Tmp} {x : Operand} {ty : TypeId} {pos : String} {after : Array Edge} {gd : Option (Nat × Bool)} {g : Nat} {cs : List Value} (hA : Arr w g t cs) (hx : a.eval x = .pointer (some ⟨g, 0, none⟩)) (hn : cs.length = n)
    (h : K (a.put d (.agg cs.toArray)) w) : Oper.wp Tryd.prog ⟨d, .load t x, ty, pos, after, gd⟩ a w K Q :=
  wp_load_row t x rfl g hx t cs.toArray (0, 0) _ hA ht.under rfl (by rw [ht.cells]; simp [hn]) h
/-- The zero cells of an array's type. -/
structure ArrZ (t : TypeId) (zs : List Value) : Prop where
  zero : (Tryd.prog.info? t).map (fun i => (i.zero, i.size)) = some (some (.agg zs.toArray), zs.length)
theorem z43 : ArrZ 43 (List.replicate 8 (.int .u32 0)) := ⟨by kernel_rfl⟩
theorem z54 : ArrZ 54 (List.replicate 64 (.int .u32 0)) := ⟨by kernel_rfl⟩
theorem z25 : ArrZ 25 (List.replicate 32 (.int .u8 0)) := ⟨by kernel_rfl⟩
theorem wp_alloc_arr {t : TypeId} {zs : List Value} (hz : ArrZ t zs) {d : Option Tmp} {ty : TypeId} {pos : String} {after : Array Edge} {gd : Option (Nat × Bool)}
    (h : ∀ w' g, Arr w' g t zs → Below w.heap.size w w' → w.heap.size ≤ g → K (a.put d (.pointer (some ⟨g, 0, none⟩))) w') : Oper.wp Tryd.prog ⟨d, .alloc t, ty, pos, after, gd⟩ a w K Q := by
  have hz' := (zero_of_info hz.zero).1
  have h1 := h _ _ (Arr.new w t zs) ((Below.refl _ _).alloc (Nat.le_refl _) _) (Nat.le_refl _)
  unfold Oper.wp execOp
  simp only [Instr.alloc, Sem.run_bind, hz', Result.andThen_ok]
  exact h1
end
theorem below_drew2 {B : Nat} {w w' : World} (h : Below B w w') : Below B w w'.drew := ⟨h.os, h.tape, h.output, h.size, h.block⟩
end Go.Proofs.YtfmpccfoemgiiaaDoor
