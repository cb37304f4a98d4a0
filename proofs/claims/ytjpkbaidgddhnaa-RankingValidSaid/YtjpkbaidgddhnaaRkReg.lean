/-
  Drawn regions by hand: appends, stores of whole boxes; rows beside boxes.
-/
import Derived.Test.YtjpkbaidgddhnaaRkPrefs
import Derived.Test.YtjpkbaidgddhnaaSrfReg
import Derived.Maps.AppendAt
namespace Go.Proofs.Ytjpkbaidgddhnaa
open Go.RowKit Rk

section
variable {P : Program} {md : Region.Mode} {l : List Oper} {Q : Exit → Act → World → Prop} {S : World → Prop}
theorem reg_take {i : Nat} {oi : Oper} {v : Value} {fuel : Nat} {listed : Array Bool} {a : Act} {w : World} (hi : l[i]? = some oi)
    (hs : Region.noSelect l.toArray = true) (hf : Region.free md l.toArray listed i = true) (hr : (Region.ready md l.toArray listed).contains i = true)
    (hQ : ∀ c a w, Q (.panic c) (a.put oi.dst v) w → Q (.panic c) a w) (hwant : Region.wanted oi (yielded l.toArray a.tmps) = true) (hS : S w) (hy : ∀ w, S w → (execOp a.eval oi).run P w = .ok (.value v) w)
    (h : wpAnyH P md l.toArray Q S fuel (listed.setIfInBounds i true) (a.put oi.dst v) w) : wpAnyH P md l.toArray Q S (fuel + 1) listed a w :=
  wpAnyH_take (by simpa using hi) hs hf hr hQ (Or.inl ⟨hwant, hy⟩) hS h
theorem reg_cons {fuel : Nat} {listed : Array Bool} {a : Act} {w : World} {i : Nat} {o : Oper} {rs : List Nat} (ho : l[i]? = some o) (hwant : Region.wanted o (yielded l.toArray a.tmps) = true)
    (h : ∀ K : Act → World → Prop, Shut (∀ a w, S w → (S w → wpAnyH P md l.toArray Q S fuel (listed.setIfInBounds i true) a w) → K a w) → Oper.wp P o a w K Q)
    (hs : AllReadyH P md l.toArray Q S fuel listed a w rs) : AllReadyH P md l.toArray Q S fuel listed a w (i :: rs) :=
  AllReadyH.cons (by simpa using ho) (fun K hK => by rw [if_pos hwant]; exact h K hK) hs
end
section
variable {w : World} {o : Oper} {a : Act} {K : Act → World → Prop} {Q : Exit → Act → World → Prop}
/-- append of one element that lies in a block k. -/
theorem wp_appH {T E : TypeId} {s bytes : Nat} {z : Value} (ht : Try.prog.underlying T = some (.slice E)) (hinfo : (Try.prog.info? E).map (fun i => (i.zero, i.size, i.bytes)) = some (some z, s, bytes)) (hzs : z.cells.size = s) (hs : 0 < s) (hby : bytes ≤ 1000)
    (p q : Operand) (hop : o.op = .call { callee := .builtin .append, args := #[p, q], argTypes := #[T, T] })
    {B k : Nat} {ao : Option Addr} {n c : Nat} {us vs : List Value} (hX : Arr w k E vs) (hO : w.ownsRow B E s (.slice ao n c) n us) (hB : B ≤ w.heap.size) (hn : n ≤ 4000000) (hv : vs.length = s) (h1 : ∀ u ∈ vs, u.oneCell' = true)
    (hp : a.eval p = .slice ao n c) (hq : a.eval q = .slice (some ⟨k, 0, none⟩) 1 1)
    (h : ∀ ao' c' w', w'.ownsRow B E s (.slice ao' (n + 1) c') (n + 1) (us ++ vs) → w.grownBy w' (Value.slice ao n c).ownBlock → Below B w w' → K (a.put o.dst (.slice ao' (n + 1) c')) w') :
    Oper.wp Try.prog o a w K Q := by
  obtain ⟨i0, hi, hz0, hz1, hz2⟩ := info_parts hinfo
  have hbb : (n + 1) * bytes ≤ (4000000 + 1) * 1000 := Nat.mul_le_mul (by omega) hby
  have hc : ∀ j u, vs[j]? = some u → w.cell? ((⟨k, 0, none⟩ : Addr).add j) = some u := by
    intro j u hj
    have e := pt_own k j
    simp only [pt, Option.getD_some] at e
    rw [e, hX.cell]
    exact hj
  obtain ⟨v', w', hr, ho', hg, _, hob⟩ := run_append_own_at (P := Try.prog) w B T o.type E i0 z s bytes ht hi hz0 hz1 hz2 hzs hs _ n _ hO ⟨k, 0, none⟩ 1 1 vs (by omega) hc h1 (by unfold maxLen; omega) (by omega) hB
  obtain ⟨av, cv, rfl⟩ : ∃ ao c, v' = .slice ao (n + 1) c := by
    rcases ho'.2 with ⟨hv, h0⟩ | ⟨g, cap, _, hv, _⟩
    · omega
    · exact ⟨_, cap, hv⟩
  unfold Oper.wp execOp
  simp only [hop, resolve, invoke, builtin, Sem.run_bind, Sem.run_pure, Result.andThen_ok, List.map_toArray, List.map_cons, List.map_nil, hp, hq, hr]
  exact h av cv w' ho' hg ((Below.refl _ _).grown hg hB (fun k hk => (World.ownsRow.lt hO k hk).1))
/-- A whole box is stored. -/
theorem wp_storeA {t : TypeId} {d : Option Tmp} {x y : Operand} {ty : TypeId} {pos : String} {after : Array Edge} {gd : Option (Nat × Bool)} {g : Nat} {old cs : List Value} (hA : Arr w g t old) (hx : a.eval x = .pointer (some ⟨g, 0, none⟩)) (hy : a.eval y = .agg cs.toArray)
    (hc : (Try.prog.info? t).map (·.size) = some cs.length) (hl : old.length = cs.length) (h1 : ∀ v ∈ cs, v.oneCell' = true)
    (h : ∀ w', Arr w' g t cs → w.grownBy w' (some g) → K (a.put d undef) w') : Oper.wp Try.prog ⟨d, .store t x y, ty, pos, after, gd⟩ a w K Q := by
  refine wp_store_row t x y rfl g cs.toArray hx hy t old.toArray hA (by simpa using hc) (by simp [hl]) (Array.all_eq_true_iff_forall_mem.2 (fun v hv => h1 v (by simpa using hv))) ?_
  refine h _ ?_ ⟨rfl, rfl, rfl, by simp, fun k hk hne => ?_⟩
  · unfold Arr World.setRow
    have hh : w.heap[g]? = some (.cells old.toArray t (0, 0)) := hA
    simp [Array.getElem?_modify, hh]
  · have hkg : g ≠ k := fun e => hne (by rw [e])
    simp [World.setRow, Array.getElem?_modify, hkg]
end
/-- A row's own block is no box of another type. -/
theorem row_ne_arr {w : World} {B s n g : Nat} {E t : TypeId} {v : Value} {us cs : List Value} (h : w.ownsRow B E s v n us) (hA : Arr w g t cs) (hE : E ≠ t) : v.ownBlock ≠ some g := by
  rcases h.2 with ⟨hv, _⟩ | ⟨g', cap, cur, hv, _, hh, _⟩
  · rw [hv]; intro e; cases e
  · rw [hv]
    intro e
    have e' : some g' = some g := e
    injection e' with e'
    subst e'
    rw [show w.heap[g']? = _ from hA] at hh
    injection hh with hh
    injection hh with _ h2 _
    exact hE h2.symm
theorem Arr.row {w w' : World} {B s n g : Nat} {E t : TypeId} {v : Value} {us cs : List Value} (hA : Arr w g t cs) (h : w.ownsRow B E s v n us) (hE : E ≠ t) (hg : w.grownBy w' v.ownBlock) : Arr w' g t cs :=
  (hg.block g hA.lt (fun e => row_ne_arr h hA hE e.symm)).trans hA
theorem row_set {w : World} {B s n g i : Nat} {E t : TypeId} {v : Value} {us cs : List Value} (h : w.ownsRow B E s v n us) (hA : Arr w g t cs) (hE : E ≠ t) (u : Value) : (w.setCell ⟨g, i, none⟩ u).ownsRow B E s v n us :=
  World.ownsRow.kept (row := some g) h (set_grown w g i u) (Or.inr (row_ne_arr h hA hE))
theorem Arr.off {w : World} {g b i : Nat} {t : TypeId} {cs : List Value} (hA : Arr w g t cs) (hne : g ≠ b) (u : Value) : Arr (w.setCell ⟨b, i, none⟩ u) g t cs := hA.far (p := ⟨b, i, none⟩) hne u
end Go.Proofs.Ytjpkbaidgddhnaa
