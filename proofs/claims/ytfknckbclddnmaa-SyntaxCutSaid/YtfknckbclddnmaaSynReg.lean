/-
  A drawn region, walked by hand, its list of operations as a list; append as one of its steps.
-/
import Derived.Test.YtfknckbclddnmaaSynLs
import Derived.Deep.RegionHeld3
namespace Go.Proofs.Ytfknckbclddnmaa
open Go.RowKit Lx

section
variable {P : Program} {md : Region.Mode} {l : List Oper} {Q : Exit → Act → World → Prop} {S : World → Prop}
theorem reg_take {i : Nat} {oi : Oper} {v : Value} {fuel : Nat} {listed : Array Bool} {a : Act} {w : World} (hi : l[i]? = some oi)
    (hs : Region.noSelect l.toArray = true) (hf : Region.free md l.toArray listed i = true) (hr : (Region.ready md l.toArray listed).contains i = true)
    (hQ : ∀ c a w, Q (.panic c) (a.put oi.dst v) w → Q (.panic c) a w) (hwant : Region.wanted oi (yielded l.toArray a.tmps) = true) (hS : S w) (hy : ∀ w, S w → (execOp a.eval oi).run P w = .ok (.value v) w)
    (h : wpAnyH P md l.toArray Q S fuel (listed.setIfInBounds i true) (a.put oi.dst v) w) : wpAnyH P md l.toArray Q S (fuel + 1) listed a w :=
  wpAnyH_take (by simpa using hi) hs hf hr hQ (Or.inl ⟨hwant, hy⟩) hS h
/-- One of those that may come up: it is carried out, S is shown anew, and the region goes on. -/
theorem reg_cons {fuel : Nat} {listed : Array Bool} {a : Act} {w : World} {i : Nat} {o : Oper} {rs : List Nat} (ho : l[i]? = some o) (hwant : Region.wanted o (yielded l.toArray a.tmps) = true)
    (h : ∀ K : Act → World → Prop, Shut (∀ a w, S w → (S w → wpAnyH P md l.toArray Q S fuel (listed.setIfInBounds i true) a w) → K a w) → Oper.wp P o a w K Q)
    (hs : AllReadyH P md l.toArray Q S fuel listed a w rs) : AllReadyH P md l.toArray Q S fuel listed a w (i :: rs) :=
  AllReadyH.cons (by simpa using ho) (fun K hK => by rw [if_pos hwant]; exact h K hK) hs
end
theorem infoS2 : (Try.prog.info? 9).map (fun i => (i.zero, i.size, i.bytes)) = some (some (.string ⟨#[]⟩), 1, 16) := by kernel_rfl
/-- append, as one step of a region that draws. -/
theorem step_appR {T E : TypeId} {s bytes : Nat} {z : Value} (ht : Try.prog.underlying T = some (.slice E)) (hinfo : (Try.prog.info? E).map (fun i => (i.zero, i.size, i.bytes)) = some (some z, s, bytes)) (hzs : z.cells.size = s) (hs : 0 < s) (hby : bytes ≤ 64)
    {ops : Array Oper} {o : Oper} {a : Act} {w X : World} {K : Act → World → Prop} {Q : Exit → Act → World → Prop} {E2 : Prop} (p q : Operand) (hgd : o.guard = none) (hop : o.op = .call { callee := .builtin .append, args := #[p, q], argTypes := #[T, T] })
    {B : Nat} {ao : Option Addr} {n c : Nat} {us vs : List Value} (hX : w.alloc (.cells vs.toArray E) = X) (hO : w.ownsRow B E s (.slice ao n c) n us) (hB : B ≤ w.heap.size) (hn : n ≤ 1048576) (hv : vs.length = s) (h1 : ∀ u ∈ vs, u.oneCell' = true)
    (hp : a.eval p = .slice ao n c) (hq : a.eval q = .slice (some ⟨w.heap.size, 0, none⟩) 1 1)
    (h : ∀ ao' c' w', w'.ownsRow B E s (.slice ao' (n + 1) c') (n + 1) (us ++ vs) → w.grownBy w' (Value.slice ao n c).ownBlock → Below B w w' → K (a.put o.dst (.slice ao' (n + 1) c')) w') :
    if Region.wanted o (yielded ops a.tmps) = true then Oper.wp Try.prog o a X K Q else E2 := by
  have hw : Region.wanted o (yielded ops a.tmps) = true := by simp [Region.wanted, hgd]
  rw [if_pos hw]
  subst hX
  obtain ⟨i0, hi, hz0, hz1, hz2⟩ := info_parts hinfo
  have b1 : Below w.heap.size w (w.alloc (.cells vs.toArray E)) := (Below.refl _ _).alloc (Nat.le_refl _) _
  have g1 : w.grownBy (w.alloc (.cells vs.toArray E)) (Value.slice ao n c).ownBlock := ⟨b1.os, b1.tape, b1.output, b1.size, fun k hk _ => b1.block k hk⟩
  have hnew : Arr (w.alloc (.cells vs.toArray E)) w.heap.size E vs := Arr.new w _ vs
  have hO1 := ownsRow_keep hO b1
  have hbb : (n + 1) * bytes ≤ (1048576 + 1) * 64 := Nat.mul_le_mul (by omega) hby
  refine wp_append_own _ p q T hop B E i0 z s bytes ht hi hz0 hz1 hz2 hzs hs _ n _ hp hO1 ⟨w.heap.size, 0, none⟩ 1 1 vs hq (by omega) ?_ h1 (by unfold maxLen; omega) (by omega) (by simp; omega) ?_
  · intro j u hj
    have e := pt_own w.heap.size j
    simp only [pt, Option.getD_some] at e
    rw [e, hnew.cell]
    exact hj
  · intro v' w' ho' hg _
    obtain ⟨av, cv, hv⟩ : ∃ ao c, v' = .slice ao (n + 1) c := by
      rcases ho'.2 with ⟨hv, h0⟩ | ⟨g, cap, _, hv, _⟩
      · omega
      · exact ⟨_, cap, hv⟩
    subst hv
    exact h av cv w' ho' (grown_trans g1 hg) ((b1.mono hB).trans ((Below.refl _ _).grown hg (by simp; omega) (fun k hk => (World.ownsRow.lt hO k hk).1)))

/-- append, as a step of such a walk. -/
theorem oper_appR {T E : TypeId} {s bytes : Nat} {z : Value} (ht : Try.prog.underlying T = some (.slice E)) (hinfo : (Try.prog.info? E).map (fun i => (i.zero, i.size, i.bytes)) = some (some z, s, bytes)) (hzs : z.cells.size = s) (hs : 0 < s) (hby : bytes ≤ 64)
    {o : Oper} {a : Act} {w X : World} {K : Act → World → Prop} {Q : Exit → Act → World → Prop} (p q : Operand) (hgd : o.guard = none) (hop : o.op = .call { callee := .builtin .append, args := #[p, q], argTypes := #[T, T] })
    {B : Nat} {ao : Option Addr} {n c : Nat} {us vs : List Value} (hX : w.alloc (.cells vs.toArray E) = X) (hO : w.ownsRow B E s (.slice ao n c) n us) (hB : B ≤ w.heap.size) (hn : n ≤ 1048576) (hv : vs.length = s) (h1 : ∀ u ∈ vs, u.oneCell' = true)
    (hp : a.eval p = .slice ao n c) (hq : a.eval q = .slice (some ⟨w.heap.size, 0, none⟩) 1 1)
    (h : ∀ ao' c' w', w'.ownsRow B E s (.slice ao' (n + 1) c') (n + 1) (us ++ vs) → w.grownBy w' (Value.slice ao n c).ownBlock → Below B w w' → K (a.put o.dst (.slice ao' (n + 1) c')) w') :
    Oper.wp Try.prog o a X K Q := by
  have hw : Region.wanted o (yielded #[] a.tmps) = true := by simp [Region.wanted, hgd]
  have := step_appR (ops := #[]) (E2 := True) (Q := Q) ht hinfo hzs hs hby p q hgd hop hX hO hB hn hv h1 hp hq h
  rwa [if_pos hw] at this
end Go.Proofs.Ytfknckbclddnmaa
