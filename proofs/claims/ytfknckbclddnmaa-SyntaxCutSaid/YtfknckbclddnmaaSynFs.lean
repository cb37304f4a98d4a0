/-
  What a call that reads a field, a block or a definition has in hand: a box, the row that it appends to.
-/
import Derived.Test.YtfknckbclddnmaaSynPs
namespace Go.Proofs.Ytfknckbclddnmaa
open Go.RowKit Lx

section
variable {w : World} {g b : Nat} {t : TypeId} {cs : List Value}
theorem Arr.off2 (h : Arr w g t cs) (hb : g ≠ b) (u0 u1 : Value) : Arr (Go.Proofs.Ytfknckbclddnmaa.put2 w b u0 u1) g t cs := (h.far (p := ⟨b, 0, none⟩) hb u0).far (p := ⟨b, 1, none⟩) hb u1
theorem Arr.off3 (h : Arr w g t cs) (hb : g ≠ b) (u0 u1 u2 : Value) : Arr (Go.Proofs.Ytfknckbclddnmaa.put3 w b u0 u1 u2) g t cs := ((h.far (p := ⟨b, 0, none⟩) hb u0).far (p := ⟨b, 1, none⟩) hb u1).far (p := ⟨b, 2, none⟩) hb u2
theorem Arr.off4 (h : Arr w g t cs) (hb : g ≠ b) (u0 u1 u2 u3 : Value) : Arr (Go.Proofs.Ytfknckbclddnmaa.put4 w b u0 u1 u2 u3) g t cs := (h.off3 hb u0 u1 u2).far (p := ⟨b, 3, none⟩) hb u3
end
theorem grown_then {a b d : World} {row : Option Nat} (h : a.grownBy b row) (k : Below a.heap.size b d) : a.grownBy d row :=
  ⟨k.os.trans h.os, k.tape.trans h.tape, k.output.trans h.output, Nat.le_trans h.size k.size, fun i hi hne => (k.block i hi).trans (h.block i hi hne)⟩
theorem ownsRow_low {B s n k : Nat} {E : TypeId} {w w' : World} {v : Value} {us : List Value} (h : w.ownsRow B E s v n us) (hb : Below k w w') (hl : ∀ g, v.ownBlock = some g → g < k) : w'.ownsRow B E s v n us := by
  refine ⟨h.1, ?_⟩
  rcases h.2 with h0 | ⟨g, cap, cur, hv, hg, hh, r⟩
  · exact Or.inl h0
  · exact Or.inr ⟨g, cap, cur, hv, hg, (hb.block g (hl g (by rw [hv]; rfl))).trans hh, r⟩
theorem ownsRow_set {B s n : Nat} {E : TypeId} {w : World} {v : Value} {us : List Value} (h : w.ownsRow B E s v n us) {p : Addr} (hp : v.ownBlock ≠ some p.block) (u : Value) : (w.setCell p u).ownsRow B E s v n us := by
  refine World.ownsRow.kept (row := some p.block) h ⟨rfl, rfl, rfl, by simp [World.setCell], fun k _ hk => Below.heap_setCell w _ u k (fun e => hk (by rw [e]))⟩ ?_
  exact Or.inr hp
/-- A box of another type than the row's elements is not the row. -/
theorem row_ne_box {B s n g : Nat} {E T : TypeId} {w : World} {v : Value} {us cs : List Value} (h : w.ownsRow B E s v n us) (hA : Arr w g T cs) (hT : T ≠ E) : v.ownBlock ≠ some g := by
  intro e
  rcases h.2 with ⟨hv, _⟩ | ⟨k, cap, cur, hv, _, hh, _⟩
  · rw [hv] at e; cases e
  · rw [hv] at e
    have e' : some k = some g := e
    injection e' with e'
    subst e'
    rw [show w.heap[k]? = _ from hA] at hh
    injection hh with hh
    injection hh with _ h2 _
    exact hT h2
theorem Arr.row {B s n g : Nat} {E T : TypeId} {w w' : World} {v : Value} {us cs : List Value} (hA : Arr w g T cs) (h : w.ownsRow B E s v n us) (hT : T ≠ E) (hg : w.grownBy w' v.ownBlock) : Arr w' g T cs :=
  (hg.block g hA.lt (fun e => row_ne_box h hA hT e.symm)).trans hA
theorem Ps.low {w w' : World} {g gt n c i : Nat} {ts : List Tok} (h : Ps w g gt n c ts i) {k : Nat} (hb : Below k w w') (h1 : g < k) (h2 : gt < k) : Ps w' g gt n c ts i :=
  ⟨h.arr.below hb h1, ownsRow_low h.tok hb (fun j hj => by have e : some gt = some j := hj; injection e with e; omega), h.ne, h.lt, h.cap⟩
theorem AtP.low {w w' : World} {g gt n c : Nat} {ts l : List Tok} (h : AtP w g gt n c ts l) {k : Nat} (hb : Below k w w') (h1 : g < k) (h2 : gt < k) : AtP w' g gt n c ts l := by
  obtain ⟨i, a, b⟩ := h
  exact ⟨i, a.low hb h1 h2, b⟩
theorem AtP.far {w : World} {g gt n c : Nat} {ts l : List Tok} (h : AtP w g gt n c ts l) {p : Addr} (h1 : g ≠ p.block) (h2 : gt ≠ p.block) (u : Value) : AtP (w.setCell p u) g gt n c ts l := by
  obtain ⟨i, a, b⟩ := h
  exact ⟨i, a.far h1 h2 u, b⟩
theorem AtP.put3 {w : World} {g gt n c : Nat} {ts l : List Tok} (h : AtP w g gt n c ts l) {b : Nat} (h1 : g ≠ b) (h2 : gt ≠ b) (u0 u1 u2 : Value) : AtP (put3 w b u0 u1 u2) g gt n c ts l :=
  ((h.far (p := ⟨b, 0, none⟩) h1 h2 u0).far (p := ⟨b, 1, none⟩) h1 h2 u1).far (p := ⟨b, 2, none⟩) h1 h2 u2
theorem AtP.put4 {w : World} {g gt n c : Nat} {ts l : List Tok} (h : AtP w g gt n c ts l) {b : Nat} (h1 : g ≠ b) (h2 : gt ≠ b) (u0 u1 u2 u3 : Value) : AtP (put4 w b u0 u1 u2 u3) g gt n c ts l :=
  (h.put3 h1 h2 u0 u1 u2).far (p := ⟨b, 3, none⟩) h1 h2 u3
theorem AtP.put2 {w : World} {g gt n c : Nat} {ts l : List Tok} (h : AtP w g gt n c ts l) {b : Nat} (h1 : g ≠ b) (h2 : gt ≠ b) (u0 u1 : Value) : AtP (put2 w b u0 u1) g gt n c ts l :=
  (h.far (p := ⟨b, 0, none⟩) h1 h2 u0).far (p := ⟨b, 1, none⟩) h1 h2 u1
theorem AtP.sub {w : World} {g gt n c : Nat} {ts l : List Tok} (h : AtP w g gt n c ts l) : l.length ≤ ts.length := by
  obtain ⟨i, _, b⟩ := h
  rw [← b, List.length_drop]
  omega

/-- How many tokens a parser has left. -/
def psN (g : Nat) (w : World) : Nat := match w.cell? ⟨g, 0, none⟩ with
  | some (.slice _ n _) => n
  | _ => 0
theorem AtP.psN {w : World} {g gt n c : Nat} {ts l : List Tok} (h : AtP w g gt n c ts l) : psN g w = l.length := by
  obtain ⟨i, a, b⟩ := h
  have hc : w.cell? ⟨g, 0, none⟩ = some (.slice (some ⟨gt, 3 * i, none⟩) (n - i) (c - i)) := a.arr.cell 0
  have hl := a.tok.len
  unfold Go.Proofs.Ytfknckbclddnmaa.psN
  rw [hc, ← b, List.length_drop, hl]
/-- While a field is read: the box fb with the values so far, the box of the result behind it. -/
structure FSt (w wr : World) (g fb : Nat) (key : Value) (ln : Value) (ao : Option Addr) (n c : Nat) (vs : List (List UInt8)) : Prop where
  own : wr.ownsRow w.heap.size 9 1 (.slice ao n c) n (vs.map fun v => .string (stg v))
  box : Arr wr fb 42 [key, .slice ao n c, ln]
  res : Arr wr w.heap.size 42 [.string ⟨#[]⟩, .slice none 0 0, .int .i64 0]
  grown : w.grownBy wr (some g)
  new : w.heap.size < fb
  old : g < w.heap.size
section
variable {w wr w' : World} {g fb n c : Nat} {key ln : Value} {ao : Option Addr} {vs : List (List UInt8)}
theorem FSt.call (h : FSt w wr g fb key ln ao n c vs) (hg : wr.grownBy w' (some g)) : FSt w w' g fb key ln ao n c vs :=
  ⟨ownsRow_older h.own hg h.old, h.box.grown hg (by have := h.new; have := h.old; omega), h.res.grown hg (by have := h.old; omega), grown_on h.grown hg, h.new, h.old⟩
theorem FSt.keep (h : FSt w wr g fb key ln ao n c vs) (hb : Below wr.heap.size wr w') : FSt w w' g fb key ln ao n c vs := h.call (grown_below hb _)
theorem FSt.push (h : FSt w wr g fb key ln ao n c vs) {ao' : Option Addr} {c' : Nat} {x : List UInt8} (ho : w'.ownsRow w.heap.size 9 1 (.slice ao' (n + 1) c') (n + 1) ((vs.map fun v => .string (stg v)) ++ [.string (stg x)])) (hg : wr.grownBy w' (Value.slice ao n c).ownBlock) (hb : Below w.heap.size wr w') :
    ∃ W, w'.setCell ⟨fb, 1, none⟩ (.slice ao' (n + 1) c') = W ∧ FSt w W g fb key ln ao' (n + 1) c' (vs ++ [x]) ∧ Hid (W = w'.setCell ⟨fb, 1, none⟩ (.slice ao' (n + 1) c')) ∧ w'.cell? ⟨fb, 1, none⟩ = some (.slice ao n c) ∧ w'.frozen? ⟨fb, 1, none⟩ = false := by
  have A1 := h.box.row h.own (by decide) hg
  have R1 := h.res.row h.own (by decide) hg
  have hf := h.new
  refine ⟨_, rfl, ⟨?_, A1.set 1 _, R1.far (by show w.heap.size ≠ fb; omega) _, grown_set (grown_then h.grown hb) (by omega) _ _, h.new, h.old⟩, rfl, A1.cell 1, A1.frozen 1⟩
  have ho2 : w'.ownsRow w.heap.size 9 1 (.slice ao' (n + 1) c') (n + 1) ((vs ++ [x]).map fun v => .string (stg v)) := by simpa using ho
  exact ownsRow_set ho2 (row_ne_box ho2 A1 (by decide)) _
theorem FSt.strs (h : FSt w wr g fb key ln ao n c vs) : StrL (ownF w.heap.size [9]) wr ao n c vs := Row.own h.own (by decide)
end
end Go.Proofs.Ytfknckbclddnmaa
