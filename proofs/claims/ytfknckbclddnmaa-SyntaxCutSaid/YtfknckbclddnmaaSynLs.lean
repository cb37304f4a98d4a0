/-
  What a call that reads a list has in hand, whatever the elements are.
-/
import Derived.Test.YtfknckbclddnmaaSynFs
namespace Go.Proofs.Ytfknckbclddnmaa
open Go.RowKit Lx

/-- The box bb with the elements so far between pre and post, the box of the result (zs). -/
structure LSt (E T : TypeId) (s : Nat) (w wr : World) (g bb : Nat) (pre post zs : List Value) (ao : Option Addr) (n c : Nat) (us : List Value) : Prop where
  own : wr.ownsRow w.heap.size E s (.slice ao n c) n us
  box : Arr wr bb T (pre ++ .slice ao n c :: post)
  res : Arr wr w.heap.size T zs
  grown : w.grownBy wr (some g)
  new : w.heap.size < bb
  old : g < w.heap.size
section
variable {E T : TypeId} {s : Nat} {w wr w' : World} {g bb n c : Nat} {pre post zs us vs : List Value} {ao : Option Addr}
theorem LSt.call (h : LSt E T s w wr g bb pre post zs ao n c us) (hg : wr.grownBy w' (some g)) : LSt E T s w w' g bb pre post zs ao n c us :=
  ⟨ownsRow_older h.own hg h.old, h.box.grown hg (by have := h.new; have := h.old; omega), h.res.grown hg (by have := h.old; omega), grown_on h.grown hg, h.new, h.old⟩
theorem LSt.keep (h : LSt E T s w wr g bb pre post zs ao n c us) (hb : Below wr.heap.size wr w') : LSt E T s w w' g bb pre post zs ao n c us := h.call (grown_below hb _)
theorem LSt.size (h : LSt E T s w wr g bb pre post zs ao n c us) : w.heap.size ≤ wr.heap.size := by have := h.res.lt; omega
theorem LSt.push (h : LSt E T s w wr g bb pre post zs ao n c us) {Es : List TypeId} (hTE : T ≠ E) (hT : T ∉ Es) (hE : E ∉ Es) {ao' : Option Addr} {c' : Nat} (ho : w'.ownsRow w.heap.size E s (.slice ao' (n + 1) c') (n + 1) (us ++ vs)) (hg : wr.grownBy w' (Value.slice ao n c).ownBlock) (hb : Below w.heap.size wr w') :
    ∃ W, w'.setCell ⟨bb, pre.length, none⟩ (.slice ao' (n + 1) c') = W ∧ LSt E T s w W g bb pre post zs ao' (n + 1) c' (us ++ vs) ∧ Hid (W = w'.setCell ⟨bb, pre.length, none⟩ (.slice ao' (n + 1) c')) ∧ w'.cell? ⟨bb, pre.length, none⟩ = some (.slice ao n c) ∧ w'.frozen? ⟨bb, pre.length, none⟩ = false ∧ Keeps (ownF w.heap.size Es) wr W := by
  have A1 := h.box.row h.own hTE hg
  have R1 := h.res.row h.own hTE hg
  have hf := h.new
  have hset := A1.set pre.length (.slice ao' (n + 1) c')
  have e : (pre ++ .slice ao n c :: post).set pre.length (.slice ao' (n + 1) c') = pre ++ .slice ao' (n + 1) c' :: post := by simp
  rw [e] at hset
  refine ⟨_, rfl, ⟨ownsRow_set ho (row_ne_box ho A1 hTE) _, hset, R1.far (by show w.heap.size ≠ bb; omega) _, grown_set (grown_then h.grown hb) (by omega) _ _, h.new, h.old⟩, rfl, ?_, A1.frozen _, ?_⟩
  · rw [A1.cell]; simp
  · exact (keeps_row h.own hg hE).trans (stable_own _ _) hb.size (keeps_set_kind A1 hT _)
theorem LSt.row (h : LSt E T s w wr g bb pre post zs ao n c us) (hs : 0 < s) : Row (ownF w.heap.size [E]) s wr ao n c us := Row.own h.own hs
/-- A store into the box of the result. -/
theorem LSt.resKeeps (h : LSt E T s w wr g bb pre post zs ao n c us) {Es : List TypeId} (hT : T ∉ Es) (i : Nat) (u : Value) : Keeps (ownF w.heap.size Es) wr (wr.setCell ⟨w.heap.size, i, none⟩ u) := keeps_set_kind h.res hT u
end
theorem keeps_put2 {lo g : Nat} {Es : List TypeId} {w : World} {T : TypeId} {v0 v1 : Value} (h : Arr w g T [v0, v1]) (hT : T ∉ Es) (u0 u1 : Value) : Keeps (ownF lo Es) w (put2 w g u0 u1) :=
  (keeps_set_kind (i := 0) h hT u0).trans (stable_own _ _) (by simp [World.setCell]) (keeps_set_kind (i := 1) (h.set 0 u0) hT u1)
theorem keeps_put3 {lo g : Nat} {Es : List TypeId} {w : World} {T : TypeId} {v0 v1 v2 : Value} (h : Arr w g T [v0, v1, v2]) (hT : T ∉ Es) (u0 u1 u2 : Value) : Keeps (ownF lo Es) w (put3 w g u0 u1 u2) :=
  ((keeps_set_kind (i := 0) h hT u0).trans (stable_own _ _) (by simp [World.setCell]) (keeps_set_kind (i := 1) (h.set 0 u0) hT u1)).trans (stable_own _ _) (by simp [World.setCell]) (keeps_set_kind (i := 2) ((h.set 0 u0).set 1 u1) hT u2)
theorem keeps_put4 {lo g : Nat} {Es : List TypeId} {w : World} {T : TypeId} {v0 v1 v2 v3 : Value} (h : Arr w g T [v0, v1, v2, v3]) (hT : T ∉ Es) (u0 u1 u2 u3 : Value) : Keeps (ownF lo Es) w (put4 w g u0 u1 u2 u3) :=
  (((keeps_set_kind (i := 0) h hT u0).trans (stable_own _ _) (by simp [World.setCell]) (keeps_set_kind (i := 1) (h.set 0 u0) hT u1)).trans (stable_own _ _) (by simp [World.setCell]) (keeps_set_kind (i := 2) ((h.set 0 u0).set 1 u1) hT u2)).trans (stable_own _ _) (by simp [World.setCell]) (keeps_set_kind (i := 3) (((h.set 0 u0).set 1 u1).set 2 u2) hT u3)
theorem own_mono {lo lo' : Nat} {Es Es' : List TypeId} (hl : lo' ≤ lo) (hE : ∀ E ∈ Es, E ∈ Es') {w : World} : ∀ k, ownF lo Es w k → ownF lo' Es' w k := fun _ ⟨h1, E, h2, r⟩ => ⟨Nat.le_trans hl h1, E, hE E h2, r⟩

theorem infoF : (Try.prog.info? 42).map (fun i => (i.zero, i.size, i.bytes)) = some (some (.agg #[.string ⟨#[]⟩, .slice none 0 0, .int .i64 0]), 3, 48) := by kernel_rfl
theorem infoB : (Try.prog.info? 39).map (fun i => (i.zero, i.size, i.bytes)) = some (some (.agg #[.string ⟨#[]⟩, .string ⟨#[]⟩, .slice none 0 0, .int .i64 0]), 4, 64) := by kernel_rfl

/-- While a block is read. -/
def BSt (w wr : World) (g bb : Nat) (kind name ln : Value) (ao : Option Addr) (n c : Nat) (fs : List Fld) : Prop :=
  ∃ us, LSt 42 39 3 w wr g bb [kind, name] [ln] [.string ⟨#[]⟩, .string ⟨#[]⟩, .slice none 0 0, .int .i64 0] ao n c us ∧ FCells true (ownF w.heap.size [9]) wr fs us
section
variable {w wr w' : World} {g bb n c : Nat} {kind name ln : Value} {ao : Option Addr} {fs : List Fld}
theorem BSt.call (h : BSt w wr g bb kind name ln ao n c fs) (hg : wr.grownBy w' (some g)) : BSt w w' g bb kind name ln ao n c fs := by
  obtain ⟨us, h1, h2⟩ := h
  exact ⟨us, h1.call hg, h2.keep (stable_own _ _) (keeps_older hg h1.old)⟩
theorem BSt.keep (h : BSt w wr g bb kind name ln ao n c fs) (hb : Below wr.heap.size wr w') : BSt w w' g bb kind name ln ao n c fs := h.call (grown_below hb _)
theorem BSt.box (h : BSt w wr g bb kind name ln ao n c fs) : Arr wr bb 39 [kind, name, .slice ao n c, ln] := by
  obtain ⟨us, h1, _⟩ := h
  exact h1.box
theorem BSt.res (h : BSt w wr g bb kind name ln ao n c fs) : Arr wr w.heap.size 39 [.string ⟨#[]⟩, .string ⟨#[]⟩, .slice none 0 0, .int .i64 0] := by
  obtain ⟨us, h1, _⟩ := h
  exact h1.res
theorem BSt.grown (h : BSt w wr g bb kind name ln ao n c fs) : w.grownBy wr (some g) := by
  obtain ⟨us, h1, _⟩ := h
  exact h1.grown
theorem BSt.new (h : BSt w wr g bb kind name ln ao n c fs) : w.heap.size < bb := by
  obtain ⟨us, h1, _⟩ := h
  exact h1.new
theorem BSt.flds (h : BSt w wr g bb kind name ln ao n c fs) : FldL true (ownF w.heap.size [9, 42]) wr ao n c fs := by
  obtain ⟨us, h1, h2⟩ := h
  exact ⟨us, (h1.row (by decide)).mono (own_mono (Nat.le_refl _) (by simp)), h2.mono (own_mono (Nat.le_refl _) (by simp))⟩
end
/-- While a definition is read. -/
def SSt (w wr : World) (g sb : Nat) (title : Value) (ao : Option Addr) (n c : Nat) (bs : List Blc) : Prop :=
  ∃ us, LSt 39 24 4 w wr g sb [title] [] [.string ⟨#[]⟩, .slice none 0 0] ao n c us ∧ BCells true (ownF w.heap.size [9, 42]) wr bs us
section
variable {w wr w' : World} {g sb n c : Nat} {title : Value} {ao : Option Addr} {bs : List Blc}
theorem SSt.call (h : SSt w wr g sb title ao n c bs) (hg : wr.grownBy w' (some g)) : SSt w w' g sb title ao n c bs := by
  obtain ⟨us, h1, h2⟩ := h
  exact ⟨us, h1.call hg, h2.keep (stable_own _ _) (keeps_older hg h1.old)⟩
theorem SSt.keep (h : SSt w wr g sb title ao n c bs) (hb : Below wr.heap.size wr w') : SSt w w' g sb title ao n c bs := h.call (grown_below hb _)
theorem SSt.box (h : SSt w wr g sb title ao n c bs) : Arr wr sb 24 [title, .slice ao n c] := by
  obtain ⟨us, h1, _⟩ := h
  exact h1.box
theorem SSt.res (h : SSt w wr g sb title ao n c bs) : Arr wr w.heap.size 24 [.string ⟨#[]⟩, .slice none 0 0] := by
  obtain ⟨us, h1, _⟩ := h
  exact h1.res
theorem SSt.grown (h : SSt w wr g sb title ao n c bs) : w.grownBy wr (some g) := by
  obtain ⟨us, h1, _⟩ := h
  exact h1.grown
theorem SSt.new (h : SSt w wr g sb title ao n c bs) : w.heap.size < sb := by
  obtain ⟨us, h1, _⟩ := h
  exact h1.new
theorem SSt.blks (h : SSt w wr g sb title ao n c bs) : BlkL true (ownF w.heap.size [9, 42, 39]) wr ao n c bs := by
  obtain ⟨us, h1, h2⟩ := h
  exact ⟨us, (h1.row (by decide)).mono (own_mono (Nat.le_refl _) (by simp)), h2.mono (own_mono (Nat.le_refl _) (by simp))⟩
end
end Go.Proofs.Ytfknckbclddnmaa
