/-
  The program's Shift.
-/
import Derived.Test.YtcgfoagfoncjiaaImgCountP
import Derived.Test.YtcgfoagfoncjiaaImgNoP
import Derived.Test.YtcgfoagfoncjiaaImgReg
namespace Go.Proofs.Ytcgfoagfoncjiaa
open Go.RowKit Go.Shelf Im
attribute [local go_sem] Oper.semAt_some

/-- The bits of a shifted image. -/
def shB (f : Nat → Bool) (off : Int) (ns : List Nat) : Nat → Bool := fun k => if k ∈ ns then f ((k : Int) - off).toNat else false
theorem shB_nil (f : Nat → Bool) (off : Int) : shB f off [] = noB := by funext k; simp [shB, noB]
theorem shB_snoc (f : Nat → Bool) (off : Int) (ns : List Nat) (n : Nat) : shB f off (ns ++ [n]) = upd (shB f off ns) n (f ((n : Int) - off).toNat) := by
  funext k
  unfold shB upd
  by_cases h : k = n
  · rw [if_pos h, if_pos (by rw [h]; simp), h]
  · rw [if_neg h]
    by_cases h2 : k ∈ ns
    · have h3 : k ∈ ns ++ [n] := by simp [h2]
      simp only [h2, h3, if_true]
    · have h3 : ¬ k ∈ ns ++ [n] := by simp [h2, h]
      simp only [h2, h3, if_false]
namespace Im
/-- Where a pixel of the shifted image comes from. -/
theorem from_spot {v u n : Nat} {x y : Int} (hv : 0 < v) (h : n ∈ rectL v u x y v u) : n < v * u ∧ ∃ r c r' c' : Nat, n = r * v + c ∧ c < v ∧ r < u ∧ (r : Int) - y = r' ∧ (c : Int) - x = c' ∧ c' < v ∧ r' < u := by
  unfold rectL at h
  obtain ⟨h1, h2⟩ := List.mem_filter.1 h
  have h1 := List.mem_range.1 h1
  unfold rectP inP at h2
  simp only [Bool.and_eq_true, decide_eq_true_eq] at h2
  obtain ⟨⟨_, h3, h4⟩, h5, h6⟩ := h2
  have hr : n / v < u := (Nat.div_lt_iff_lt_mul hv).2 (by rw [Nat.mul_comm]; exact h1)
  have hc := Nat.mod_lt n hv
  have hn : n / v * v + n % v = n := by rw [Nat.mul_comm]; exact Nat.div_add_mod n v
  exact ⟨h1, n / v, n % v, (((n / v : Nat) : Int) - y).toNat, (((n % v : Nat) : Int) - x).toNat, hn.symm, hc, hr, by omega, by omega, by omega, by omega⟩
end Im
/-- What Shift has in memory between two rounds. -/
structure ShI (w0 : World) (b0 g7 gc m : Nat) (v u n c : Nat) (a : Addr) (bs : List Int) (x y : Int) (S : Nat) (ns : List Nat) (W : World) : Prop where
  sz : S ≤ W.heap.size
  i : Arr W b0 24 [.int .i64 (v : Int), .int .i64 (u : Int), .slice (some a) n c]
  px : Arr W (b0 + 1) 3 [.int .i64 x]
  py : Arr W (b0 + 2) 3 [.int .i64 y]
  z : Arr W (b0 + 3) 24 [.int .i64 0, .int .i64 0, .slice none 0 0]
  im : Arr W g7 24 [.int .i64 (v : Int), .int .i64 (u : Int), .slice (some ⟨gc, 0, none⟩) m m]
  own : Own 5 .u8 w0.heap.size W (some ⟨gc, 0, none⟩) m m (packP (shB (bitL bs) (y * v + x) ns) m)
  b : Below w0.heap.size w0 W
theorem ShI.own_ {L : List Nat} {w0 : World} {b0 g7 gc m v u n c : Nat} {a : Addr} {bs : List Int} {x y : Int} {S : Nat} (h1 : b0 + 3 < S) (h2 : g7 < S) (h3 : gc < S) (h4 : w0.heap.size ≤ S) : OwnFrom S (fun (pre : List (In L)) W => ShI w0 b0 g7 gc m v u n c a bs x y S (pre.map (·.1)) W) := by
  intro s A B row h hg hr0
  have hr : ∀ r, row = some r → S ≤ r := fun r e => (hr0 r e).1
  have ne : ∀ g, g < S → some g ≠ row := fun g hg e => by have := hr g e.symm; omega
  have hsz := h.sz
  exact ⟨by have := hg.size; omega, (hg.block _ (by omega) (ne _ (by omega))).trans h.i, (hg.block _ (by omega) (ne _ (by omega))).trans h.px, (hg.block _ (by omega) (ne _ (by omega))).trans h.py, (hg.block _ (by omega) (ne _ h1)).trans h.z, (hg.block _ (by omega) (ne _ h2)).trans h.im,
    ⟨h.own.1.kept hg (Or.inr (fun e => ne gc h3 e)), h.own.2⟩, h.b.grown hg (by have := h.b.size; omega) (fun k e => by have := hr k e; omega)⟩
/-- What a round of Shift loads. -/
def ShS (b0 g7 gc v u n c : Nat) (a : Addr) (x y : Int) (W : World) : Prop :=
  W.cell? ⟨b0, 0, none⟩ = some (.int .i64 (v : Int)) ∧ W.cell? ⟨b0, 1, none⟩ = some (.int .i64 (u : Int)) ∧ W.cell? ⟨b0, 2, none⟩ = some (.slice (some a) n c) ∧ W.cell? ⟨b0 + 1, 0, none⟩ = some (.int .i64 x) ∧ W.cell? ⟨b0 + 2, 0, none⟩ = some (.int .i64 y) ∧
  W.cell? ⟨g7, 0, none⟩ = some (.int .i64 (v : Int)) ∧ W.cell? ⟨g7, 1, none⟩ = some (.int .i64 (u : Int)) ∧ W.cell? ⟨g7, 2, none⟩ = some (.slice (some ⟨gc, 0, none⟩) n n)
theorem ShS.keep {b0 g7 gc v u n c : Nat} {a : Addr} {x y : Int} {W Z : World} (h : ShS b0 g7 gc v u n c a x y W) (k : Below W.heap.size W Z) : ShS b0 g7 gc v u n c a x y Z := by
  obtain ⟨h0, h1, h2, h3, h4, h5, h6, h7⟩ := h
  exact ⟨cell_keep h0 k, cell_keep h1 k, cell_keep h2 k, cell_keep h3 k, cell_keep h4 k, cell_keep h5 k, cell_keep h6 k, cell_keep h7 k⟩
theorem ShS.grown {b0 g7 gc v u n c : Nat} {a : Addr} {x y : Int} {W Z : World} (h : ShS b0 g7 gc v u n c a x y W) (k : W.grownBy Z (some gc)) (hne : b0 ≠ gc ∧ b0 + 1 ≠ gc ∧ b0 + 2 ≠ gc ∧ g7 ≠ gc) : ShS b0 g7 gc v u n c a x y Z := by
  obtain ⟨h0, h1, h2, h3, h4, h5, h6, h7⟩ := h
  exact ⟨cell_grown h0 hne.1 k, cell_grown h1 hne.1 k, cell_grown h2 hne.1 k, cell_grown h3 hne.2.1 k, cell_grown h4 hne.2.2.1 k, cell_grown h5 hne.2.2.2 k, cell_grown h6 hne.2.2.2 k, cell_grown h7 hne.2.2.2 k⟩
/-- A new box, filled at once. -/
theorem new_fill (w : World) (x y t : Value) : ∃ V W, w.alloc (.cells #[.int .i64 0, .int .i64 0, .slice none 0 0] 24) = V ∧ ((V.setCell ⟨w.heap.size, 0, none⟩ x).setCell ⟨w.heap.size, 1, none⟩ y).setCell ⟨w.heap.size, 2, none⟩ t = W ∧
    V.cell? ⟨w.heap.size, 0, none⟩ = some (.int .i64 0) ∧ V.frozen? ⟨w.heap.size, 0, none⟩ = false ∧ (V.setCell ⟨w.heap.size, 0, none⟩ x).cell? ⟨w.heap.size, 1, none⟩ = some (.int .i64 0) ∧ (V.setCell ⟨w.heap.size, 0, none⟩ x).frozen? ⟨w.heap.size, 1, none⟩ = false ∧
    ((V.setCell ⟨w.heap.size, 0, none⟩ x).setCell ⟨w.heap.size, 1, none⟩ y).cell? ⟨w.heap.size, 2, none⟩ = some (.slice none 0 0) ∧ ((V.setCell ⟨w.heap.size, 0, none⟩ x).setCell ⟨w.heap.size, 1, none⟩ y).frozen? ⟨w.heap.size, 2, none⟩ = false ∧
    Arr W w.heap.size 24 [x, y, t] ∧ Below w.heap.size w W ∧ W.heap.size = w.heap.size + 1 := by
  obtain ⟨V, e1, AV, BV, hz⟩ := new_img w 0 0 none 0 0
  obtain ⟨W, m7, AW, GW, hWz, q0, q1, q2, q3, q4, q5, r0, r1, r2⟩ := put_img AV x y t
  exact ⟨V, W, e1, m7, q0, q1, q2, q3, q4, q5, AW, below_grown BV GW (by omega) (Nat.le_refl _), by omega⟩
end Go.Proofs.Ytcgfoagfoncjiaa
