/-
  The reference's Blank.
-/
import Derived.Test.YtcgfoagfoncjiaaImgPx
import Derived.Test.YtcgfoagfoncjiaaImgXorP
namespace Go.Proofs.Ytcgfoagfoncjiaa
open Go.RowKit Im

/-- The first i rows are made. -/
def BlkI (w : World) (go u v i : Nat) (W : World) (G : Nat → Nat) : Prop :=
  W.ownsRow w.heap.size 48 1 (.slice (some ⟨go, 0, none⟩) u u) u (rowsV G v i ++ List.replicate (u - i) (.slice none 0 0)) ∧ (∀ r, r < i → w.heap.size ≤ G r ∧ G r ≠ go ∧ Arr W (G r) 4 (rowB v (fun _ => false))) ∧ (∀ r s, r < i → s < i → G r = G s → r = s) ∧ Below w.heap.size w W
def updG (G : Nat → Nat) (i g : Nat) : Nat → Nat := fun r => if r = i then g else G r
theorem updG_lt {G : Nat → Nat} {i g r : Nat} (h : r < i) : updG G i g r = G r := by unfold updG; rw [if_neg (by omega)]
theorem updG_at {G : Nat → Nat} {i g : Nat} : updG G i g i = g := by unfold updG; rw [if_pos rfl]
theorem rowsV_snoc (G : Nat → Nat) (v i g : Nat) : rowsV (updG G i g) v (i + 1) = rowsV G v i ++ [.slice (some ⟨g, 0, none⟩) v v] := by
  unfold rowsV
  rw [List.range_succ, List.map_append, List.map_cons, List.map_nil, updG_at]
  congr 1
  apply List.map_congr_left
  intro r hr
  rw [updG_lt (List.mem_range.1 hr)]
theorem blk_start (w : World) (v u : Nat) (hu : u ≤ 100000) : BlkI w w.heap.size u v 0 (w.alloc (.cells (madeCells #[.slice none 0 0] u) 48)) (fun _ => 0) := by
  refine ⟨?_, fun r h => absurd h (by omega), fun r s h => absurd h (by omega), (Below.refl _ _).alloc (Nat.le_refl _) _⟩
  have e : rowsV (fun _ => 0) v 0 ++ List.replicate (u - 0) (Value.slice none 0 0) = (madeCells #[Value.slice none 0 0] u).toList := by
    rw [toList_madeCells_one]
    rfl
  rw [e]
  exact World.ownsRow_lit w (madeCells #[.slice none 0 0] u) u (Nat.le_refl _) (Nat.le_trans hu (by unfold maxLen; decide)) (by rw [size_madeCells, Nat.mul_one])
theorem blk_step {w W : World} {go u v i : Nat} {G : Nat → Nat} (h : BlkI w go u v i W G) (hi : i < u) : ∃ U Z, W.alloc (.cells (madeCells #[.bool false] v) 4) = U ∧ U.setCell ⟨go, i, none⟩ (.slice (some ⟨W.heap.size, 0, none⟩) v v) = Z ∧ U.cell? ⟨go, i, none⟩ = some (.slice none 0 0) ∧ U.frozen? ⟨go, i, none⟩ = false ∧ BlkI w go u v (i + 1) Z (updG G i W.heap.size) := by
  obtain ⟨h1, h2, h3, h4⟩ := h
  have hgo := World.ownsRow.lt h1 go rfl
  obtain ⟨U, hU⟩ : ∃ U, W.alloc (.cells (madeCells #[.bool false] v) 4) = U := ⟨_, rfl⟩
  have AR : Arr U W.heap.size 4 (rowB v (fun _ => false)) := by rw [← hU]; exact made_row W v
  have BU : Below W.heap.size W U := by rw [← hU]; exact (Below.refl _ _).alloc (Nat.le_refl _) _
  have O1 := h1.kept (row := none) ⟨BU.os, BU.tape, BU.output, BU.size, fun j hj _ => BU.block j hj⟩ (by simp [Value.ownBlock])
  obtain ⟨S1, S2⟩ := O1.stored i (.slice (some ⟨W.heap.size, 0, none⟩) v v)
  have hl : (rowsV G v i).length = i := rowsV_len G v i
  refine ⟨U, _, hU, rfl, ?_, O1.frozenAt i, ?_, fun r hr => ?_, fun r s hr hs e => ?_, ?_⟩
  · rw [O1.cellAt i (by omega), List.getElem?_append_right (by omega), hl, Nat.sub_self, List.getElem?_replicate, if_pos (by omega)]
  · have e : (rowsV G v i ++ List.replicate (u - i) (Value.slice none 0 0)).set i (.slice (some ⟨W.heap.size, 0, none⟩) v v) = rowsV (updG G i W.heap.size) v (i + 1) ++ List.replicate (u - (i + 1)) (Value.slice none 0 0) := by
      rw [rowsV_snoc, List.set_append_right _ _ (by omega), hl, Nat.sub_self, show u - i = (u - (i + 1)) + 1 by omega, List.replicate_succ, List.set_cons_zero, List.append_assoc]
      rfl
    rw [← e]
    exact S1
  · by_cases e : r = i
    · subst e
      rw [updG_at]
      exact ⟨h4.size, by omega, AR.grownBy S2 (by omega)⟩
    · rw [updG_lt (by omega)]
      obtain ⟨g1, g2, g3⟩ := h2 r (by omega)
      exact ⟨g1, g2, (g3.kept BU).grownBy S2 g2⟩
  · have hlt : ∀ r, r < i → G r < W.heap.size := fun r hr => (h2 r hr).2.2.lt
    by_cases e1 : r = i
    · by_cases e2 : s = i
      · omega
      · subst e1
        rw [updG_at, updG_lt (by omega)] at e
        have := hlt s (by omega)
        omega
    · by_cases e2 : s = i
      · subst e2
        rw [updG_at, updG_lt (by omega)] at e
        have := hlt r (by omega)
        omega
      · rw [updG_lt (by omega), updG_lt (by omega)] at e
        exact h3 r s (by omega) (by omega) e
  · have hb1 := h4.trans (BU.mono h4.size)
    exact below_grown hb1 S2 hb1.size hgo.1
theorem blk_end {w W : World} {go u v : Nat} {G : Nat → Nat} (h : BlkI w go u v u W G) : Pix w.heap.size W go u u v G (fun _ _ => false) := by
  obtain ⟨h1, h2, h3, h4⟩ := h
  rw [Nat.sub_self, List.replicate_zero, List.append_nil] at h1
  exact ⟨h1, h2, h3⟩
end Go.Proofs.Ytcgfoagfoncjiaa
