/-
  The reference's Blank.
-/
import Derived.Test.YtpjaljjclkfkmaaImgPx
import Derived.Test.YtpjaljjclkfkmaaImgXorP
namespace Go.Proofs.Ytpjaljjclkfkmaa
open Go.RowKit Im

/-- The first i rows are made. -/
def BlkI (w : World) (go u v i : Nat) (W : World) (G : Nat → Nat) : Prop :=
  W.ownsRow w.heap.size 59 1 (.slice (some ⟨go, 0, none⟩) u u) u (rowsV G v i ++ List.replicate (u - i) (.slice none 0 0)) ∧ (∀ r, r < i → w.heap.size ≤ G r ∧ G r ≠ go ∧ Arr W (G r) 4 (rowB v (fun _ => false))) ∧ (∀ r s, r < i → s < i → G r = G s → r = s) ∧ Below w.heap.size w W
def updG (G : Nat → Nat) (i g : Nat) : Nat → Nat := fun r => if r = i then g else G r
theorem updG_lt {G : Nat → Nat} {i g r : Nat} (h : r < i) : updG G i g r = G r := by unfold updG; rw [if_neg (by omega)]
theorem updG_at {G : Nat → Nat} {i g : Nat} : updG G i g i = g := by unfold updG; rw [if_pos rfl]
theorem rowsV_snoc (G : Nat → Nat) (v i g : Nat) : rowsV (updG G i g) v (i + 1) = rowsV G v i ++ [.slice (some ⟨g, 0, none⟩) v v] := by
  unfold rowsV
  rw [List.range_succ, List.map_append, List.map_cons, List.map_nil, updG_at]
  congr 1
  apply List.map_congr_left
  intro r hr
  rw [updG_lt (List.mem_range.1 hr)]
theorem blk_start (w : World) (v u : Nat) (hu : u ≤ 100000) : BlkI w w.heap.size u v 0 (w.alloc (.cells (madeCells #[.slice none 0 0] u) 59)) (fun _ => 0) := by
  refine ⟨?_, fun r h => absurd h (by omega), fun r s h => absurd h (by omega), (Below.refl _ _).alloc (Nat.le_refl _) _⟩
  have e : rowsV (fun _ => 0) v 0 ++ List.replicate (u - 0) (Value.slice none 0 0) = (madeCells #[Value.slice none 0 0] u).toList := by
    rw [toList_madeCells_one]
    rfl
  rw [e]
  exact World.ownsRow_lit w (madeCells #[.slice none 0 0] u) u (Nat.le_refl _) (Nat.le_trans hu (by unfold maxLen; decide)) (by rw [size_madeCells, Nat.mul_one])
theorem blk_step {w W : World} {go u v i : Nat} {G : Nat → Nat} (h : BlkI w go u v i W G) (hi : i < u) : ∃ U Z, W.alloc (.cells (madeCells #[.bool false] v) 4) = U ∧ U.setCell ⟨go, i, none⟩ (.slice (some ⟨W.heap.size, 0, none⟩) v v) = Z ∧ U.cell? ⟨go, i, none⟩ = some (.slice none 0 0) ∧ U.frozen? ⟨go, i, none⟩ = false ∧ BlkI w go u v (i + 1) Z (updG G i W.heap.size) := by
  obtain ⟨h1, h2, h3, h4⟩ := h
  have hgo := World.ownsRow.lt h1 go rfl
  obtain ⟨U, hU⟩ : ∃ U, W.alloc (.cells (madeCells #[.bool false] v) 4) = U := ⟨_, rfl⟩
  have AR : Arr U W.heap.size 4 (rowB v (fun _ => false)) := by rw [← hU]; exact made_row W v
  have BU : Below W.heap.size W U := by rw [← hU]; exact (Below.refl _ _).alloc (Nat.le_refl _) _
  have O1 := h1.kept (row := none) ⟨BU.os, BU.tape, BU.output, BU.size, fun j hj _ => BU.block j hj⟩ (by simp [Value.ownBlock])
  obtain ⟨S1, S2⟩ := O1.stored i (.slice (some ⟨W.heap.size, 0, none⟩) v v)
  have hl : (rowsV G v i).length = i := rowsV_len G v i
  refine ⟨U, _, hU, rfl, ?_, O1.frozenAt i, ?_, fun r hr => ?_, fun r s hr hs e => ?_, ?_⟩
  · rw [O1.cellAt i (by omega), List.getElem?_append_right (by omega), hl, Nat.sub_self, List.getElem?_replicate, if_pos (by omega)]
  · have e : (rowsV G v i ++ List.replicate (u - i) (Value.slice none 0 0)).set i (.slice (some ⟨W.heap.size, 0, none⟩) v v) = rowsV (updG G i W.heap.size) v (i + 1) ++ List.replicate (u - (i + 1)) (Value.slice none 0 0) := by
      rw [rowsV_snoc, List.set_append_right _ _ (by omega), hl, Nat.sub_self, show u - i = (u - (i + 1)) + 1 by omega, List.replicate_succ, List.set_cons_zero, List.append_assoc]
      rfl
    rw [← e]
    exact S1
  · by_cases e : r = i
    · subst e
      rw [updG_at]
      exact ⟨h4.size, by omega, AR.grownBy S2 (by omega)⟩
    · rw [updG_lt (by omega)]
      obtain ⟨g1, g2, g3⟩ := h2 r (by omega)
      exact ⟨g1, g2, (g3.kept BU).grownBy S2 g2⟩
  · have hlt : ∀ r, r < i → G r < W.heap.size := fun r hr => (h2 r hr).2.2.lt
    by_cases e1 : r = i
    · by_cases e2 : s = i
      · omega
      · subst e1
        rw [updG_at, updG_lt (by omega)] at e
        have := hlt s (by omega)
        omega
    · by_cases e2 : s = i
      · subst e2
        rw [updG_at, updG_lt (by omega)] at e
        have := hlt r (by omega)
        omega
      · rw [updG_lt (by omega), updG_lt (by omega)] at e
        exact h3 r s (by omega) (by omega) e
  · have hb1 := h4.trans (BU.mono h4.size)
    exact below_grown hb1 S2 hb1.size hgo.1
theorem blk_end {w W : World} {go u v : Nat} {G : Nat → Nat} (h : BlkI w go u v u W G) : Pix w.heap.size W go u u v G (fun _ _ => false) := by
  obtain ⟨h1, h2, h3, h4⟩ := h
  rw [Nat.sub_self, List.replicate_zero, List.append_nil] at h1
  exact ⟨h1, h2, h3⟩
set_option maxHeartbeats 3200000 in
set_option maxRecDepth 100000 in
theorem refBlank_c (v u : Nat) (w : World) (hv : v ≤ 512) (hu : u ≤ 512) :
    Calls Try.prog 45 #[.int .i64 (v : Int), .int .i64 (u : Int)] w fun e w' => ∃ (go : Nat) (G : Nat → Nat), e = .returned (.slice (some ⟨go, 0, none⟩) u u) ∧ Pix w.heap.size w' go u u v G (fun _ _ => false) ∧ Below w.heap.size w w' := by
  have hmO := makeO u (by omega)
  have hmR := makeR v (by omega)
  have h0 := blk_start w v u (by omega)
  obtain ⟨V, hV⟩ : ∃ V, w.alloc (.cells (madeCells #[.slice none 0 0] u) 59) = V := ⟨_, rfl⟩
  rw [hV] at h0
  obtain ⟨go, hgo⟩ : ∃ g, w.heap.size = g := ⟨_, rfl⟩
  have H0 : Hid (BlkI w go u v 0 V (fun _ => 0)) := by rw [← hgo]; exact h0
  have hgoH := Lib.hid hgo
  clear h0
  go_enter Try.func45, Try.ntmps45
  go_wp2_with fail
  clear hgo hV
  go_loopw [6] (fun iv wr => ∃ (i : Nat) (G : Nat → Nat), i ≤ u ∧ iv = .int .i64 (i : Int) ∧ Hid (BlkI w go u v i wr G)) (fun iv _ => u - (intOf iv).toNat)
  case atStart => exact ⟨0, _, Nat.zero_le _, rfl, H0⟩
  case round =>
    obtain ⟨v1, hv1⟩ : ∃ y, y = wr := ⟨_, rfl⟩
    subst hv1
    clear H0
    obtain ⟨i, G, hi, rfl, HI⟩ := hrel
    by_cases hiu : i < u
    · have hiu' : (i : Int) < (u : Int) := by omega
      obtain ⟨U, Z, m1, m2, q0, q1, HZ⟩ := blk_step HI.out hiu
      have hix := ixO go u u i hiu
      obtain ⟨g, hg⟩ : ∃ g, v1.heap.size = g := ⟨_, rfl⟩
      rw [hg] at m2 HZ
      replace HZ := Lib.hid HZ
      clear HI
      go_wp2_with fail
      go_roundw
      case rel => exact ⟨i + 1, _, by omega, by go_num, HZ⟩
      case measure => simp [intOf]; omega
    · obtain rfl : i = u := by omega
      have hfin : Hid (Pix w.heap.size v1 go i i v G (fun _ _ => false) ∧ Below w.heap.size w v1) := ⟨blk_end HI.out, HI.out.2.2.2⟩
      clear HI
      go_wp2_with fail
      go_ret
      exact ⟨go, G, rfl, hfin.out.1, hfin.out.2⟩
end Go.Proofs.Ytpjaljjclkfkmaa
