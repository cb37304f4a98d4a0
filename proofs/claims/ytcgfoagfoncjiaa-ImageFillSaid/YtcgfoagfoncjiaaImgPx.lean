/-
  The reference's rows of pixels: a slice of slices of bools.
-/
import Derived.Test.YtcgfoagfoncjiaaImgNew
namespace Go.Proofs.Ytcgfoagfoncjiaa
open Go.RowKit Im

namespace Im
/-- The rows as slice values. -/
def rowsV (G : Nat → Nat) (v m : Nat) : List Value := (List.range m).map fun r => .slice (some ⟨G r, 0, none⟩) v v
/-- The pixels of one row. -/
def rowB (v : Nat) (f : Nat → Bool) : List Value := (List.range v).map fun c => .bool (f c)
def upd2 (f : Nat → Nat → Bool) (r c : Nat) (b : Bool) : Nat → Nat → Bool := fun r' c' => if r' = r ∧ c' = c then b else f r' c'
theorem rowsV_get (G : Nat → Nat) (v m r : Nat) (h : r < m) : (rowsV G v m)[r]? = some (.slice (some ⟨G r, 0, none⟩) v v) := by
  unfold rowsV
  rw [List.getElem?_map, List.getElem?_range h]
  rfl
theorem rowsV_len (G : Nat → Nat) (v m : Nat) : (rowsV G v m).length = m := by simp [rowsV]
theorem rowB_get (v : Nat) (f : Nat → Bool) (c : Nat) (h : c < v) : (rowB v f)[c]? = some (.bool (f c)) := by
  unfold rowB
  rw [List.getElem?_map, List.getElem?_range h]
  rfl
theorem rowB_len (v : Nat) (f : Nat → Bool) : (rowB v f).length = v := by simp [rowB]
theorem rowB_set (v : Nat) (f : Nat → Nat → Bool) (r c : Nat) (b : Bool) : (rowB v (f r)).set c (.bool b) = rowB v (upd2 f r c b r) := by
  apply List.ext_getElem?
  intro k
  by_cases hk : k < v
  · rw [rowB_get _ _ _ hk, List.getElem?_set, rowB_len]
    unfold upd2
    by_cases e : c = k
    · subst e
      rw [if_pos rfl, if_pos hk, if_pos ⟨rfl, rfl⟩]
    · rw [if_neg e, rowB_get _ _ _ hk, if_neg (fun h => e h.2.symm)]
  · rw [List.getElem?_eq_none (by rw [List.length_set, rowB_len]; omega), List.getElem?_eq_none (by rw [rowB_len]; omega)]
theorem rowB_other (v : Nat) (f : Nat → Nat → Bool) (r c : Nat) (b : Bool) {s : Nat} (h : s ≠ r) : rowB v (upd2 f r c b s) = rowB v (f s) := by
  unfold rowB upd2
  apply List.map_congr_left
  intro k _
  rw [if_neg (fun e => h e.1)]
end Im
/-- The rows of pixels f, each v wide, the outer row in block go, row r in block G r; all made from block B on. -/
structure Pix (B : Nat) (W : World) (go m oc v : Nat) (G : Nat → Nat) (f : Nat → Nat → Bool) : Prop where
  out : W.ownsRow B 48 1 (.slice (some ⟨go, 0, none⟩) m oc) m (rowsV G v m)
  row : ∀ r, r < m → B ≤ G r ∧ G r ≠ go ∧ Arr W (G r) 4 (rowB v (f r))
  inj : ∀ r s, r < m → s < m → G r = G s → r = s
section
variable {B : Nat} {W W' : World} {go m oc v : Nat} {G : Nat → Nat} {f : Nat → Nat → Bool}
theorem Pix.rowAt (h : Pix B W go m oc v G f) {r : Nat} (hr : r < m) : W.cell? ⟨go, r, none⟩ = some (.slice (some ⟨G r, 0, none⟩) v v) := by
  rw [h.out.cellAt r (by omega), rowsV_get G v m r hr]
theorem Pix.rowFz (h : Pix B W go m oc v G f) (r : Nat) : W.frozen? ⟨go, r, none⟩ = false := h.out.frozenAt r
theorem Pix.cellAt (h : Pix B W go m oc v G f) {r c : Nat} (hr : r < m) (hc : c < v) : W.cell? ⟨G r, c, none⟩ = some (.bool (f r c)) := by
  rw [(h.row r hr).2.2.cell c, rowB_get v (f r) c hc]
theorem Pix.cellFz (h : Pix B W go m oc v G f) {r : Nat} (hr : r < m) (c : Nat) : W.frozen? ⟨G r, c, none⟩ = false := (h.row r hr).2.2.frozen c
theorem Pix.kept (h : Pix B W go m oc v G f) (hb : Below W.heap.size W W') : Pix B W' go m oc v G f :=
  ⟨h.out.kept (row := none) ⟨hb.os, hb.tape, hb.output, hb.size, fun j hj _ => hb.block j hj⟩ (by simp [Value.ownBlock]), fun r hr => ⟨(h.row r hr).1, (h.row r hr).2.1, (h.row r hr).2.2.kept hb⟩, h.inj⟩
theorem Pix.mono {B' : Nat} (h : Pix B W go m oc v G f) (hb : B' ≤ B) : Pix B' W go m oc v G f :=
  ⟨h.out.mono hb, fun r hr => ⟨Nat.le_trans hb (h.row r hr).1, (h.row r hr).2⟩, h.inj⟩
theorem Pix.low (h : Pix B W go m oc v G f) : B ≤ go ∧ go < W.heap.size := World.ownsRow.lt h.out go rfl
theorem Pix.set (h : Pix B W go m oc v G f) {r : Nat} (hr : r < m) (c : Nat) (b : Bool) : Pix B (W.setCell ⟨G r, c, none⟩ (.bool b)) go m oc v G (upd2 f r c b) ∧ W.grownBy (W.setCell ⟨G r, c, none⟩ (.bool b)) (some (G r)) := by
  have hG : W.grownBy (W.setCell ⟨G r, c, none⟩ (.bool b)) (some (G r)) := grown_set W ⟨G r, c, none⟩ (.bool b)
  refine ⟨⟨h.out.kept hG (Or.inr (fun e => (h.row r hr).2.1 (by injection e with e; exact e.symm))), fun s hs => ⟨(h.row s hs).1, (h.row s hs).2.1, ?_⟩, h.inj⟩, hG⟩
  by_cases e : s = r
  · subst e
    rw [← rowB_set]
    exact (h.row s hs).2.2.set c (.bool b)
  · rw [rowB_other v f r c b e]
    exact (h.row s hs).2.2.grownBy hG (fun e' => e (h.inj s r hs hr e'))
end
theorem sizeRow : (Try.prog.info? 48).map (·.size) = some 1 := by kernel_rfl
theorem sizeBool : (Try.prog.info? 4).map (·.size) = some 1 := by kernel_rfl
theorem infoRow : (Try.prog.info? 48).map (fun i => (i.zero, i.size, i.bytes)) = some (some (.slice none 0 0), 1, 24) := by kernel_rfl
theorem infoBool : (Try.prog.info? 4).map (fun i => (i.zero, i.size, i.bytes)) = some (some (.bool false), 1, 1) := by kernel_rfl
theorem ix_any {P : Program} {t e : TypeId} (ht : P.underlying t = some (.slice e)) (he : (P.info? e).map (·.size) = some 1) (g n c i : Nat) (hi : i < n) (W : World) :
    (Instr.indexAt t (.slice (some ⟨g, 0, none⟩) n c) (.int .i64 (i : Int))).run P W = .ok (.pointer (some ⟨g, i, none⟩)) W := by
  obtain ⟨inf, hinf, hs⟩ := Option.map_eq_some_iff.1 he
  have h1 : (0 : Int) ≤ (i : Int) ∧ (i : Int) < (n : Int) := by omega
  have e : (⟨g, 0, none⟩ : Addr).add i = ⟨g, i, none⟩ := by have := pt_own g i; simpa [pt] using this
  simp [Instr.indexAt, run_underlying ht, asIntOf, sizeOf, typeInfo, hinf, hs, hi, e]
theorem ixO (g n c i : Nat) (hi : i < n) : ∀ W, (Instr.indexAt 45 (.slice (some ⟨g, 0, none⟩) n c) (.int .i64 (i : Int))).run Try.prog W = .ok (.pointer (some ⟨g, i, none⟩)) W :=
  ix_any Try.underlying45 sizeRow g n c i hi
theorem ixR (g n c i : Nat) (hi : i < n) : ∀ W, (Instr.indexAt 48 (.slice (some ⟨g, 0, none⟩) n c) (.int .i64 (i : Int))).run Try.prog W = .ok (.pointer (some ⟨g, i, none⟩)) W :=
  ix_any Try.underlying48 sizeBool g n c i hi
/-- make(Pixels, m). -/
theorem makeO (m : Nat) (hm : m ≤ 100000) (W : World) : (Instr.makeSlice 45 (.int .i64 (m : Int)) (.int .i64 (m : Int))).run Try.prog W = .ok (.slice (some ⟨W.heap.size, 0, none⟩) m m) (W.alloc (.cells (madeCells #[.slice none 0 0] m) 48)) := by
  refine run_make_row' _ _ _ 24 Try.underlying45 infoRow ?_ _ _ m ?_ ?_ W
  · rfl
  · omega
  · omega
/-- make([]bool, m). -/
theorem makeR (m : Nat) (hm : m ≤ 100000) (W : World) : (Instr.makeSlice 48 (.int .i64 (m : Int)) (.int .i64 (m : Int))).run Try.prog W = .ok (.slice (some ⟨W.heap.size, 0, none⟩) m m) (W.alloc (.cells (madeCells #[.bool false] m) 4)) := by
  refine run_make_row' _ _ _ 1 Try.underlying48 infoBool ?_ _ _ m ?_ ?_ W
  · rfl
  · omega
  · omega
theorem made_row (W : World) (m : Nat) : Arr (W.alloc (.cells (madeCells #[.bool false] m) 4)) W.heap.size 4 (rowB m (fun _ => false)) := by
  have e : madeCells #[Value.bool false] m = (rowB m (fun _ => false)).toArray := by
    apply Array.ext'
    rw [toList_madeCells_one]
    unfold rowB
    apply List.ext_getElem?
    intro k
    by_cases hk : k < m
    · rw [List.getElem?_replicate, if_pos hk, List.getElem?_map, List.getElem?_range hk]; rfl
    · rw [List.getElem?_eq_none (by simp; omega), List.getElem?_eq_none (by simp; omega)]
  rw [e]
  exact Arr.new W _ _
end Go.Proofs.Ytcgfoagfoncjiaa
