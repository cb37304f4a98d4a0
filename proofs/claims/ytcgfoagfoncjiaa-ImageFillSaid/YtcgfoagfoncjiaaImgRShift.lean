/-
  The reference's Shift.
-/
import Derived.Test.YtcgfoagfoncjiaaImgBlank
import Derived.Test.YtcgfoagfoncjiaaImgClose
import Derived.Test.YtcgfoagfoncjiaaImgReg
namespace Go.Proofs.Ytcgfoagfoncjiaa
open Go.RowKit Im

namespace Im
/-- Pixels g up to row r, and in row r up to column c. -/
def fT (g : Nat → Nat → Bool) (r c : Nat) : Nat → Nat → Bool := fun r' c' => if r' < r ∨ (r' = r ∧ c' < c) then g r' c' else false
theorem fT_zero (g : Nat → Nat → Bool) : fT g 0 0 = fun _ _ => false := by
  funext r c
  unfold fT
  rw [if_neg (by omega)]
theorem fT_step (g : Nat → Nat → Bool) (r c : Nat) : upd2 (fT g r c) r c (g r c) = fT g r (c + 1) := by
  funext r' c'
  unfold upd2 fT
  by_cases h : r' = r ∧ c' = c
  · obtain ⟨rfl, rfl⟩ := h
    rw [if_pos ⟨rfl, rfl⟩, if_pos (by omega)]
  · rw [if_neg h]
    by_cases h2 : r' < r ∨ (r' = r ∧ c' < c)
    · rw [if_pos h2, if_pos (by omega)]
    · rw [if_neg h2, if_neg (by omega)]
/-- What Shift makes of the pixels. -/
def shG (v u : Nat) (bs : List Int) (x y : Int) : Nat → Nat → Bool := fun r c => getP v u bs ((c : Int) - x) ((r : Int) - y)
end Im
theorem Pix.congr {B : Nat} {W : World} {go m oc v : Nat} {G : Nat → Nat} {f f' : Nat → Nat → Bool} (h : Pix B W go m oc v G f) (he : ∀ r c, r < m → c < v → f r c = f' r c) : Pix B W go m oc v G f' := by
  refine ⟨h.out, fun r hr => ⟨(h.row r hr).1, (h.row r hr).2.1, ?_⟩, h.inj⟩
  have e : rowB v (f r) = rowB v (f' r) := by
    unfold rowB
    apply List.map_congr_left
    intro k hk
    rw [he r k hr (List.mem_range.1 hk)]
  rw [← e]
  exact (h.row r hr).2.2
theorem Pix.drew {B : Nat} {W : World} {go m oc v : Nat} {G : Nat → Nat} {f : Nat → Nat → Bool} (h : Pix B W go m oc v G f) : Pix B W.drew go m oc v G f := ⟨h.out, h.row, h.inj⟩
/-- The cells that the round's reads want. -/
structure RwS (b3 go r gr v u : Nat) (ao : Option Addr) (n c : Nat) (W : World) : Prop where
  s0 : W.cell? ⟨b3, 0, none⟩ = some (.int .i64 (v : Int))
  s1 : W.cell? ⟨b3, 1, none⟩ = some (.int .i64 (u : Int))
  s2 : W.cell? ⟨b3, 2, none⟩ = some (.slice ao n c)
  s3 : W.cell? ⟨go, r, none⟩ = some (.slice (some ⟨gr, 0, none⟩) v v)
theorem RwS.keep {b3 go r gr v u : Nat} {ao : Option Addr} {n c : Nat} {W W' : World} (h : RwS b3 go r gr v u ao n c W) (hb : Below W.heap.size W W') : RwS b3 go r gr v u ao n c W' :=
  ⟨cell_keep h.s0 hb, cell_keep h.s1 hb, cell_keep h.s2 hb, cell_keep h.s3 hb⟩
theorem RwS.grown {b3 go r gr v u : Nat} {ao : Option Addr} {n c : Nat} {W W' : World} (h : RwS b3 go r gr v u ao n c W) (hb : W.grownBy W' (some gr)) (h1 : b3 ≠ gr) (h2 : go ≠ gr) : RwS b3 go r gr v u ao n c W' :=
  ⟨cell_grown h.s0 h1 hb, cell_grown h.s1 h1 hb, cell_grown h.s2 h1 hb, cell_grown h.s3 h2 hb⟩
theorem wr64i (d : Int) (h : -2000 ≤ d ∧ d ≤ 2000) : wrap64 d = d := by unfold wrap64; omega
theorem i64w2 (d : Int) (h : -2000 ≤ d ∧ d ≤ 2000) : IntKind.i64.wrap d = d := by rw [IntKind.wrap_i64]; omega
/-- What Close handed back lies in the result's box. -/
theorem shift_end {w v1 w5 Z : World} {gc M N : Nat} {X : List Int} (hB : Below w.heap.size w v1) (hs : w.heap.size + 1 < v1.heap.size) (O5 : Own 5 .u8 v1.heap.size w5 (some ⟨gc, 0, none⟩) M N X) (B5 : Below v1.heap.size v1 w5) (GZ : w5.grownBy Z (some (w.heap.size + 1))) : Hid (Own 5 .u8 w.heap.size Z (some ⟨gc, 0, none⟩) M N X ∧ Below w.heap.size w Z) := by
  have h1 := (World.ownsRow.lt O5.1 gc rfl).1
  have hne : gc ≠ w.heap.size + 1 := by omega
  have hb := hB.trans (B5.mono hB.size)
  exact ⟨⟨(O5.1.mono (by omega)).kept GZ (Or.inr (fun e => hne (by injection e))), O5.2⟩, below_grown hb GZ hb.size (by omega)⟩
end Go.Proofs.Ytcgfoagfoncjiaa
