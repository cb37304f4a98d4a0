/-
  A vote whose ranks are put together: a box and a row under way, beside what lay there before.
-/
import Derived.Test.YtjpkbaidgddhnaaRkShort
import Derived.Test.YtjpkbaidgddhnaaRkAwake
namespace Go.Proofs.Ytjpkbaidgddhnaa
open Go.RowKit Rk

theorem row_at {w : World} {B n c i : Nat} {E : TypeId} {ao : Option Addr} {us : List Value} {u : Value} (h : w.ownsRow B E 1 (.slice ao n c) n us) (hu : us[i]? = some u) : w.cell? (pt ao i) = some u := by
  have h1 : us.length = n := by have := h.1; simpa using this
  have hi : i < us.length := (List.getElem?_eq_some_iff.1 hu).1
  rcases h.2 with ⟨_, h0⟩ | ⟨g, cap, cur, hv', _⟩
  · omega
  · injection hv' with g1 g2 g3
    subst g1; subst g3
    rw [pt_own, World.ownsRow.cellAt h i (by omega), hu]
/-- Since the world Q: the box at Q's end, the row that it holds, whose values read at the older world w0. -/
structure BldI (w0 Q : World) (vt : Int) (wr : World) (ao : Option Addr) (i d : Nat) (us : List Value) (ls : List (List Int)) : Prop where
  x : Arr wr Q.heap.size 27 [.int .i64 vt, .slice ao i d]
  row : wr.ownsRow Q.heap.size 32 1 (.slice ao i d) i us
  vals : LsV w0 ls us
  low : Below Q.heap.size Q wr
section
variable {w0 Q wr : World} {vt : Int} {ao : Option Addr} {i d : Nat} {us : List Value} {ls : List (List Int)}
theorem BldI.drew (h : BldI w0 Q vt wr ao i d us ls) : BldI w0 Q vt wr.drew ao i d us ls := ⟨h.x, h.row, h.vals, below_drew2 h.low⟩
theorem BldI.add (h : BldI w0 Q vt wr ao i d us ls) {bo : Option Addr} {m e : Nat} {l : List Int} (hL : Lst .i64 w0 bo m e l) (h0 : bo = none → e = 0) :
    ∃ X, wr.alloc (.cells #[.slice bo m e] 32) = X ∧ Arr X wr.heap.size 32 [.slice bo m e] ∧ X.ownsRow Q.heap.size 32 1 (.slice ao i d) i us ∧ Q.heap.size ≤ X.heap.size ∧ X.cell? ⟨Q.heap.size, 1, none⟩ = some (.slice ao i d) ∧ Below Q.heap.size Q X ∧
      ∀ ao' d' w5, w5.ownsRow Q.heap.size 32 1 (.slice ao' (i + 1) d') (i + 1) (us ++ [.slice bo m e]) → X.grownBy w5 (Value.slice ao i d).ownBlock → Below Q.heap.size X w5 →
        ∃ Z, w5.setCell ⟨Q.heap.size, 1, none⟩ (.slice ao' (i + 1) d') = Z ∧ w5.cell? ⟨Q.heap.size, 1, none⟩ = some (.slice ao i d) ∧ w5.frozen? ⟨Q.heap.size, 1, none⟩ = false ∧ Below Q.heap.size Q w5 ∧ BldI w0 Q vt Z ao' (i + 1) d' (us ++ [.slice bo m e]) (ls ++ [l]) := by
  obtain ⟨X, e1, AX, BX, _⟩ := new_box wr 32 [.slice bo m e]
  have OX := ownsRow_keep h.row BX
  have hz := h.low.size
  have bX : Below Q.heap.size Q X := h.low.trans (BX.mono hz)
  refine ⟨X, e1, AX, OX, bX.size, (h.x.kept BX).cell 1, bX, fun ao' d' w5 O5 G5 B5 => ?_⟩
  have x5 := (h.x.kept BX).row OX (by decide) G5
  have b5 := bX.trans B5
  exact ⟨_, rfl, x5.cell 1, x5.frozen 1, b5, x5.set 1 _, row_set O5 x5 (by decide) _, h.vals.snoc hL h0, b5.setCell (p := ⟨Q.heap.size, 1, none⟩) (Nat.le_refl _) _⟩
theorem BldI.rks (h : BldI w0 Q vt wr ao i d us ls) (hb : Below w0.heap.size w0 Q) : Rks wr ao i d ls := rks_own h.row (LsV.below (hb.trans (h.low.mono hb.size)) h.vals)
end
theorem take_pre {A B : List Int} (h : A <+: B) {a b : Nat} (ha : A.length = a) (hb : B.length = b) : a ≤ b ∧ B.take a = A := by
  refine ⟨by rw [← ha, ← hb]; exact h.length_le, ?_⟩
  rw [← ha]
  exact (List.prefix_iff_eq_take.1 h).symm
theorem rank_cut (n : Nat) (rk ov sk : Int) (ms : List (List Int)) (F : Nat) : rank n rk ov sk (ms.take F) <+: rank n rk ov sk ms := by
  unfold rank
  have e : ms.take rk.toNat = (ms.take F).take rk.toNat ++ (ms.take rk.toNat).drop F := by
    rw [List.take_take, Nat.min_comm, ← List.take_take, List.take_append_drop]
  rw [e]
  exact goR_app _ _ _ _ good_nil
end Go.Proofs.Ytjpkbaidgddhnaa
