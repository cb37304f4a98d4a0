/-
  The text of a digest, read back.
-/
import Derived.Test.YtfmpccfoemgiiaaDoorDigParse
namespace Go.Proofs.YtfmpccfoemgiiaaDoor
open Go.RowKit Dig
namespace Dig
theorem hexI_at (D : List Int) : ∀ i, i < D.length → (hexI D).getD (2 * i) 0 = ((hexN ((D.getD i 0).toNat / 16) : Nat) : Int) ∧ (hexI D).getD (2 * i + 1) 0 = ((hexN ((D.getD i 0).toNat % 16) : Nat) : Int) := by
  induction D with
  | nil => intro i hi; cases hi
  | cons x D ih =>
    intro i hi
    have e : hexI (x :: D) = ((hexN (x.toNat / 16) : Nat) : Int) :: ((hexN (x.toNat % 16) : Nat) : Int) :: hexI D := rfl
    cases i with
    | zero => rw [e]; exact ⟨rfl, rfl⟩
    | succ i =>
      have := ih i (by simpa using hi)
      rw [e, show 2 * (i + 1) = 2 * i + 1 + 1 by omega]
      exact this
theorem byt_strOf (xs : List Int) (j : Nat) (b : Nat) (hb : xs.getD j 0 = (b : Int)) (h : b < 256) (hj : j < xs.length) : byt (strOf xs) j = b := by
  have hb' : xs[j] = (b : Int) := by
    rw [← hb, List.getD_eq_getElem?_getD, List.getElem?_eq_getElem hj]; rfl
  have hl : j < (strOf xs).data.toList.length := by simp [strOf, hj]
  rw [byt, getD_lt _ _ hl]
  simp [strOf, hb']
  omega
theorem text_byt {D : List Int} (h : IsD D) (i : Nat) (hi : i < 32) (b : Nat) (hb : D.getD i 0 = (b : Int)) (h255 : b ≤ 255) : byt (textS D) (2 * i) = hexN (b / 16) ∧ byt (textS D) (2 * i + 1) = hexN (b % 16) := by
  have ha := hexI_at D i (by rw [h.len]; exact hi)
  rw [hb, show ((b : Int)).toNat = b by omega] at ha
  have l1 := hexN_le (b / 16) (by omega)
  have l2 := hexN_le (b % 16) (by omega)
  exact ⟨byt_strOf _ _ _ ha.1 (by omega) (by rw [hexI_len, h.len]; omega), byt_strOf _ _ _ ha.2 (by omega) (by rw [hexI_len, h.len]; omega)⟩
theorem text_hex {D : List Int} (h : IsD D) : HexTo (textS D) 64 := fun j hj => by
  obtain ⟨b, hb, h255⟩ := h.at (j / 2) (by omega)
  have ht := text_byt h (j / 2) (by omega) b hb.out h255
  rcases (show j = 2 * (j / 2) ∨ j = 2 * (j / 2) + 1 by omega) with e | e
  · rw [e, ht.1, hx_hexN _ (by omega)]; omega
  · rw [e, ht.2, hx_hexN _ (by omega)]; omega
theorem text_pd {D : List Int} (h : IsD D) : pd (textS D) 32 = D := by
  have hi : ∀ i, i ≤ 32 → pd (textS D) i = D.take i := by
    intro i
    induction i with
    | zero => intro _; rfl
    | succ i ih =>
      intro hi
      obtain ⟨b, hb, h255⟩ := h.at i (by omega)
      have ht := text_byt h i (by omega) b hb.out h255
      rw [pd, ih (by omega), ht.1, ht.2, hx_hexN _ (by omega), hx_hexN _ (by omega), take_next _ _ (by rw [h.len]; omega), hb.out]
      congr 2
      omega
  rw [hi 32 (by omega), List.take_of_length_le (by rw [h.len]; omega)]
end Dig
end Go.Proofs.YtfmpccfoemgiiaaDoor
