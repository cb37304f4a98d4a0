import Derived.Test.YtgjndondonehhaaDoorPk2
/-
  A numeral is the decimal text of its number; what ratio.Parse takes is the text of its value.
-/
namespace Go.Proofs.YtgjndondonehhaaDoor
open Go.RowKit NatMath RatMath

theorem digAt_lt {s : ByteArray} {i : Nat} (hd : DigTo s s.size) (hi : i < s.size) : digAt s i < 10 ∧ s.data.toList[i]? = some (UInt8.ofNat (48 + digAt s i)) := by
  have h := hd i hi hi
  have e : digAt s i = (s[i]'hi).toNat - 48 := by unfold digAt; rw [dif_pos hi]
  rw [e]
  refine ⟨by omega, ?_⟩
  have h2 : s.data.toList[i]? = some (s[i]'hi) := by
    rw [List.getElem?_eq_some_iff]
    exact ⟨by simpa using hi, rfl⟩
  rw [h2]
  congr 1
  have : 48 + ((s[i]'hi).toNat - 48) = (s[i]'hi).toNat := by omega
  rw [this]
  simp
theorem numG_pos {s : ByteArray} (hd : DigTo s s.size) (h0 : 0 < s.size) (hne : (s[0]'h0).toNat ≠ 48) : ∀ k, 1 ≤ k → 1 ≤ numG s 0 k
  | 0, h => absurd h (by omega)
  | 1, _ => by
    have h := hd 0 h0 h0
    have e : digAt s 0 = (s[0]'h0).toNat - 48 := by unfold digAt; rw [dif_pos h0]
    show 1 ≤ numG s 0 0 * 10 + digAt s (0 + 0)
    rw [Nat.zero_add, e]
    omega
  | k + 2, _ => by
    have ih := numG_pos hd h0 hne (k + 1) (by omega)
    show 1 ≤ numG s 0 (k + 1) * 10 + digAt s (0 + (k + 1))
    omega
theorem dec_take {s : ByteArray} (hd : DigTo s s.size) (h0 : 0 < s.size) (hh : s.size = 1 ∨ (s[0]'h0).toNat ≠ 48) : ∀ k, 1 ≤ k → k ≤ s.size → Lib.decDigits (numG s 0 k) = s.data.toList.take k
  | 0, h, _ => absurd h (by omega)
  | 1, _, _ => by
    obtain ⟨h1, h2⟩ := digAt_lt hd h0
    have e : numG s 0 1 = digAt s 0 := by show 0 * 10 + digAt s (0 + 0) = digAt s 0; simp
    rw [e, Lib.decDigits_one h1]
    have hl : ∃ x l, s.data.toList = x :: l := by
      cases h : s.data.toList with
      | nil => rw [h] at h2; simp at h2
      | cons x l => exact ⟨x, l, rfl⟩
    obtain ⟨x, l, hx⟩ := hl
    rw [hx] at h2 ⊢
    simp at h2
    simp [h2]
  | k + 2, _, hk => by
    have hne : (s[0]'h0).toNat ≠ 48 := by
      rcases hh with h | h
      · omega
      · exact h
    have ih := dec_take hd h0 hh (k + 1) (by omega) (by omega)
    have hp := numG_pos hd h0 hne (k + 1) (by omega)
    obtain ⟨h1, h2⟩ := digAt_lt hd (show k + 1 < s.size by omega)
    have e : numG s 0 (k + 2) = numG s 0 (k + 1) * 10 + digAt s (k + 1) := by show numG s 0 (k + 1) * 10 + digAt s (0 + (k + 1)) = _; rw [Nat.zero_add]
    rw [e, Lib.decDigits, dif_neg (by omega), show (numG s 0 (k + 1) * 10 + digAt s (k + 1)) / 10 = numG s 0 (k + 1) by omega, show (numG s 0 (k + 1) * 10 + digAt s (k + 1)) % 10 = digAt s (k + 1) by omega, ih]
    have ht : s.data.toList.take (k + 2) = s.data.toList.take (k + 1) ++ (s.data.toList[k + 1]?).toList := List.take_add_one
    rw [ht, h2]
    rfl
theorem numB_numeral {s : ByteArray} (h : numB s = true) : Numeral s := by
  by_cases h3 : Numeral s
  · exact h3
  · rw [numB_false h3] at h; cases h
theorem dg_num {s : ByteArray} (h : numB s = true) : dg (numG s 0 s.size) = s := by
  obtain ⟨hd, h0, hh⟩ := numB_numeral h
  apply bytes_ext
  show Lib.decDigits _ = _
  rw [dec_take hd h0 hh s.size h0 (Nat.le_refl _)]
  exact List.take_of_length_le (by simp)

theorem split_at (b : ByteArray) (c : UInt8) : (cutB b c).2.2 = true → b.data.toList = (cutB b c).1.data.toList ++ c :: (cutB b c).2.1.data.toList := by
  unfold cutB
  split
  · rename_i h
    intro _
    obtain ⟨k, hk⟩ : ∃ k : Nat, Lib.indexByte b.data.toList c = k := ⟨(Lib.indexByte b.data.toList c).toNat, by omega⟩
    rw [hk]
    show b.data.toList = (b.extract 0 k).data.toList ++ c :: (b.extract (k + 1) b.size).data.toList
    rw [extract_list, extract_list]
    have h1 := (Lib.indexByte_some hk).1
    have hs : b.size = b.data.toList.length := by simp
    obtain ⟨h3, h4⟩ := List.getElem?_eq_some_iff.mp h1
    rw [List.drop_zero, Nat.sub_zero, List.take_of_length_le (l := b.data.toList.drop (k + 1)) (by rw [List.length_drop]; omega), ← h4, List.getElem_cons_drop, List.take_append_drop]
  · intro h
    cases h
theorem unsplit (b : ByteArray) (c : UInt8) : (cutB b c).2.2 = false → (cutB b c).1 = b := by
  unfold cutB
  split
  · intro h; cases h
  · intro _; rfl
theorem sign_list (s : ByteArray) : s.data.toList = (if signed s then [45] else []) ++ (unsigned s).data.toList := by
  unfold signed unsigned Lib.trimPrefix
  by_cases h : Lib.hasPrefix s.data.toList [45] = true
  · rw [if_pos h, if_pos h]
    unfold Lib.hasPrefix at h
    obtain ⟨r, hr⟩ := List.isPrefixOf_iff_prefix.1 h
    rw [← hr]
    simp
  · rw [if_neg h, if_neg h]
    simp

/-- The value of a text that Parse takes. -/
noncomputable def valP (s : ByteArray) : R := ⟨signed s, numG (numT s) 0 (numT s).size, numG (denT s) 0 (denT s).size⟩
theorem okP_spec {s : ByteArray} (h : okP s = true) : numB (numT s) = true ∧ numB (denT s) = true ∧ nf (valP s) = valP s ∧ tx (valP s) = s := by
  unfold okP at h
  simp only [Bool.and_eq_true, Bool.not_eq_true'] at h
  obtain ⟨⟨⟨h1, h2⟩, h3⟩, h4⟩ := h
  have e1 : pv (numT s) = limbs (numG (numT s) 0 (numT s).size) := by unfold pv; rw [if_pos h1]
  have e2 : pv (denT s) = limbs (numG (denT s) 0 (denT s).size) := by unfold pv; rw [if_pos h2]
  have hv : nf (valP s) = valP s := by
    unfold validR at h4
    rw [e1, e2, val_limbs, val_limbs] at h4
    obtain ⟨v1, v2, v3⟩ := of_decide_eq_true h4
    have w2 := congrArg val v2
    have w3 := congrArg val v3
    rw [val_limbs, val_limbs] at w2 w3
    show nf ⟨signed s, _, _⟩ = ⟨signed s, _, _⟩
    generalize nf ⟨signed s, numG (numT s) 0 (numT s).size, numG (denT s) 0 (denT s).size⟩ = z at *
    cases z
    simp only at v1 w2 w3
    rw [← v1, ← w2, ← w3]
  refine ⟨h1, h2, hv, ?_⟩
  apply bytes_ext
  rw [tx_list, sign_list s]
  show (if signed s then [45] else []) ++ (dg (numG (numT s) 0 (numT s).size)).data.toList ++ (if numG (denT s) 0 (denT s).size = 1 then [] else 47 :: (dg (numG (denT s) 0 (denT s).size)).data.toList) = _
  rw [dg_num h1, dg_num h2, List.append_assoc]
  congr 1
  cases hF : (cutB (unsigned s) 47).2.2 with
  | true =>
    have hd : denT s = (cutB (unsigned s) 47).2.1 := by unfold denT; rw [if_pos hF]
    have hne : numG (denT s) 0 (denT s).size ≠ 1 := by
      intro h
      have h5 := dg_num h2
      rw [h, dg_1] at h5
      rw [hF] at h3
      simp [← h5] at h3
    rw [if_neg hne, hd]
    exact (split_at _ _ hF).symm
  | false =>
    have hd : denT s = ⟨#[49]⟩ := by unfold denT; rw [hF]; rfl
    have h1 : numG (denT s) 0 (denT s).size = 1 := by
      apply dg_inj
      rw [dg_num h2, hd, dg_1]
    rw [if_pos h1, List.append_nil]
    show (cutB (unsigned s) 47).1.data.toList = _
    rw [unsplit _ _ hF]
end Go.Proofs.YtgjndondonehhaaDoor
