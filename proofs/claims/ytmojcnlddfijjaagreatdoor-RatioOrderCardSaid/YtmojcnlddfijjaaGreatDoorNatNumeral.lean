/-
  Numerals as decimal texts; a text cut at a byte.
-/
import Derived.Test.YtmojcnlddfijjaaGreatDoorRatCut
import Derived.Test.YtmojcnlddfijjaaGreatDoorNatDec
namespace Go.Proofs.YtmojcnlddfijjaaGreatDoor
open Go.RowKit NatMath

theorem indexByte_app (c : UInt8) (T : List UInt8) : ∀ (A : List UInt8), (∀ b ∈ A, b ≠ c) → Lib.indexByte (A ++ c :: T) c = A.length
  | [], _ => by simp [Lib.indexByte]
  | b :: A, h => by
    have ih := indexByte_app c T A (fun x hx => h x (List.mem_cons_of_mem _ hx))
    have hb : (b == c) = false := by simpa using h b (List.mem_cons_self ..)
    show Lib.indexByte (b :: (A ++ c :: T)) c = _
    unfold Lib.indexByte
    rw [hb, ih]
    have : (((A.length : Nat) : Int) == -1) = false := by simp
    simp [this]
theorem indexByte_not (c : UInt8) : ∀ (A : List UInt8), (∀ b ∈ A, b ≠ c) → Lib.indexByte A c = -1
  | [], _ => by simp [Lib.indexByte]
  | b :: A, h => by
    have ih := indexByte_not c A (fun x hx => h x (List.mem_cons_of_mem _ hx))
    have hb : (b == c) = false := by simpa using h b (List.mem_cons_self ..)
    unfold Lib.indexByte
    rw [hb, ih]
    rfl

theorem bytes_ext {a b : ByteArray} (h : a.data.toList = b.data.toList) : a = b := by
  obtain ⟨⟨x⟩⟩ := a
  obtain ⟨⟨y⟩⟩ := b
  simp at h
  rw [h]
theorem extract_list (b : ByteArray) (i j : Nat) : (b.extract i j).data.toList = (b.data.toList.drop i).take (j - i) := by
  simp [ByteArray.data_extract, List.extract_eq_take_drop]

theorem cutB_hit1 (b : ByteArray) (c : UInt8) (A T : List UInt8) (hb : b.data.toList = A ++ c :: T) (hA : ∀ x ∈ A, x ≠ c) : cutB b c = (⟨A.toArray⟩, ⟨T.toArray⟩, true) := by
  have hi := indexByte_app c T A hA
  rw [← hb] at hi
  unfold cutB
  rw [hi, if_pos (by omega)]
  have hs : b.size = A.length + (T.length + 1) := by
    have : b.data.toList.length = A.length + (T.length + 1) := by rw [hb]; simp
    simpa using this
  have e1 : b.extract 0 ((A.length : Nat) : Int).toNat = ⟨A.toArray⟩ := by
    apply bytes_ext
    rw [extract_list, hb]
    simp
  have e2 : b.extract (((A.length : Nat) : Int).toNat + 1) b.size = ⟨T.toArray⟩ := by
    apply bytes_ext
    rw [extract_list, hb, hs]
    simp
    exact List.take_of_length_le (by omega)
  rw [e1, e2]
theorem cutB_miss1 (b : ByteArray) (c : UInt8) (hA : ∀ x ∈ b.data.toList, x ≠ c) : cutB b c = (b, ⟨#[]⟩, false) := by
  have hi := indexByte_not c b.data.toList hA
  unfold cutB
  rw [hi, if_neg (by decide)]

theorem dec_not {v : Nat} {c : UInt8} (hc : c.toNat < 48) : ∀ b ∈ Lib.decDigits v, b ≠ c := by
  intro b hb e
  have := (dec_digs v b hb).1
  rw [e] at this
  omega
theorem dec_ne (v : Nat) : Lib.decDigits v ≠ [] := by
  intro h
  have h1 := dec_numeral v
  have h2 : Numeral ⟨(Lib.decDigits v).toArray⟩ := by
    by_cases h3 : Numeral ⟨(Lib.decDigits v).toArray⟩
    · exact h3
    · rw [numB_false h3] at h1; cases h1
  obtain ⟨h4, _⟩ := h2.2
  rw [dec_size, h] at h4
  exact absurd h4 (Nat.lt_irrefl _)

theorem digAt_lt {s : ByteArray} {i : Nat} (hd : DigTo s s.size) (hi : i < s.size) : digAt s i < 10 ∧ s.data.toList[i]? = some (UInt8.ofNat (48 + digAt s i)) := by
  have h := hd i hi hi
  have e : digAt s i = (s[i]'hi).toNat - 48 := by unfold digAt; rw [dif_pos hi]
  rw [e]
  refine ⟨by omega, ?_⟩
  have h2 : s.data.toList[i]? = some (s[i]'hi) := by
    rw [List.getElem?_eq_some_iff]
    exact ⟨by simpa using hi, rfl⟩
  rw [h2]
  congr 1
  have : 48 + ((s[i]'hi).toNat - 48) = (s[i]'hi).toNat := by omega
  rw [this]
  simp
theorem numG_pos {s : ByteArray} (hd : DigTo s s.size) (h0 : 0 < s.size) (hne : (s[0]'h0).toNat ≠ 48) : ∀ k, 1 ≤ k → 1 ≤ numG s 0 k
  | 0, h => absurd h (by omega)
  | 1, _ => by
    have h := hd 0 h0 h0
    have e : digAt s 0 = (s[0]'h0).toNat - 48 := by unfold digAt; rw [dif_pos h0]
    show 1 ≤ numG s 0 0 * 10 + digAt s (0 + 0)
    rw [Nat.zero_add, e]
    omega
  | k + 2, _ => by
    have ih := numG_pos hd h0 hne (k + 1) (by omega)
    show 1 ≤ numG s 0 (k + 1) * 10 + digAt s (0 + (k + 1))
    omega
theorem dec_take {s : ByteArray} (hd : DigTo s s.size) (h0 : 0 < s.size) (hh : s.size = 1 ∨ (s[0]'h0).toNat ≠ 48) : ∀ k, 1 ≤ k → k ≤ s.size → Lib.decDigits (numG s 0 k) = s.data.toList.take k
  | 0, h, _ => absurd h (by omega)
  | 1, _, _ => by
    obtain ⟨h1, h2⟩ := digAt_lt hd h0
    have e : numG s 0 1 = digAt s 0 := by show 0 * 10 + digAt s (0 + 0) = digAt s 0; simp
    rw [e, Lib.decDigits_one h1]
    have hl : ∃ x l, s.data.toList = x :: l := by
      cases h : s.data.toList with
      | nil => rw [h] at h2; simp at h2
      | cons x l => exact ⟨x, l, rfl⟩
    obtain ⟨x, l, hx⟩ := hl
    rw [hx] at h2 ⊢
    simp at h2
    simp [h2]
  | k + 2, _, hk => by
    have hne : (s[0]'h0).toNat ≠ 48 := by
      rcases hh with h | h
      · omega
      · exact h
    have ih := dec_take hd h0 hh (k + 1) (by omega) (by omega)
    have hp := numG_pos hd h0 hne (k + 1) (by omega)
    obtain ⟨h1, h2⟩ := digAt_lt hd (show k + 1 < s.size by omega)
    have e : numG s 0 (k + 2) = numG s 0 (k + 1) * 10 + digAt s (k + 1) := by show numG s 0 (k + 1) * 10 + digAt s (0 + (k + 1)) = _; rw [Nat.zero_add]
    rw [e, Lib.decDigits, dif_neg (by omega), show (numG s 0 (k + 1) * 10 + digAt s (k + 1)) / 10 = numG s 0 (k + 1) by omega, show (numG s 0 (k + 1) * 10 + digAt s (k + 1)) % 10 = digAt s (k + 1) by omega, ih]
    have ht : s.data.toList.take (k + 2) = s.data.toList.take (k + 1) ++ (s.data.toList[k + 1]?).toList := List.take_add_one
    rw [ht, h2]
    rfl
theorem numB_numeral {s : ByteArray} (h : numB s = true) : Numeral s := by
  by_cases h3 : Numeral s
  · exact h3
  · rw [numB_false h3] at h; cases h
theorem split_at (b : ByteArray) (c : UInt8) : (cutB b c).2.2 = true → b.data.toList = (cutB b c).1.data.toList ++ c :: (cutB b c).2.1.data.toList := by
  unfold cutB
  split
  · rename_i h
    intro _
    obtain ⟨k, hk⟩ : ∃ k : Nat, Lib.indexByte b.data.toList c = k := ⟨(Lib.indexByte b.data.toList c).toNat, by omega⟩
    rw [hk]
    show b.data.toList = (b.extract 0 k).data.toList ++ c :: (b.extract (k + 1) b.size).data.toList
    rw [extract_list, extract_list]
    have h1 := (Lib.indexByte_some hk).1
    have hs : b.size = b.data.toList.length := by simp
    obtain ⟨h3, h4⟩ := List.getElem?_eq_some_iff.mp h1
    rw [List.drop_zero, Nat.sub_zero, List.take_of_length_le (l := b.data.toList.drop (k + 1)) (by rw [List.length_drop]; omega), ← h4, List.getElem_cons_drop, List.take_append_drop]
  · intro h
    cases h
theorem unsplit (b : ByteArray) (c : UInt8) : (cutB b c).2.2 = false → (cutB b c).1 = b := by
  unfold cutB
  split
  · intro h; cases h
  · intro _; rfl
theorem cut_size (s : ByteArray) (c : UInt8) : (cutB s c).1.size ≤ s.size ∧ (cutB s c).2.1.size ≤ s.size := by
  unfold cutB
  split
  · simp only [ByteArray.size_extract]; omega
  · exact ⟨Nat.le_refl _, Nat.zero_le _⟩
end Go.Proofs.YtmojcnlddfijjaaGreatDoor
