/-
  What Parse makes of Text's digits.
-/
import Derived.Test.YtmojcnlddfijjaaGreatDoorNatParse
import Derived.Test.YtmojcnlddfijjaaGreatDoorNatDigits
namespace Go.Proofs.YtmojcnlddfijjaaGreatDoor
open Go.RowKit NatMath

theorem dec_byte {v : Nat} (h : v < 10) : (UInt8.ofNat (48 + v)).toNat = 48 + v := by simp; omega
theorem digAt_list (l : List UInt8) (i : Nat) : digAt ⟨l.toArray⟩ i = ((l[i]?).map (fun b => b.toNat - 48)).getD 0 := by
  unfold digAt
  by_cases h : i < l.length
  · rw [dif_pos (by simpa [ByteArray.size] using h), List.getElem?_eq_getElem h]
    rfl
  · rw [dif_neg (by simpa [ByteArray.size] using h), List.getElem?_eq_none (by omega)]
    rfl
theorem numG_congr {s t : ByteArray} : ∀ k, (∀ i, i < k → digAt s i = digAt t i) → numG s 0 k = numG t 0 k
  | 0, _ => rfl
  | k + 1, h => by rw [numG, numG, numG_congr k (fun i hi => h i (by omega)), h (0 + k) (by omega)]
theorem numG_snoc (l : List UInt8) (d : UInt8) : numG ⟨(l ++ [d]).toArray⟩ 0 (l.length + 1) = numG ⟨l.toArray⟩ 0 l.length * 10 + (d.toNat - 48) := by
  rw [numG, Nat.zero_add, digAt_list, List.getElem?_append_right (Nat.le_refl _), Nat.sub_self]
  rw [numG_congr (t := ⟨l.toArray⟩) l.length (fun i hi => by rw [digAt_list, digAt_list, List.getElem?_append_left hi])]
  rfl

theorem dec_num (V : Nat) : numG ⟨(Lib.decDigits V).toArray⟩ 0 (Lib.decDigits V).length = V := by
  induction V using Nat.strongRecOn with
  | ind V ih =>
    by_cases h : V < 10
    · rw [Lib.decDigits_one h]
      have := numG_snoc [] (UInt8.ofNat (48 + V))
      rw [dec_byte h] at this
      simp only [List.nil_append, List.length_nil, Nat.zero_add] at this
      rw [List.length_singleton, this]
      simp [numG]
    · rw [decDigits_ge (by omega), List.length_append, List.length_singleton, numG_snoc, ih (V / 10) (by omega), dec_byte (by omega)]
      omega
theorem dec_digs (V : Nat) : ∀ b ∈ Lib.decDigits V, 48 ≤ b.toNat ∧ b.toNat ≤ 57 := by
  induction V using Nat.strongRecOn with
  | ind V ih =>
    intro b hb
    by_cases h : V < 10
    · rw [Lib.decDigits_one h, List.mem_singleton] at hb
      subst hb
      rw [dec_byte h]
      omega
    · rw [decDigits_ge (by omega), List.mem_append, List.mem_singleton] at hb
      rcases hb with hb | rfl
      · exact ih (V / 10) (by omega) b hb
      · rw [dec_byte (by omega)]
        omega
theorem dec_head (V : Nat) (h0 : 1 ≤ V) : ∃ d, (Lib.decDigits V)[0]? = some d ∧ d.toNat ≠ 48 := by
  induction V using Nat.strongRecOn with
  | ind V ih =>
    by_cases h : V < 10
    · rw [Lib.decDigits_one h]
      exact ⟨_, rfl, by rw [dec_byte h]; omega⟩
    · obtain ⟨d, hd, h48⟩ := ih (V / 10) (by omega) (by omega)
      refine ⟨d, ?_, h48⟩
      rw [decDigits_ge (by omega), List.getElem?_append_left (List.getElem?_eq_some_iff.1 hd).1]
      exact hd
theorem dec_len (k : Nat) : ∀ V, V < 10 ^ (k + 1) → (Lib.decDigits V).length ≤ k + 1 := by
  induction k with
  | zero => intro V h; rw [Lib.decDigits_one (by simpa using h)]; exact Nat.le_refl _
  | succ k ih =>
    intro V h
    by_cases h10 : V < 10
    · rw [Lib.decDigits_one h10]; simp
    · rw [decDigits_ge (by omega), List.length_append, List.length_singleton]
      have := ih (V / 10) (by rw [Nat.pow_succ] at h; omega)
      omega
theorem dec_size (V : Nat) : (⟨(Lib.decDigits V).toArray⟩ : ByteArray).size = (Lib.decDigits V).length := by simp [ByteArray.size]
theorem dec_get {V i : Nat} (h : i < (⟨(Lib.decDigits V).toArray⟩ : ByteArray).size) : (⟨(Lib.decDigits V).toArray⟩ : ByteArray)[i]'h = (Lib.decDigits V)[i]'(by rw [← dec_size]; exact h) := rfl
theorem dec_numeral (V : Nat) : numB ⟨(Lib.decDigits V).toArray⟩ = true := by
  refine numB_true ⟨fun i hi _ => ?_, ?_⟩
  · rw [dec_get]
    exact dec_digs V _ (List.getElem_mem _)
  · by_cases h0 : V = 0
    · subst h0
      have e : (⟨(Lib.decDigits 0).toArray⟩ : ByteArray).size = 1 := by rw [dec_size, Lib.decDigits_one (by omega)]; rfl
      exact ⟨by omega, Or.inl e⟩
    · obtain ⟨d, hd, h48⟩ := dec_head V (by omega)
      obtain ⟨hl, he⟩ := List.getElem?_eq_some_iff.1 hd
      refine ⟨by rw [dec_size]; exact hl, Or.inr ?_⟩
      rw [dec_get, he]
      exact h48
end Go.Proofs.YtmojcnlddfijjaaGreatDoor
