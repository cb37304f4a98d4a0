/-
  Plain mathematics for layer 3: the decimal text of a fixed-point number. No program, no world.
-/
import Derived.Lib.ItoaNum
namespace Go.Proofs.YtmojcnlddfijjaaDoor.FixMath
open Go

/-- The last D digits of a number, zeros included. -/
def low : Nat → Nat → List UInt8
  | 0, _ => []
  | D + 1, v => low D (v / 10) ++ [UInt8.ofNat (48 + v % 10)]

theorem low_len (D : Nat) : ∀ v, (low D v).length = D := by
  induction D with
  | zero => intro v; rfl
  | succ D ih => intro v; rw [low, List.length_append, ih]; rfl

theorem low_mod (D : Nat) : ∀ v, low D (v % 10 ^ D) = low D v := by
  induction D with
  | zero => intro v; rfl
  | succ D ih =>
    intro v
    have e : v % 10 ^ (D + 1) / 10 = v / 10 % 10 ^ D := by
      rw [Nat.pow_succ, Nat.mul_comm, Nat.mod_mul_right_div_self]
    have e2 : v % 10 ^ (D + 1) % 10 = v % 10 := Nat.mod_mod_of_dvd _ (by rw [Nat.pow_succ]; exact Nat.dvd_mul_left _ _)
    rw [low, low, e, ih, e2]

theorem dec_small {v : Nat} (h : v < 10) : Lib.decDigits v = [UInt8.ofNat (48 + v)] := by rw [Lib.decDigits, dif_pos h]
theorem dec_step {v : Nat} (h : ¬ v < 10) : Lib.decDigits v = Lib.decDigits (v / 10) ++ [UInt8.ofNat (48 + v % 10)] := by rw [Lib.decDigits, dif_neg h]

/-- A one before the digits keeps the zeros. -/
theorem dec_one (D : Nat) : ∀ r, r < 10 ^ D → Lib.decDigits (10 ^ D + r) = 49 :: low D r := by
  induction D with
  | zero =>
    intro r hr
    obtain rfl : r = 0 := by simpa using hr
    rw [dec_small (by decide)]; rfl
  | succ D ih =>
    intro r hr
    have h10 : 0 < 10 ^ D := Nat.pow_pos (by omega)
    have hp : 10 ^ (D + 1) = 10 * 10 ^ D := by rw [Nat.pow_succ, Nat.mul_comm]
    have h1 : ¬ 10 ^ (D + 1) + r < 10 := by omega
    have h2 : (10 ^ (D + 1) + r) / 10 = 10 ^ D + r / 10 := by omega
    have h3 : (10 ^ (D + 1) + r) % 10 = r % 10 := by omega
    rw [dec_step h1, h2, h3, ih (r / 10) (by omega)]
    rfl

theorem pad_aux (D : Nat) : ∀ v k, D + 1 ≤ k + (Lib.decDigits v).length → (k = 0 ∨ k + (Lib.decDigits v).length = D + 1) →
    List.replicate k 48 ++ Lib.decDigits v = Lib.decDigits (v / 10 ^ D) ++ low D v := by
  induction D with
  | zero =>
    intro v k h1 h2
    have hpos : 0 < (Lib.decDigits v).length := by
      by_cases h : v < 10
      · rw [dec_small h]; exact Nat.one_pos
      · rw [dec_step h]; simp
    obtain rfl : k = 0 := by rcases h2 with h | h <;> omega
    simp [low]
  | succ D ih =>
    intro v k h1 h2
    have hp : v / 10 ^ (D + 1) = v / 10 / 10 ^ D := by rw [Nat.pow_succ, Nat.mul_comm, Nat.div_div_eq_div_mul]
    rw [hp, low]
    by_cases h : v < 10
    · rw [dec_small h] at h1 h2 ⊢
      simp only [List.length_singleton] at h1 h2
      have hk : k = D + 1 := by rcases h2 with h | h <;> omega
      subst hk
      have e0 : v / 10 = 0 := by omega
      have i := ih 0 D (by rw [dec_small (by omega)]; simp) (Or.inr (by rw [dec_small (by omega)]; simp))
      rw [e0, ← List.append_assoc, ← i, dec_small (v := 0) (by omega), List.replicate_succ', show v % 10 = v by omega]
      simp
    · rw [dec_step h] at h1 h2 ⊢
      simp only [List.length_append, List.length_singleton] at h1 h2
      have i := ih (v / 10) k (by omega) (by rcases h2 with h | h; exact Or.inl h; exact Or.inr (by omega))
      rw [← List.append_assoc, i, List.append_assoc]

/-- The text of a number with D digits behind the point. -/
def ftx (v D : Nat) : List UInt8 := if D = 0 then Lib.decDigits v else Lib.decDigits (v / 10 ^ D) ++ 46 :: low D v

theorem dec_ne (v : Nat) : 0 < (Lib.decDigits v).length := by
  by_cases h : v < 10
  · rw [dec_small h]; exact Nat.one_pos
  · rw [dec_step h]; simp

/-- The reference's way: zeros ahead up to D + 1 digits, then the point. -/
theorem ftx_pad {v D k : Nat} {L : List UInt8} (hD : D ≠ 0) (hL : L = List.replicate k 48 ++ Lib.decDigits v) (h1 : D < L.length) (h2 : k = 0 ∨ L.length = D + 1) :
    L.take (L.length - D) ++ 46 :: L.drop (L.length - D) = ftx v D := by
  have e : L = Lib.decDigits (v / 10 ^ D) ++ low D v := by
    rw [hL]
    rw [hL, List.length_append, List.length_replicate] at h1 h2
    exact pad_aux D v k (by omega) h2
  have hl : L.length - D = (Lib.decDigits (v / 10 ^ D)).length := by
    rw [e, List.length_append, low_len]; omega
  unfold ftx
  rw [if_neg hD, hl, e]
  simp

theorem low_byte (D : Nat) : ∀ v b, b ∈ low D v → 48 ≤ b.toNat ∧ b.toNat ≤ 57 := by
  induction D with
  | zero => intro v b h; cases h
  | succ D ih =>
    intro v b h
    rw [low, List.mem_append] at h
    rcases h with h | h
    · exact ih _ b h
    · rw [List.mem_singleton] at h
      subst h
      have : v % 10 < 10 := Nat.mod_lt _ (by omega)
      simp
      omega
theorem dec_byte48 (v : Nat) : ∀ b ∈ Lib.decDigits v, 48 ≤ b.toNat ∧ b.toNat ≤ 57 := by
  induction v using Nat.strongRecOn with
  | ind v ih =>
    intro b hb
    by_cases h : v < 10
    · rw [dec_small h, List.mem_singleton] at hb
      subst hb; simp; omega
    · rw [dec_step h, List.mem_append] at hb
      rcases hb with hb | hb
      · exact ih (v / 10) (by omega) b hb
      · rw [List.mem_singleton] at hb
        subst hb
        have : v % 10 < 10 := Nat.mod_lt _ (by omega)
        simp; omega
/-- The value of a list of digits. -/
def valL (l : List UInt8) : Nat := l.foldl (fun a b => a * 10 + (b.toNat - 48)) 0
theorem valL_snoc (l : List UInt8) (b : UInt8) : valL (l ++ [b]) = valL l * 10 + (b.toNat - 48) := by unfold valL; rw [List.foldl_append]; rfl
theorem valL_dec (v : Nat) : valL (Lib.decDigits v) = v := by
  induction v using Nat.strongRecOn with
  | ind v ih =>
    by_cases h : v < 10
    · rw [dec_small h]
      show 0 * 10 + ((UInt8.ofNat (48 + v)).toNat - 48) = v
      simp; omega
    · rw [dec_step h, valL_snoc, ih (v / 10) (by omega)]
      have : v % 10 < 10 := Nat.mod_lt _ (by omega)
      simp; omega
theorem dec_inj {u v : Nat} (h : Lib.decDigits u = Lib.decDigits v) : u = v := by
  have := congrArg valL h
  rwa [valL_dec, valL_dec] at this
theorem low_inj (D : Nat) {u v : Nat} (h : low D u = low D v) : u % 10 ^ D = v % 10 ^ D := by
  have hp : 0 < 10 ^ D := Nat.pow_pos (by omega)
  have h1 : Lib.decDigits (10 ^ D + u % 10 ^ D) = Lib.decDigits (10 ^ D + v % 10 ^ D) := by
    rw [dec_one D _ (Nat.mod_lt _ hp), dec_one D _ (Nat.mod_lt _ hp), low_mod, low_mod, h]
  have := dec_inj h1
  omega
theorem ftx_inj {u v D : Nat} (h : ftx u D = ftx v D) : u = v := by
  unfold ftx at h
  by_cases hD : D = 0
  · rw [if_pos hD, if_pos hD] at h; exact dec_inj h
  · rw [if_neg hD, if_neg hD] at h
    obtain ⟨h1, h2⟩ := List.append_inj' h (by simp [low_len])
    have e1 := dec_inj h1
    have e2 := low_inj D (List.cons.inj h2).2
    rw [← Nat.div_add_mod u (10 ^ D), ← Nat.div_add_mod v (10 ^ D), e1, e2]
end Go.Proofs.YtmojcnlddfijjaaDoor.FixMath
