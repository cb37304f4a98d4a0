/-
  Plain mathematics for Add and Mul. No program, no world.
-/
import Derived.Test.YtmojcnlddfijjaaDoorNatMath
namespace Go.Proofs.YtmojcnlddfijjaaDoor.NatMath

/-- Behind i rounds of an addition: what has been added, and the carry. -/
structure AddInv (L M D : List Int) (c : Int) (i : Nat) : Prop where
  eq : val D + c.toNat * 4294967296 ^ i = val L + val (M.take i)
  len : D.length = L.length + 1
  ok : Ok D
  c0 : 0 ≤ c
  c1 : c ≤ 1

theorem AddInv.start {L : List Int} (M : List Int) (h : Ok L) : AddInv L M (L ++ [0]) 0 0 := ⟨by simp [val, val_append], by simp, h.append (Ok.cons (by omega) (by omega) Ok.nil), by omega, by omega⟩

theorem AddInv.step {L M D : List Int} {c : Int} {i : Nat} (h : AddInv L M D c i) (hM : Ok M) (hi : i < L.length + 1) {x y : Int} (hx : x = D.getD i 0) (hy : y = M.getD i 0) :
    AddInv L M (D.set i ((x + y + c) % 4294967296)) ((x + y + c) / 4294967296) (i + 1) := by
  have hx1 := h.ok.getD i
  have hy1 := hM.getD i
  have c0 := h.c0
  have c1 := h.c1
  rw [← hx] at hx1
  rw [← hy] at hy1
  have hs := val_set D i ((x + y + c) % 4294967296) (by rw [h.len]; exact hi)
  have ht := val_take_succ M i
  have he := h.eq
  rw [← hx] at hs
  rw [← hy] at ht
  have hk : ((x + y + c) % 4294967296).toNat + ((x + y + c) / 4294967296).toNat * 4294967296 = x.toNat + y.toNat + c.toNat := by omega
  refine ⟨?_, by simpa using h.len, h.ok.set i (by omega) (by omega), by omega, by omega⟩
  rw [ht, Nat.pow_succ]
  generalize 4294967296 ^ i = P at hs he ⊢
  generalize ((x + y + c) / 4294967296).toNat = b at hk ⊢
  have hk2 := congrArg (· * P) hk
  simp only [Nat.add_mul] at hk2
  have e : b * (P * 4294967296) = b * 4294967296 * P := by rw [Nat.mul_comm P, Nat.mul_assoc]
  rw [e]
  omega

theorem AddInv.more {L M D : List Int} {c : Int} {i : Nat} (h : AddInv L M D c i) (hL : Ok L) (hM : Ok M) (hlen : M.length ≤ L.length) (hi : i ≤ L.length + 1) (hc : c ≠ 0) : i < L.length + 1 := by
  have he := h.eq
  have c0 := h.c0
  have c1 := h.c1
  rcases Nat.lt_or_ge i (L.length + 1) with h1 | h1
  · exact h1
  · have : i = L.length + 1 := by omega
    subst this
    have hl := val_lt hL
    have hm := val_lt hM
    have hp : 4294967296 ^ M.length ≤ 4294967296 ^ L.length := Nat.pow_le_pow_right (by omega) hlen
    rw [List.take_of_length_le (by omega), Nat.pow_succ] at he
    have : c.toNat = 1 := by omega
    rw [this] at he
    omega

theorem AddInv.done {L M D : List Int} {i : Nat} (h : AddInv L M D 0 i) (hM : M.length ≤ i) : val D = val L + val M := by
  have he := h.eq
  rw [List.take_of_length_le hM] at he
  simpa using he

/-- Between the rounds of a multiplication. -/
structure OutInv (L M D : List Int) (i : Nat) : Prop where
  eq : val D = val (L.take i) * val M
  zero : ∀ t, i + M.length ≤ t → D.getD t 0 = 0
  len : D.length = L.length + M.length
  ok : Ok D
/-- Within round i, behind j of its rounds; x is limb i. -/
structure InInv (L M D : List Int) (x : Nat) (i cy j : Nat) : Prop where
  eq : val D + cy * 4294967296 ^ (i + j) = val (L.take i) * val M + x * val (M.take j) * 4294967296 ^ i
  zero : ∀ t, i + M.length ≤ t → D.getD t 0 = 0
  len : D.length = L.length + M.length
  ok : Ok D
  cy1 : cy ≤ 4294967295

theorem Ok.zeros (n : Nat) : Ok (List.replicate n 0) := by
  intro y hy
  have := List.eq_of_mem_replicate hy
  omega
theorem OutInv.start (L M : List Int) : OutInv L M (List.replicate (L.length + M.length) 0) 0 := by
  refine ⟨by simp [val, val_zeros], fun t _ => ?_, by simp, Ok.zeros _⟩
  rw [List.getD, List.getElem?_replicate]
  split <;> rfl
theorem InInv.start {L M D : List Int} {i : Nat} (h : OutInv L M D i) (x : Nat) : InInv L M D x i 0 0 := ⟨by rw [h.eq]; simp [val], h.zero, h.len, h.ok, by omega⟩

theorem mul3_bound {X Y p cy : Nat} (hX : X ≤ 4294967295) (hY : Y ≤ 4294967295) (hp : p ≤ 4294967295) (hc : cy ≤ 4294967295) : X * Y ≤ 18446744065119617025 ∧ (X * Y + p + cy) / 4294967296 ≤ 4294967295 := by
  have h1 := Nat.mul_le_mul hX hY
  constructor <;> omega

theorem InInv.step {L M D : List Int} {x i cy j : Nat} (h : InInv L M D x i cy j) (hi : i < L.length) (hj : j < M.length) (hx : x ≤ 4294967295) (hM : Ok M) {p y : Nat} (hp : (p : Int) = D.getD (i + j) 0) (hy : (y : Int) = M.getD j 0) :
    InInv L M (D.set (i + j) (((x * y + p + cy) % 4294967296 : Nat) : Int)) x i ((x * y + p + cy) / 4294967296) (j + 1) := by
  have hp1 := h.ok.getD (i + j)
  have hy1 := hM.getD j
  rw [← hp] at hp1
  rw [← hy] at hy1
  have hb := mul3_bound hx (show y ≤ 4294967295 by omega) (show p ≤ 4294967295 by omega) h.cy1
  refine ⟨?_, fun t ht => ?_, by simpa using h.len, h.ok.set _ (by omega) (by omega), hb.2⟩
  · have hs := val_set D (i + j) (((x * y + p + cy) % 4294967296 : Nat) : Int) (by rw [h.len]; omega)
    have ht := val_take_succ M j
    have he := h.eq
    rw [← hp, Int.toNat_natCast, Int.toNat_natCast] at hs
    rw [← hy, Int.toNat_natCast] at ht
    rw [ht, show i + (j + 1) = i + j + 1 by omega, Nat.pow_succ]
    rw [Nat.pow_add] at hs he ⊢
    generalize 4294967296 ^ i = P at *
    generalize 4294967296 ^ j = R at *
    have hdm := Nat.div_add_mod (x * y + p + cy) 4294967296
    generalize (x * y + p + cy) / 4294967296 = q at hdm ⊢
    generalize (x * y + p + cy) % 4294967296 = r at hdm hs ⊢
    generalize val (L.take i) * val M = A at he ⊢
    generalize val (M.take j) = V at he ⊢
    generalize D.set (i + j) (r : Int) = D' at *
    have h2 := congrArg (· * (P * R)) hdm
    simp only [Nat.add_mul] at h2
    have e1 : q * (P * R * 4294967296) = 4294967296 * q * (P * R) := by
      rw [← Nat.mul_assoc, Nat.mul_comm (q * (P * R)) 4294967296, Nat.mul_assoc]
    have e2 : x * (V + y * R) * P = x * V * P + x * y * (P * R) := by
      rw [Nat.mul_add, Nat.add_mul]
      congr 1
      rw [← Nat.mul_assoc x y R, Nat.mul_assoc (x * y) R P, Nat.mul_comm R P]
    rw [e1, e2]
    omega
  · rw [getD_set_ne (by omega)]
    exact h.zero t ht

theorem InInv.done {L M D : List Int} {x i cy : Nat} (h : InInv L M D x i cy M.length) (hi : i < L.length) (hx : (x : Int) = L.getD i 0) : OutInv L M (D.set (i + M.length) (cy : Int)) (i + 1) := by
  have hc := h.cy1
  have hz := h.zero (i + M.length) (Nat.le_refl _)
  have hs := val_set D (i + M.length) (cy : Int) (by rw [h.len]; omega)
  have he := h.eq
  rw [hz, Int.toNat_natCast] at hs
  rw [List.take_of_length_le (Nat.le_refl _)] at he
  refine ⟨?_, fun t ht => ?_, by simpa using h.len, h.ok.set _ (by omega) (by omega)⟩
  · rw [val_take_succ L i, ← hx, Int.toNat_natCast, Nat.add_mul]
    have e : x * 4294967296 ^ i * val M = x * val M * 4294967296 ^ i := by rw [Nat.mul_assoc, Nat.mul_comm (4294967296 ^ i), ← Nat.mul_assoc]
    rw [e]
    simp at hs
    omega
  · rw [getD_set_ne (by omega)]
    exact h.zero t (by omega)
theorem OutInv.done {L M D : List Int} (h : OutInv L M D L.length) : val D = val L * val M := by
  have := h.eq
  rwa [List.take_of_length_le (Nat.le_refl _)] at this
end Go.Proofs.YtmojcnlddfijjaaDoor.NatMath
