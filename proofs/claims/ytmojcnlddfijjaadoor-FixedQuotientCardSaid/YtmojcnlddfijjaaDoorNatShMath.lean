/-
  Plain mathematics for shifting numbers by less than a limb, and for the places of a long division. No program, no world.
-/
import Derived.Test.YtmojcnlddfijjaaDoorNatDivMath
namespace Go.Proofs.YtmojcnlddfijjaaDoor.NatMath

/-- Behind i rounds of a shift to the left. -/
structure ShlInv (xs D : List Int) (s i : Nat) : Prop where
  eq : val D = val (xs.take i) * 2 ^ s
  zero : ∀ t, i < t → D.getD t 0 = 0
  len : D.length = xs.length + 1
  ok : Ok D
  low : (D.getD i 0).toNat < 2 ^ s

theorem ShlInv.start (xs : List Int) (s : Nat) : ShlInv xs (List.replicate (xs.length + 1) 0) s 0 := by
  have hz : ∀ t, (List.replicate (xs.length + 1) (0 : Int)).getD t 0 = 0 := by
    intro t
    rw [List.getD, List.getElem?_replicate]
    split <;> rfl
  refine ⟨by simp [val, val_zeros], fun t _ => hz t, by simp, Ok.zeros _, ?_⟩
  rw [hz]
  exact Nat.pow_pos (by omega)

theorem shl_bound {X s : Nat} (hX : X ≤ 4294967295) (hs : s < 32) : X * 2 ^ s / 4294967296 < 2 ^ s ∧ X * 2 ^ s < 9223372036854775808 := by
  have h1 : 2 ^ s ≤ 2 ^ 31 := Nat.pow_le_pow_right (by omega) (by omega)
  have h0 : 0 < 2 ^ s := Nat.pow_pos (by omega)
  constructor
  · rw [Nat.div_lt_iff_lt_mul (by omega), Nat.mul_comm]
    exact Nat.mul_lt_mul_of_pos_left (by omega) h0
  · have h2 := Nat.mul_le_mul hX h1
    omega

/-- The low half of a shifted limb, laid over what the limb below has left. -/
theorem shl_or {X Y s : Nat} (hs : s < 32) (hY : Y < 2 ^ s) : Y ||| X * 2 ^ s % 4294967296 = Y + X * 2 ^ s % 4294967296 ∧ Y + X * 2 ^ s % 4294967296 < 4294967296 := by
  obtain ⟨u, hu⟩ : ∃ u, u = 32 - s := ⟨_, rfl⟩
  have hB : (4294967296 : Nat) = 2 ^ s * 2 ^ u := by rw [← Nat.pow_add, show s + u = 32 by omega]
  have e : X * 2 ^ s % 4294967296 = 2 ^ s * (X % 2 ^ u) := by
    rw [hB, Nat.mul_comm X, Nat.mul_mod_mul_left]
  have h1 : X % 2 ^ u < 2 ^ u := Nat.mod_lt _ (Nat.pow_pos (by omega))
  rw [e, Nat.or_comm, ← Nat.two_pow_add_eq_or_of_lt hY]
  refine ⟨Nat.add_comm .., ?_⟩
  rw [hB]
  have h2 := Nat.mul_le_mul_left (2 ^ s) (show X % 2 ^ u + 1 ≤ 2 ^ u by omega)
  rw [Nat.mul_add] at h2
  omega

theorem ShlInv.step {xs D : List Int} {s i : Nat} (h : ShlInv xs D s i) (hs : s < 32) (hi : i < xs.length) (hx : Ok xs) {X Y : Nat} (hX : (X : Int) = xs.getD i 0) (hY : (Y : Int) = D.getD i 0) :
    ShlInv xs ((D.set i ((Y ||| X * 2 ^ s % 4294967296 : Nat) : Int)).set (i + 1) ((X * 2 ^ s / 4294967296 : Nat) : Int)) s (i + 1) := by
  have hx1 := hx.getD i
  rw [← hX] at hx1
  have hlow := h.low
  rw [← hY, Int.toNat_natCast] at hlow
  have hb := shl_bound (show X ≤ 4294967295 by omega) hs
  have ho := shl_or (X := X) hs hlow
  have h31 : 2 ^ s ≤ 2 ^ 31 := Nat.pow_le_pow_right (by omega) (by omega)
  rw [ho.1]
  have hz := h.zero (i + 1) (by omega)
  have s1 := val_set D i ((Y + X * 2 ^ s % 4294967296 : Nat) : Int) (by rw [h.len]; omega)
  have s2 := val_set (D.set i ((Y + X * 2 ^ s % 4294967296 : Nat) : Int)) (i + 1) ((X * 2 ^ s / 4294967296 : Nat) : Int) (by rw [List.length_set, h.len]; omega)
  rw [getD_set_ne (by omega), hz] at s2
  rw [← hY, Int.toNat_natCast, Int.toNat_natCast] at s1
  rw [Int.toNat_natCast] at s2
  have he := h.eq
  refine ⟨?_, fun t ht => ?_, by simpa using h.len, (h.ok.set i (by omega) (by omega)).set (i + 1) (by omega) (by omega), ?_⟩
  · rw [val_take_succ xs i, ← hX, Int.toNat_natCast, Nat.add_mul, ← he]
    have e3 : X * 4294967296 ^ i * 2 ^ s = X * 2 ^ s * 4294967296 ^ i := by rw [Nat.mul_assoc, Nat.mul_comm (4294967296 ^ i), ← Nat.mul_assoc]
    rw [e3]
    have hdm := Nat.div_add_mod (X * 2 ^ s) 4294967296
    rw [Nat.pow_succ] at s2
    generalize X * 2 ^ s % 4294967296 = r at *
    generalize X * 2 ^ s / 4294967296 = q at *
    generalize X * 2 ^ s = W at *
    generalize 4294967296 ^ i = P at *
    have h2 := congrArg (· * P) hdm
    simp only [Nat.add_mul, Nat.zero_mul, Nat.add_zero, Int.toNat_zero] at h2 s1 s2
    have e4 : q * (P * 4294967296) = 4294967296 * q * P := by rw [Nat.mul_comm P, ← Nat.mul_assoc, Nat.mul_comm q]
    rw [e4] at s2
    omega
  · rw [getD_set_ne (by omega), getD_set_ne (by omega)]
    exact h.zero t (by omega)
  · rw [getD_set_self (by rw [List.length_set, h.len]; omega), Int.toNat_natCast]
    exact hb.1
theorem ShlInv.done {xs D : List Int} {s : Nat} (h : ShlInv xs D s xs.length) : val D = val xs * 2 ^ s := by
  have := h.eq
  rwa [List.take_of_length_le (Nat.le_refl _)] at this

/-- Behind the limbs from j on of a shift to the right; ab is the limb at j. -/
structure ShrInv (xs D : List Int) (s ab j : Nat) : Prop where
  eq : val (D.drop j) = val (xs.drop j) / 2 ^ s
  len : D.length = xs.length
  ok : Ok D
  above : ab = val (xs.drop j) % 4294967296

theorem ShrInv.start (xs : List Int) (s : Nat) : ShrInv xs (List.replicate xs.length 0) s 0 xs.length := by
  refine ⟨?_, by simp, Ok.zeros _, ?_⟩
  · rw [List.drop_of_length_le (by simp), List.drop_of_length_le (by simp)]
    simp [val]
  · rw [List.drop_of_length_le (by simp)]
    rfl

theorem shr_limb {x V T U : Nat} (hB : T * U = 4294967296) (hx : x < 4294967296) : (x + 4294967296 * V) / T = (V % 4294967296 * 4294967296 + x) / T % 4294967296 + 4294967296 * (V / T) := by
  have hT : 0 < T := by rcases Nat.eq_zero_or_pos T with h | h; · subst h; omega
                        · exact h
  have hU : 0 < U := by rcases Nat.eq_zero_or_pos U with h | h; · subst h; omega
                        · exact h
  have e1 : (x + 4294967296 * V) / T = x / T + U * V := by
    rw [← hB, Nat.mul_assoc, Nat.add_mul_div_left _ _ hT]
  have e2 : (V % 4294967296 * 4294967296 + x) / T = x / T + U * (V % 4294967296) := by
    have : V % 4294967296 * 4294967296 = T * (U * (V % 4294967296)) := by rw [← Nat.mul_assoc, hB, Nat.mul_comm]
    rw [this, Nat.add_comm, Nat.add_mul_div_left _ _ hT]
  have hxU : x / T < U := Nat.div_lt_of_lt_mul (by rw [hB]; exact hx)
  have hr : V % 4294967296 % T = V % T := Nat.mod_mod_of_dvd V ⟨U, hB.symm⟩
  have hrT := Nat.mod_lt V hT
  have d1 := Nat.div_add_mod (V % 4294967296) T
  have d2 := Nat.div_add_mod V T
  rw [hr] at d1
  have e3 : U * (V % 4294967296) = 4294967296 * (V % 4294967296 / T) + U * (V % T) := by
    rw [← hB]
    calc U * (V % (T * U)) = U * (T * (V % (T * U) / T) + V % T) := by rw [hB, d1]
      _ = _ := by rw [Nat.mul_add, ← Nat.mul_assoc, Nat.mul_comm U T]
  have e4 : U * V = 4294967296 * (V / T) + U * (V % T) := by
    calc U * V = U * (T * (V / T) + V % T) := by rw [d2]
      _ = _ := by rw [Nat.mul_add, ← Nat.mul_assoc, Nat.mul_comm U T, hB]
  have hlt : x / T + U * (V % T) < 4294967296 := by
    have := Nat.mul_le_mul_left U (show V % T + 1 ≤ T by omega)
    rw [Nat.mul_add, Nat.mul_comm U T, hB] at this
    omega
  rw [e1, e2, e3, e4]
  clear e1 e2 e3 e4 d1 d2 hr hxU hrT
  generalize U * (V % T) = g at *
  generalize x / T = a at *
  generalize V / T = b
  generalize V % 4294967296 / T = c
  omega

theorem ShrInv.step {xs D : List Int} {s ab i : Nat} (h : ShrInv xs D s ab (i + 1)) (hs : s < 32) (hi : i < xs.length) (hx : Ok xs) {X : Nat} (hX : (X : Int) = xs.getD i 0) :
    ShrInv xs (D.set i (((ab * 4294967296 + X) / 2 ^ s % 4294967296 : Nat) : Int)) s X i := by
  have hx1 := hx.getD i
  rw [← hX] at hx1
  have he := h.eq
  have ha := h.above
  refine ⟨?_, by simpa using h.len, h.ok.set i (by omega) (by omega), ?_⟩
  · rw [drop_set_self (by rw [h.len]; exact hi), drop_getD (D := xs) hi, val, val, he, ha, ← hX, Int.toNat_natCast, Int.toNat_natCast]
    refine (shr_limb (U := 2 ^ (32 - s)) ?_ (by omega)).symm
    rw [← Nat.pow_add, show s + (32 - s) = 32 by omega]
  · rw [drop_getD (D := xs) hi, val, ← hX, Int.toNat_natCast]
    omega
theorem ShrInv.done {xs D : List Int} {s ab : Nat} (h : ShrInv xs D s ab 0) : val D = val xs / 2 ^ s := by simpa using h.eq

/-- The top limb of a number of m + 1 limbs, shifted until its top bit is set. -/
theorem top_shift {V m t s : Nat} (hl : (limbs V).length = m + 1) (ht : (t : Int) = (limbs V).getD m 0) (h0 : 2147483648 ≤ t * 2 ^ s) (h1 : t * 2 ^ s < 4294967296) (h2 : (t + 1) * 2 ^ s ≤ 4294967296) :
    2147483648 * 4294967296 ^ m ≤ V * 2 ^ s ∧ V * 2 ^ s < 4294967296 ^ (m + 1) := by
  have hv := val_take_succ (limbs V) m
  rw [List.take_of_length_le (by omega), val_limbs, ← ht, Int.toNat_natCast] at hv
  have hlow := val_lt ((limbs_ok V).take m)
  rw [List.length_take, hl, Nat.min_eq_left (by omega)] at hlow
  rw [Nat.pow_succ]
  generalize 4294967296 ^ m = P at *
  generalize val ((limbs V).take m) = low at *
  generalize 2 ^ s = T at *
  subst hv
  constructor
  · have a1 := Nat.mul_le_mul_right P h0
    have e : (low + t * P) * T = low * T + t * T * P := by rw [Nat.add_mul, Nat.mul_assoc, Nat.mul_comm P, ← Nat.mul_assoc]
    rw [e]
    omega
  · have hT : 0 < T := by rcases Nat.eq_zero_or_pos T with h | h; · subst h; omega
                          · exact h
    have a1 := Nat.mul_le_mul_right P h2
    have a2 := Nat.mul_lt_mul_of_pos_right (show low + t * P < (t + 1) * P by rw [Nat.add_mul]; omega) hT
    have e : (t + 1) * P * T = (t + 1) * T * P := by rw [Nat.mul_assoc, Nat.mul_comm P, ← Nat.mul_assoc]
    rw [e] at a2
    omega

theorem bitLen_shift {t : Nat} {k : Nat} (hk : 2 ^ k ≤ t) (hk2 : t < 2 ^ (k + 1)) (hk3 : k < 32) : 2147483648 ≤ t * 2 ^ (31 - k) ∧ t * 2 ^ (31 - k) < 4294967296 ∧ (t + 1) * 2 ^ (31 - k) ≤ 4294967296 := by
  have e1 : 2 ^ k * 2 ^ (31 - k) = 2147483648 := by rw [← Nat.pow_add, show k + (31 - k) = 31 by omega]
  have e2 : 2 ^ (k + 1) * 2 ^ (31 - k) = 4294967296 := by rw [← Nat.pow_add, show k + 1 + (31 - k) = 32 by omega]
  have h1 := Nat.mul_le_mul_right (2 ^ (31 - k)) hk
  have h2 := Nat.mul_le_mul_right (2 ^ (31 - k)) (show t + 1 ≤ 2 ^ (k + 1) by omega)
  rw [e1] at h1
  rw [e2] at h2
  have hp : 0 < 2 ^ (31 - k) := Nat.pow_pos (by omega)
  refine ⟨h1, ?_, h2⟩
  rw [Nat.add_mul] at h2
  omega

/-- The first m limbs hold a number that is below the base to the power of m. -/
theorem val_take_lt {D : List Int} {m : Nat} (hm : m ≤ D.length) (hv : val D < 4294967296 ^ m) : val (D.take m) = val D ∧ val (D.drop m) = 0 := by
  have hs := val_drop_split D m
  rw [List.length_take, Nat.min_eq_left hm] at hs
  rcases Nat.eq_zero_or_pos (val (D.drop m)) with h0 | h0
  · rw [h0] at hs; exact ⟨by omega, h0⟩
  · have := Nat.le_mul_of_pos_right (4294967296 ^ m) h0
    omega

/-- Three limbs over the rest. -/
theorem val_top3 {S : List Int} {k : Nat} (hS : S.length = k + 3) {r0 r1 r2 : Nat} (h0 : (r0 : Int) = S.getD k 0) (h1 : (r1 : Int) = S.getD (k + 1) 0) (h2 : (r2 : Int) = S.getD (k + 2) 0) :
    val S = ((r2 * 4294967296 + r1) * 4294967296 + r0) * 4294967296 ^ k + val (S.take k) := by
  have a := val_take_succ S (k + 2)
  have b := val_take_succ S (k + 1)
  have c := val_take_succ S k
  rw [List.take_of_length_le (by omega), ← h2, Int.toNat_natCast, Nat.pow_succ, Nat.pow_succ] at a
  rw [← h1, Int.toNat_natCast, Nat.pow_succ] at b
  rw [← h0, Int.toNat_natCast] at c
  rw [a, b, c]
  generalize 4294967296 ^ k = P
  have e1 : r2 * (P * 4294967296 * 4294967296) = r2 * 4294967296 * 4294967296 * P := by
    rw [Nat.mul_comm P, Nat.mul_assoc 4294967296 P, Nat.mul_comm P, ← Nat.mul_assoc, ← Nat.mul_assoc]
  have e2 : r1 * (P * 4294967296) = r1 * 4294967296 * P := by rw [Nat.mul_comm P, ← Nat.mul_assoc]
  rw [e1, e2, Nat.add_mul, Nat.add_mul, Nat.add_mul]
  omega
theorem val_top2 {M : List Int} {k : Nat} (hM : M.length = k + 2) {v0 v1 : Nat} (h0 : (v0 : Int) = M.getD k 0) (h1 : (v1 : Int) = M.getD (k + 1) 0) :
    val M = (v1 * 4294967296 + v0) * 4294967296 ^ k + val (M.take k) := by
  have b := val_take_succ M (k + 1)
  have c := val_take_succ M k
  rw [List.take_of_length_le (by omega), ← h1, Int.toNat_natCast, Nat.pow_succ] at b
  rw [← h0, Int.toNat_natCast] at c
  rw [b, c]
  generalize 4294967296 ^ k = P
  have e2 : v1 * (P * 4294967296) = v1 * 4294967296 * P := by rw [Nat.mul_comm P, ← Nat.mul_assoc]
  rw [e2, Nat.add_mul]
  omega
theorem top_ge {M : List Int} {k : Nat} (hok : Ok M) (hM : M.length = k + 1) {v : Nat} (h1 : (v : Int) = M.getD k 0) (hv : 2147483648 * 4294967296 ^ k ≤ val M) : 2147483648 ≤ v := by
  have b := val_take_succ M k
  rw [List.take_of_length_le (by omega), ← h1, Int.toNat_natCast] at b
  have hlow := val_lt (hok.take k)
  rw [List.length_take, hM, Nat.min_eq_left (by omega)] at hlow
  rw [b] at hv
  rcases Nat.lt_or_ge v 2147483648 with h | h
  · have := Nat.mul_le_mul_right (4294967296 ^ k) (show v + 1 ≤ 2147483648 by omega)
    rw [Nat.add_mul] at this
    omega
  · exact h

/-- A digit's estimate out of the limbs at the top. -/
theorem digit_est {S M : List Int} {k : Nat} (hSok : Ok S) (hMok : Ok M) (hS : S.length = k + 3) (hM : M.length = k + 2) {r0 r1 r2 v0 v1 : Nat} (h0 : (r0 : Int) = S.getD k 0) (h1 : (r1 : Int) = S.getD (k + 1) 0) (h2 : (r2 : Int) = S.getD (k + 2) 0)
    (g0 : (v0 : Int) = M.getD k 0) (g1 : (v1 : Int) = M.getD (k + 1) 0) (hv : 2147483648 ≤ v1) (hlt : val S < 4294967296 * val M) :
    r2 ≤ v1 ∧ val S / val M ≤ qhat ((r2 * 4294967296 + r1) * 4294967296 + r0) (v1 * 4294967296 + v0) ∧ qhat ((r2 * 4294967296 + r1) * 4294967296 + r0) (v1 * 4294967296 + v0) ≤ val S / val M + 1 := by
  have eS := val_top3 hS h0 h1 h2
  have eM := val_top2 hM g0 g1
  have lS := val_lt (hSok.take k)
  have lM := val_lt (hMok.take k)
  have b0 := hMok.getD k
  have b1 := hSok.getD (k + 1)
  rw [← g0] at b0
  rw [← h1] at b1
  rw [List.length_take, Nat.min_eq_left (by omega)] at lS lM
  rw [eS, eM] at hlt ⊢
  refine ⟨?_, qhat_digit lS lM (by omega) hlt⟩
  rcases Nat.lt_or_ge v1 r2 with h | h
  · exfalso
    generalize 4294967296 ^ k = P at *
    generalize val (S.take k) = sl at *
    generalize val (M.take k) = ml at *
    have a1 := Nat.mul_le_mul_right P (show ((v1 + 1) * 4294967296) * 4294967296 ≤ (r2 * 4294967296 + r1) * 4294967296 + r0 by omega)
    have a2 := Nat.mul_le_mul_right P (show v1 * 4294967296 + v0 + 1 ≤ (v1 + 1) * 4294967296 by omega)
    have e1 : (v1 + 1) * 4294967296 * 4294967296 * P = 4294967296 * ((v1 + 1) * 4294967296 * P) := by
      rw [Nat.mul_comm ((v1 + 1) * 4294967296) 4294967296, Nat.mul_assoc 4294967296]
    rw [Nat.add_mul (v1 * 4294967296 + v0), Nat.one_mul] at a2
    rw [e1] at a1
    omega
  · exact h

/-- Behind the shifts the rest above the first place is below the divisor. -/
theorem long_start {A V' s n m : Nat} {D : List Int} (hok : Ok D) (hD : D.length = n + 1) (hv : val D = A * 2 ^ s) (hA : A < 4294967296 ^ n) (hs : s < 32) (hmn : m ≤ n) (hm : 0 < m) (hV : 2147483648 * 4294967296 ^ (m - 1) ≤ V') (Q : List Int) (hQ : Q.length = n + 1 - m) (okQ : Ok Q) :
    LongInv (A * 2 ^ s) V' D Q (n + 1 - m) := by
  refine ⟨?_, ?_, hok, okQ⟩
  · rw [List.drop_of_length_le (by omega)]
    simp [val, hv]
  · have hs1 := val_drop_split D (n + 1 - m)
    rw [List.length_take, hD, Nat.min_eq_left (by omega), hv] at hs1
    have h31 : 2 ^ s ≤ 2 ^ 31 := Nat.pow_le_pow_right (by omega) (by omega)
    have h1 : A * 2 ^ s < 4294967296 ^ n * 2147483648 := by
      refine Nat.lt_of_lt_of_le (Nat.mul_lt_mul_of_pos_right hA (Nat.pow_pos (by omega))) (Nat.mul_le_mul_left _ h31)
    have e : 4294967296 ^ n = 4294967296 ^ (n + 1 - m) * 4294967296 ^ (m - 1) := by rw [← Nat.pow_add]; congr 1; omega
    rw [e, Nat.mul_assoc] at h1
    rcases Nat.lt_or_ge (val (D.drop (n + 1 - m))) V' with h | h
    · exact h
    · have h2 : 4294967296 ^ (m - 1) * 2147483648 ≤ val (D.drop (n + 1 - m)) := by rw [Nat.mul_comm]; exact Nat.le_trans hV h
      have h3 := Nat.mul_le_mul_left (4294967296 ^ (n + 1 - m)) h2
      omega
end Go.Proofs.YtmojcnlddfijjaaDoor.NatMath
