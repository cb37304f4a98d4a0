/-
  Plain mathematics for division by several limbs: the estimate of a digit, a step, and the whole. No program, no world.
-/
import Derived.Test.YtmojcnlddfijjaaDoorNatMath2
namespace Go.Proofs.YtmojcnlddfijjaaDoor.NatMath

/-- Behind j rounds of a subtraction of f times M: what has been subtracted, the carry and the borrow. -/
structure SmInv (M S D : List Int) (f cy : Nat) (b : Int) (j : Nat) : Prop where
  eq : val D + val (M.take j) * f = val S + (cy + b.toNat) * 4294967296 ^ j
  len : D.length = S.length
  ok : Ok D
  cy1 : cy ≤ 4294967295
  b0 : 0 ≤ b
  b1 : b ≤ 1

theorem SmInv.start (M : List Int) {S : List Int} (h : Ok S) (f : Nat) : SmInv M S S f 0 0 0 := ⟨by simp [val], rfl, h, by omega, by omega, by omega⟩

theorem sm_bound {f y cy : Nat} (hf : f ≤ 4294967295) (hy : y ≤ 4294967295) (hc : cy ≤ 4294967295) : f * y ≤ 18446744065119617025 ∧ (cy + f * y) / 4294967296 ≤ 4294967295 := by
  have h1 := Nat.mul_le_mul hf hy
  constructor <;> omega

theorem SmInv.step {M S D : List Int} {f cy j : Nat} {b : Int} (h : SmInv M S D f cy b j) (hj : j < S.length) {x : Int} {y : Nat} (hx : x = D.getD j 0) (hy : (y : Int) = M.getD j 0) (hy1 : y ≤ 4294967295) (hf : f ≤ 4294967295)
    {b' : Int} (hb : b' = if x < (((cy + f * y) % 4294967296 : Nat) : Int) + b then 1 else 0) :
    SmInv M S (D.set j ((x - (((cy + f * y) % 4294967296 : Nat) : Int) - b) % 4294967296)) f ((cy + f * y) / 4294967296) b' (j + 1) := by
  have hx1 := h.ok.getD j
  rw [← hx] at hx1
  have b0 := h.b0
  have b1 := h.b1
  have hbd := sm_bound hf hy1 h.cy1
  have hs := val_set D j ((x - (((cy + f * y) % 4294967296 : Nat) : Int) - b) % 4294967296) (by rw [h.len]; exact hj)
  have ht := val_take_succ M j
  have he := h.eq
  rw [← hx] at hs
  rw [← hy, Int.toNat_natCast] at ht
  have hdm := Nat.div_add_mod (cy + f * y) 4294967296
  have hml := Nat.mod_lt (cy + f * y) (show 0 < 4294967296 by omega)
  generalize (cy + f * y) / 4294967296 = q at *
  generalize (cy + f * y) % 4294967296 = r at *
  have hb01 : 0 ≤ b' ∧ b' ≤ 1 := by rw [hb]; split <;> omega
  have hk : ((x - (r : Int) - b) % 4294967296).toNat + r + b.toNat = x.toNat + b'.toNat * 4294967296 := by
    rw [hb]; split <;> omega
  refine ⟨?_, by simpa using h.len, h.ok.set j (by omega) (by omega), hbd.2, hb01.1, hb01.2⟩
  rw [ht, Nat.pow_succ]
  generalize 4294967296 ^ j = P at hs he ⊢
  generalize ((x - (r : Int) - b) % 4294967296).toNat = z at hs hk
  generalize D.set j ((x - (r : Int) - b) % 4294967296) = D' at hs ⊢
  have hk2 := congrArg (· * P) hk
  have hd2 := congrArg (· * P) hdm
  simp only [Nat.add_mul] at hk2 hd2 he ⊢
  have e1 : q * (P * 4294967296) = 4294967296 * q * P := by rw [Nat.mul_comm P, ← Nat.mul_assoc, Nat.mul_comm q]
  have e2 : b'.toNat * (P * 4294967296) = b'.toNat * 4294967296 * P := by rw [Nat.mul_comm P, Nat.mul_assoc]
  have e3 : y * P * f = f * y * P := by rw [Nat.mul_comm (y * P), ← Nat.mul_assoc]
  rw [e1, e2, e3]
  omega

/-- The last limb of a subtraction. -/
theorem SmInv.last {M S D : List Int} {f cy m : Nat} {b : Int} (h : SmInv M S D f cy b m) (hM : M.length = m) (hS : S.length = m + 1) {x : Int} (hx : x = D.getD m 0) {b' : Int} (hb : b' = if x < (cy : Int) + b then 1 else 0) :
    val (D.set m ((x - (cy : Int) - b) % 4294967296)) + val M * f = val S + b'.toNat * 4294967296 ^ (m + 1) ∧ Ok (D.set m ((x - (cy : Int) - b) % 4294967296)) ∧ 0 ≤ b' ∧ b' ≤ 1 := by
  have hx1 := h.ok.getD m
  rw [← hx] at hx1
  have b0 := h.b0
  have b1 := h.b1
  have c1 := h.cy1
  have hs := val_set D m ((x - (cy : Int) - b) % 4294967296) (by rw [h.len]; omega)
  have he := h.eq
  rw [← hx] at hs
  rw [List.take_of_length_le (by omega)] at he
  have hb01 : 0 ≤ b' ∧ b' ≤ 1 := by rw [hb]; split <;> omega
  have hk : ((x - (cy : Int) - b) % 4294967296).toNat + cy + b.toNat = x.toNat + b'.toNat * 4294967296 := by
    rw [hb]; split <;> omega
  refine ⟨?_, h.ok.set m (by omega) (by omega), hb01.1, hb01.2⟩
  rw [Nat.pow_succ]
  generalize 4294967296 ^ m = P at hs he ⊢
  generalize ((x - (cy : Int) - b) % 4294967296).toNat = z at hs hk
  generalize D.set m ((x - (cy : Int) - b) % 4294967296) = D' at hs ⊢
  have hk2 := congrArg (· * P) hk
  simp only [Nat.add_mul] at hk2 he ⊢
  have e2 : b'.toNat * (P * 4294967296) = b'.toNat * 4294967296 * P := by rw [Nat.mul_comm P, Nat.mul_assoc]
  rw [e2]
  omega

/-- Behind j rounds of adding M back. -/
structure AbInv (M S D : List Int) (c : Int) (j : Nat) : Prop where
  eq : val D + c.toNat * 4294967296 ^ j = val S + val (M.take j)
  len : D.length = S.length
  ok : Ok D
  c0 : 0 ≤ c
  c1 : c ≤ 1
theorem AbInv.start (M : List Int) {S : List Int} (h : Ok S) : AbInv M S S 0 0 := ⟨by simp [val], rfl, h, by omega, by omega⟩
theorem AbInv.step {M S D : List Int} {c : Int} {j : Nat} (h : AbInv M S D c j) (hM : Ok M) (hj : j < S.length) {x y : Int} (hx : x = D.getD j 0) (hy : y = M.getD j 0) :
    AbInv M S (D.set j ((x + y + c) % 4294967296)) ((x + y + c) / 4294967296) (j + 1) := by
  have hx1 := h.ok.getD j
  have hy1 := hM.getD j
  have c0 := h.c0
  have c1 := h.c1
  rw [← hx] at hx1
  rw [← hy] at hy1
  have hs := val_set D j ((x + y + c) % 4294967296) (by rw [h.len]; exact hj)
  have ht := val_take_succ M j
  have he := h.eq
  rw [← hx] at hs
  rw [← hy] at ht
  have hk : ((x + y + c) % 4294967296).toNat + ((x + y + c) / 4294967296).toNat * 4294967296 = x.toNat + y.toNat + c.toNat := by omega
  refine ⟨?_, by simpa using h.len, h.ok.set j (by omega) (by omega), by omega, by omega⟩
  rw [ht, Nat.pow_succ]
  generalize 4294967296 ^ j = P at hs he ⊢
  generalize ((x + y + c) / 4294967296).toNat = b at hk ⊢
  have hk2 := congrArg (· * P) hk
  simp only [Nat.add_mul] at hk2
  have e : b * (P * 4294967296) = b * 4294967296 * P := by rw [Nat.mul_comm P, Nat.mul_assoc]
  rw [e]
  omega
theorem AbInv.last {M S D : List Int} {c : Int} {m : Nat} (h : AbInv M S D c m) (hM : M.length = m) (hS : S.length = m + 1) {x : Int} (hx : x = D.getD m 0) :
    ∃ k : Nat, val (D.set m ((x + c) % 4294967296)) + k * 4294967296 ^ (m + 1) = val S + val M ∧ Ok (D.set m ((x + c) % 4294967296)) := by
  have hx1 := h.ok.getD m
  rw [← hx] at hx1
  have c0 := h.c0
  have c1 := h.c1
  have hs := val_set D m ((x + c) % 4294967296) (by rw [h.len]; omega)
  have he := h.eq
  rw [← hx] at hs
  rw [List.take_of_length_le (by omega)] at he
  have hk : ((x + c) % 4294967296).toNat + ((x + c) / 4294967296).toNat * 4294967296 = x.toNat + c.toNat := by omega
  refine ⟨((x + c) / 4294967296).toNat, ?_, h.ok.set m (by omega) (by omega)⟩
  rw [Nat.pow_succ]
  generalize 4294967296 ^ m = P at hs he ⊢
  generalize ((x + c) / 4294967296).toNat = b at hk ⊢
  generalize ((x + c) % 4294967296).toNat = z at hs hk
  generalize D.set m ((x + c) % 4294967296) = D' at hs ⊢
  have hk2 := congrArg (· * P) hk
  simp only [Nat.add_mul] at hk2
  have e : b * (P * 4294967296) = b * 4294967296 * P := by rw [Nat.mul_comm P, Nat.mul_assoc]
  rw [e]
  omega

/-- The digit that three limbs divided by two give, at most the greatest limb. -/
def qhat (rr vv : Nat) : Nat := min (rr / vv) 4294967295

/-- The estimate is the digit or one more. -/
theorem qhat_digit {rr vv P rl vl : Nat} (hrl : rl < P) (hvl : vl < P) (hvv : 4294967296 ≤ vv) (hlt : rr * P + rl < 4294967296 * (vv * P + vl)) :
    (rr * P + rl) / (vv * P + vl) ≤ qhat rr vv ∧ qhat rr vv ≤ (rr * P + rl) / (vv * P + vl) + 1 := by
  have hP : 0 < P := by omega
  have hV : 0 < vv * P + vl := Nat.add_pos_left (Nat.mul_pos (by omega) hP) _
  have hd : (rr * P + rl) / (vv * P + vl) < 4294967296 := by
    rw [Nat.div_lt_iff_lt_mul hV]; exact hlt
  have hdm := Nat.div_add_mod (rr * P + rl) (vv * P + vl)
  have hml := Nat.mod_lt (rr * P + rl) hV
  generalize (rr * P + rl) / (vv * P + vl) = d at *
  generalize (rr * P + rl) % (vv * P + vl) = md at *
  unfold qhat
  constructor
  · refine Nat.le_min.2 ⟨?_, by omega⟩
    rw [Nat.le_div_iff_mul_le (by omega)]
    have h1 : d * vv * P < (rr + 1) * P := by
      rw [Nat.add_mul, Nat.one_mul]
      have : (vv * P + vl) * d = d * vv * P + vl * d := by
        rw [Nat.add_mul, Nat.mul_comm (vv * P) d, ← Nat.mul_assoc]
      omega
    have := Nat.lt_of_mul_lt_mul_right h1
    omega
  · have h1 : qhat rr vv * vv ≤ rr := by
      have : qhat rr vv ≤ rr / vv := Nat.min_le_left ..
      exact Nat.le_trans (Nat.mul_le_mul_right vv this) (Nat.div_mul_le_self rr vv)
    have h2 : qhat rr vv ≤ 4294967295 := Nat.min_le_right ..
    show qhat rr vv ≤ d + 1
    generalize qhat rr vv = q at h1 h2 ⊢
    rcases Nat.lt_or_ge (d + 1) q with h3 | h3
    · exfalso
      have a1 := Nat.mul_le_mul_right P h1
      have a2 : q * vl ≤ 4294967295 * P := Nat.mul_le_mul h2 (by omega)
      have a3 : 4294967296 * P ≤ vv * P := Nat.mul_le_mul_right P hvv
      have a4 : (d + 2) * (vv * P + vl) ≤ q * (vv * P + vl) := Nat.mul_le_mul_right _ (by omega)
      have a5 : q * (vv * P + vl) = q * vv * P + q * vl := by rw [Nat.mul_add, ← Nat.mul_assoc]
      have a6 : (d + 2) * (vv * P + vl) = (vv * P + vl) * d + 2 * (vv * P + vl) := by rw [Nat.add_mul, Nat.mul_comm d]
      omega
    · exact h3

/-- Behind some rounds of the estimate: what has been taken away is right, and no digit was passed. -/
structure EstInv (r0 high v1 v0 : Nat) (digit left : Nat) : Prop where
  eq : digit * v1 + left = high
  ge : qhat (high * 4294967296 + r0) (v1 * 4294967296 + v0) ≤ digit
  left : left ≤ 4294967295

theorem est_more {r0 high v1 v0 digit left : Nat} (he : digit * v1 + left = high) (hv : 0 < v1) : digit * v0 > left * 4294967296 + r0 ↔ (high * 4294967296 + r0) / (v1 * 4294967296 + v0) < digit := by
  rw [Nat.div_lt_iff_lt_mul (by omega), ← he]
  have e : digit * (v1 * 4294967296 + v0) = digit * v1 * 4294967296 + digit * v0 := by rw [Nat.mul_add, ← Nat.mul_assoc]
  rw [e, Nat.add_mul]
  omega

theorem EstInv.start {r0 high v1 v0 : Nat} (hr0 : r0 ≤ 4294967295) (hv : 0 < v1) (hv1 : v1 ≤ 4294967295) : EstInv r0 high v1 v0 (high / v1) (high % v1) := by
  refine ⟨by rw [Nat.mul_comm]; exact Nat.div_add_mod .., ?_, by have := Nat.mod_lt high hv; omega⟩
  refine Nat.le_trans (Nat.min_le_left ..) ?_
  refine Nat.le_trans (Nat.div_le_div_left (c := v1 * 4294967296) (by omega) (by omega)) ?_
  rw [Nat.mul_comm v1, ← Nat.div_div_eq_div_mul, Nat.mul_comm high, Nat.mul_add_div (by omega), Nat.div_eq_of_lt (show r0 < 4294967296 by omega)]
  exact Nat.le_refl _

theorem EstInv.down {r0 high v1 v0 digit left : Nat} (h : EstInv r0 high v1 v0 digit left) (hv : 0 < v1) (hm : 4294967295 < digit ∨ digit * v0 > left * 4294967296 + r0) :
    0 < digit ∧ (digit - 1) * v1 + (left + v1) = high ∧ qhat (high * 4294967296 + r0) (v1 * 4294967296 + v0) ≤ digit - 1 := by
  have hq : qhat (high * 4294967296 + r0) (v1 * 4294967296 + v0) < digit := by
    unfold qhat
    rcases hm with hm | hm
    · exact Nat.lt_of_le_of_lt (Nat.min_le_right ..) hm
    · exact Nat.lt_of_le_of_lt (Nat.min_le_left ..) ((est_more h.eq hv).1 hm)
  refine ⟨by omega, ?_, by omega⟩
  obtain ⟨d, rfl⟩ : ∃ d, digit = d + 1 := ⟨digit - 1, by omega⟩
  have := h.eq
  rw [Nat.add_mul] at this
  simp only [Nat.add_sub_cancel]
  omega
theorem EstInv.next {r0 high v1 v0 digit left : Nat} (h : EstInv r0 high v1 v0 digit left) (hv : 0 < v1) (hm : 4294967295 < digit ∨ digit * v0 > left * 4294967296 + r0) (hl : left + v1 ≤ 4294967295) :
    EstInv r0 high v1 v0 (digit - 1) (left + v1) := by
  have := h.down hv hm
  exact ⟨this.2.1, this.2.2, hl⟩
/-- The loop ends by its test. -/
theorem EstInv.done {r0 high v1 v0 digit left : Nat} (h : EstInv r0 high v1 v0 digit left) (hv : 0 < v1) (hd : digit ≤ 4294967295) (hn : ¬ digit * v0 > left * 4294967296 + r0) :
    digit = qhat (high * 4294967296 + r0) (v1 * 4294967296 + v0) := by
  refine Nat.le_antisymm ?_ h.ge
  refine Nat.le_min.2 ⟨?_, hd⟩
  rcases Nat.lt_or_ge ((high * 4294967296 + r0) / (v1 * 4294967296 + v0)) digit with h1 | h1
  · exact absurd ((est_more h.eq hv).2 h1) hn
  · exact h1
/-- The loop ends by its break. -/
theorem EstInv.break {r0 high v1 v0 digit left : Nat} (h : EstInv r0 high v1 v0 digit left) (hv : 0 < v1) (hv0 : v0 ≤ 4294967295) (hh : high ≤ v1 * 4294967296 + 4294967295) (hm : 4294967295 < digit ∨ digit * v0 > left * 4294967296 + r0) (hl : 4294967295 < left + v1) :
    digit - 1 ≤ 4294967295 ∧ digit - 1 = qhat (high * 4294967296 + r0) (v1 * 4294967296 + v0) := by
  have hd := h.down hv hm
  have h1 : digit - 1 ≤ 4294967295 := by
    rcases Nat.lt_or_ge 4294967295 (digit - 1) with h2 | h2
    · have := Nat.mul_le_mul_right v1 (show 4294967296 ≤ digit - 1 by omega)
      have := Nat.mul_comm v1 4294967296
      omega
    · exact h2
  refine ⟨h1, Nat.le_antisymm (Nat.le_min.2 ⟨?_, h1⟩) hd.2.2⟩
  rcases Nat.lt_or_ge ((high * 4294967296 + r0) / (v1 * 4294967296 + v0)) (digit - 1) with h2 | h2
  · have h3 := (est_more hd.2.1 hv).2 h2
    have := Nat.mul_le_mul h1 hv0
    omega
  · exact h2

/-- A step: an estimate that is the digit or one more, subtracted, and added back if that was one too many. -/
theorem step_low {R V q P : Nat} (hq0 : R / V ≤ q) (hq1 : q ≤ R / V + 1) {z : Nat} {k : Nat} (h : z + V * q = R + k * P) (hz : z < P) (hk : k ≤ 1) (hV : 0 < V) :
    (k = 0 → q = R / V ∧ z = R % V) ∧ (k = 1 → q = R / V + 1 ∧ R + P = z + V * (R / V + 1)) := by
  have hdm := Nat.div_add_mod R V
  have hml := Nat.mod_lt R hV
  generalize R / V = d at *
  generalize R % V = r at *
  rcases Nat.lt_or_ge d q with h1 | h1
  · obtain rfl : q = d + 1 := by omega
    have e : V * (d + 1) = V * d + V := by rw [Nat.mul_add, Nat.mul_one]
    constructor
    · intro hk0; subst hk0; omega
    · intro hk1; subst hk1; refine ⟨rfl, by omega⟩
  · obtain rfl : q = d := by omega
    constructor
    · intro hk0; subst hk0; omega
    · intro hk1; subst hk1; omega
theorem step_back {R V P z z2 k : Nat} (h : R + P = z + V * (R / V + 1)) (h2 : z2 + k * P = z + V) (hz2 : z2 < P) (hVP : V ≤ P) (hV : 0 < V) (hzP : z < P) : z2 = R % V := by
  have hdm := Nat.div_add_mod R V
  have hml := Nat.mod_lt R hV
  generalize R / V = d at *
  generalize R % V = r at *
  have e : V * (d + 1) = V * d + V := by rw [Nat.mul_add, Nat.mul_one]
  have h3 : r + P = z + V := by omega
  have hk : k = 1 := by
    rcases Nat.lt_trichotomy k 1 with h1 | h1 | h1
    · obtain rfl : k = 0 := by omega
      omega
    · exact h1
    · have := Nat.mul_le_mul_right P (show 2 ≤ k by omega)
      omega
  subst hk
  omega

/-- Between the digits of a division of A by V: the rest, and the digits from i on. -/
structure LongInv (A V : Nat) (D Q : List Int) (i : Nat) : Prop where
  eq : val D + val (Q.drop i) * V * 4294967296 ^ i = A
  lt : val (D.drop i) < V
  okD : Ok D
  okQ : Ok Q

theorem val_drop_split (D : List Int) (i : Nat) : val D = val (D.take i) + 4294967296 ^ (D.take i).length * val (D.drop i) := by
  rw [← val_append, List.take_append_drop]

/-- One more digit: P are the limbs below place i, S those from i on. -/
theorem LongInv.step {A V : Nat} {P S S' Q : List Int} {i : Nat} (h : LongInv A V (P ++ S) Q (i + 1)) (hP : P.length = i) (hi : i < Q.length) (hV : 0 < V) (hS' : Ok S') (hv : val S' = val S % V) {d : Nat} (hd : d = val S / V) (hd1 : d ≤ 4294967295) :
    LongInv A V (P ++ S') (Q.set i (d : Int)) i := by
  have he := h.eq
  have okP : Ok P := fun x hx => h.okD x (List.mem_append.2 (Or.inl hx))
  refine ⟨?_, ?_, okP.append hS', h.okQ.set i (by omega) (by omega)⟩
  · rw [drop_set_self hi, val, Int.toNat_natCast]
    rw [val_append, hP, Nat.pow_succ] at he
    rw [val_append, hP, hv]
    have hdm := Nat.div_add_mod (val S) V
    rw [← hd] at hdm
    generalize val (Q.drop (i + 1)) = T at *
    generalize 4294967296 ^ i = R at *
    generalize val S % V = z at *
    generalize val S = s at *
    rw [← he, ← hdm]
    simp only [Nat.add_mul, Nat.mul_add]
    have e1 : 4294967296 * T * V * R = T * V * (R * 4294967296) := by
      rw [Nat.mul_comm R, ← Nat.mul_assoc, Nat.mul_comm (T * V), ← Nat.mul_assoc]
    have e2 : R * (V * d) = d * V * R := by rw [Nat.mul_comm V, Nat.mul_comm]
    rw [e1, e2]
    omega
  · rw [List.drop_left' hP, hv]
    exact Nat.mod_lt _ hV
theorem LongInv.bound {A V : Nat} {P S Q : List Int} {i : Nat} (h : LongInv A V (P ++ S) Q (i + 1)) (hP : P.length = i) : val S < 4294967296 * V := by
  have h1 := h.lt
  have okS : Ok S := fun x hx => h.okD x (List.mem_append.2 (Or.inr hx))
  rw [List.drop_append, List.drop_of_length_le (by omega), List.nil_append, hP, show i + 1 - i = 1 by omega] at h1
  cases S with
  | nil => rw [val]; exact Nat.mul_pos (by omega) (by omega)
  | cons x S =>
    have := okS.head
    rw [List.drop_succ_cons, List.drop_zero] at h1
    rw [val]
    have := Nat.mul_le_mul_left 4294967296 (show val S + 1 ≤ V by omega)
    omega
theorem LongInv.done {A V : Nat} {D Q : List Int} (h : LongInv A V D Q 0) : val Q = A / V ∧ val D = A % V := by
  have he := h.eq
  have hlt := h.lt
  simp only [List.drop_zero, Nat.pow_zero, Nat.mul_one] at he hlt
  rw [← he, Nat.add_comm, Nat.mul_comm]
  constructor
  · rw [Nat.mul_add_div (by omega), Nat.div_eq_of_lt hlt]; omega
  · rw [Nat.mul_add_mod, Nat.mod_eq_of_lt hlt]
end Go.Proofs.YtmojcnlddfijjaaDoor.NatMath
