/-
  Plain mathematics for layer 2: rational numbers as a sign and two natural numbers. No program, no world.
-/
namespace Go.Proofs.YtmojcnlddfijjaaGreatDoor.RatMath

structure R where
  s : Bool
  p : Nat
  q : Nat
deriving DecidableEq

def zero : R := ⟨false, 0, 1⟩
/-- The normal form. -/
def nf (x : R) : R := if x.p = 0 ∨ x.q = 0 then zero else ⟨x.s, x.p / Nat.gcd x.p x.q, x.q / Nat.gcd x.p x.q⟩
/-- 0 in normal form where the denominator is 0. -/
def dv (x : R) : R := if x.q = 0 then zero else x
def ng (x : R) : R := ⟨!x.s, x.p, x.q⟩
def inv (x : R) : R := ⟨x.s, x.q, x.p⟩
def ml (x y : R) : R := ⟨x.s != y.s, x.p * y.p, x.q * y.q⟩
def sm (x y : R) : R :=
  if x.s = y.s then ⟨x.s, x.p * y.q + y.p * x.q, x.q * y.q⟩
  else if y.p * x.q ≤ x.p * y.q then ⟨x.s, x.p * y.q - y.p * x.q, x.q * y.q⟩
  else ⟨y.s, y.p * x.q - x.p * y.q, x.q * y.q⟩
def num (x : R) : Int := if x.s then -(x.p : Int) else (x.p : Int)

theorem dv_q (x : R) : (dv x).q ≠ 0 := by
  unfold dv
  split
  · decide
  · assumption
theorem dv_of {x : R} (h : x.q ≠ 0) : dv x = x := by unfold dv; rw [if_neg h]
theorem nf_zero {x : R} (h : x.p = 0 ∨ x.q = 0) : nf x = zero := by unfold nf; rw [if_pos h]
theorem nf_pos {x : R} (h1 : x.p ≠ 0) (h2 : x.q ≠ 0) : nf x = ⟨x.s, x.p / Nat.gcd x.p x.q, x.q / Nat.gcd x.p x.q⟩ := by
  unfold nf; rw [if_neg (by intro h; rcases h with h | h <;> contradiction)]
theorem gcd_parts {a b : Nat} (h : a ≠ 0) : ∃ u v, a = Nat.gcd a b * u ∧ b = Nat.gcd a b * v ∧ 0 < Nat.gcd a b ∧ Nat.gcd u v = 1 ∧ a / Nat.gcd a b = u ∧ b / Nat.gcd a b = v := by
  have hg : 0 < Nat.gcd a b := Nat.gcd_pos_of_pos_left _ (Nat.pos_of_ne_zero h)
  obtain ⟨u, hu⟩ := Nat.gcd_dvd_left a b
  obtain ⟨v, hv⟩ := Nat.gcd_dvd_right a b
  have e : Nat.gcd a b * Nat.gcd u v = Nat.gcd a b := by
    rw [← Nat.gcd_mul_left, ← hu, ← hv]
  refine ⟨u, v, hu, hv, hg, ?_, ?_, ?_⟩
  · have : Nat.gcd a b * Nat.gcd u v = Nat.gcd a b * 1 := by rw [e, Nat.mul_one]
    exact Nat.eq_of_mul_eq_mul_left hg this
  · exact Nat.div_eq_of_eq_mul_right hg hu
  · exact Nat.div_eq_of_eq_mul_right hg hv

theorem nf_q (x : R) : (nf x).q ≠ 0 := by
  by_cases h : x.p = 0 ∨ x.q = 0
  · rw [nf_zero h]; decide
  · have h1 : x.p ≠ 0 := fun e => h (Or.inl e)
    have h2 : x.q ≠ 0 := fun e => h (Or.inr e)
    rw [nf_pos h1 h2]
    obtain ⟨u, v, hu, hv, hg, _, e1, e2⟩ := gcd_parts (b := x.q) h1
    show x.q / Nat.gcd x.p x.q ≠ 0
    rw [e2]
    intro h0
    rw [h0, Nat.mul_zero] at hv
    exact h2 hv
theorem dv_nf (x : R) : dv (nf x) = nf x := dv_of (nf_q x)

/-- Lowest terms are the same for the same number. -/
theorem lowest {a b c d : Nat} (ha : a ≠ 0) (hc : c ≠ 0) (h : a * d = c * b) : a / Nat.gcd a b = c / Nat.gcd c d ∧ b / Nat.gcd a b = d / Nat.gcd c d := by
  obtain ⟨u, v, hu, hv, hg, hc1, e1, e2⟩ := gcd_parts (b := b) ha
  obtain ⟨x, y, hx, hy, hk, hc2, e3, e4⟩ := gcd_parts (b := d) hc
  rw [e1, e2, e3, e4]
  generalize Nat.gcd a b = g at *
  generalize Nat.gcd c d = k at *
  have h1 : g * k * (u * y) = g * k * (x * v) := by
    rw [hu, hv, hx, hy] at h
    calc g * k * (u * y) = g * u * (k * y) := by ac_rfl
      _ = k * x * (g * v) := h
      _ = g * k * (x * v) := by ac_rfl
  have h2 : u * y = x * v := Nat.eq_of_mul_eq_mul_left (Nat.mul_pos hg hk) h1
  have d1 : u ∣ x := by
    have : u ∣ x * v := ⟨y, h2.symm⟩
    exact Nat.Coprime.dvd_of_dvd_mul_right hc1 this
  have d2 : x ∣ u := by
    have : x ∣ u * y := ⟨v, h2⟩
    exact Nat.Coprime.dvd_of_dvd_mul_right hc2 this
  have e : u = x := Nat.dvd_antisymm d1 d2
  refine ⟨e, ?_⟩
  subst e
  have hu0 : 0 < u := Nat.pos_of_ne_zero (fun h0 => ha (by rw [hu, h0, Nat.mul_zero]))
  exact (Nat.eq_of_mul_eq_mul_left hu0 h2).symm

theorem num_zero {x : R} : num x = 0 ↔ x.p = 0 := by
  unfold num
  split <;> omega
theorem num_abs (x : R) : (num x).natAbs = x.p := by
  unfold num
  split <;> omega
theorem num_neg {x : R} (h : x.p ≠ 0) : x.s = decide (num x < 0) := by
  unfold num
  cases hs : x.s
  · rw [if_neg (by decide)]; rw [decide_eq_false (by omega)]
  · rw [if_pos rfl]; rw [decide_eq_true (by omega)]

/-- Two fractions with the same value have the same normal form. -/
theorem nf_eq {x y : R} (hx : x.q ≠ 0) (hy : y.q ≠ 0) (h : num x * (y.q : Int) = num y * (x.q : Int)) : nf x = nf y := by
  have habs : x.p * y.q = y.p * x.q := by
    have := congrArg Int.natAbs h
    rw [Int.natAbs_mul, Int.natAbs_mul, num_abs, num_abs, Int.natAbs_natCast, Int.natAbs_natCast] at this
    exact this
  by_cases hp : x.p = 0
  · have : y.p = 0 := by
      rw [hp, Nat.zero_mul] at habs
      rcases Nat.mul_eq_zero.1 habs.symm with h0 | h0
      · exact h0
      · exact absurd h0 hx
    rw [nf_zero (Or.inl hp), nf_zero (Or.inl this)]
  · have hyp : y.p ≠ 0 := by
      intro h0
      rw [h0, Nat.zero_mul] at habs
      rcases Nat.mul_eq_zero.1 habs with h1 | h1
      · exact hp h1
      · exact hy h1
    rw [nf_pos hp hx, nf_pos hyp hy]
    have hl := lowest hp hyp habs
    rw [hl.1, hl.2]
    have hs : x.s = y.s := by
      rw [num_neg hp, num_neg hyp]
      congr 1
      apply propext
      have hxq : (0 : Int) < (x.q : Int) := by omega
      have hyq : (0 : Int) < (y.q : Int) := by omega
      constructor
      · intro h1
        have h2 : num y * (x.q : Int) < 0 := by rw [← h]; exact Int.mul_neg_of_neg_of_pos h1 hyq
        rcases (show num y < 0 ∨ 0 ≤ num y by omega) with h3 | h3
        · exact h3
        · have := Int.mul_nonneg h3 (Int.le_of_lt hxq); omega
      · intro h1
        have h2 : num x * (y.q : Int) < 0 := by rw [h]; exact Int.mul_neg_of_neg_of_pos h1 hxq
        rcases (show num x < 0 ∨ 0 ≤ num x by omega) with h3 | h3
        · exact h3
        · have := Int.mul_nonneg h3 (Int.le_of_lt hyq); omega
    rw [hs]

/-- The normal form has the value of the number. -/
theorem nf_val {x : R} (hx : x.q ≠ 0) : num (nf x) * (x.q : Int) = num x * ((nf x).q : Int) := by
  by_cases hp : x.p = 0
  · rw [nf_zero (Or.inl hp), num_zero.2 hp]; simp [num, zero]
  · rw [nf_pos hp hx]
    obtain ⟨u, v, hu, hv, hg, _, e1, e2⟩ := gcd_parts (b := x.q) hp
    have h : x.p / Nat.gcd x.p x.q * x.q = x.p * (x.q / Nat.gcd x.p x.q) := by
      rw [e1, e2]
      generalize Nat.gcd x.p x.q = g at *
      rw [hu, hv]
      ac_rfl
    have hi : ((x.p / Nat.gcd x.p x.q : Nat) : Int) * (x.q : Int) = (x.p : Int) * ((x.q / Nat.gcd x.p x.q : Nat) : Int) := by
      rw [← Int.natCast_mul, ← Int.natCast_mul, h]
    unfold num
    show (if x.s = true then -((x.p / Nat.gcd x.p x.q : Nat) : Int) else ((x.p / Nat.gcd x.p x.q : Nat) : Int)) * (x.q : Int) = _
    cases x.s
    · simpa using hi
    · simp only [if_true]
      rw [Int.neg_mul, Int.neg_mul, hi]
theorem nf_dv (x : R) : nf (dv x) = nf x := by
  by_cases h : x.q = 0
  · unfold dv
    rw [if_pos h, nf_zero (Or.inr h)]
    decide
  · rw [dv_of h]
theorem nf_val' (x : R) : num (nf x) * ((dv x).q : Int) = num (dv x) * ((nf x).q : Int) := by
  rw [← nf_dv x]
  exact nf_val (dv_q x)
theorem nf_nf (x : R) : nf (nf x) = nf x := by
  rw [← nf_dv x]
  exact nf_eq (nf_q _) (dv_q x) (nf_val (dv_q x))

theorem sm_q (x y : R) : (sm x y).q = x.q * y.q := by
  unfold sm
  split
  · rfl
  · split <;> rfl
theorem sm_num (x y : R) : num (sm x y) = num x * (y.q : Int) + num y * (x.q : Int) := by
  obtain ⟨s1, p1, q1⟩ := x
  obtain ⟨s2, p2, q2⟩ := y
  unfold sm num
  have e1 : ((p1 * q2 : Nat) : Int) = (p1 : Int) * (q2 : Int) := by simp
  have e2 : ((p2 * q1 : Nat) : Int) = (p2 : Int) * (q1 : Int) := by simp
  cases s1 <;> cases s2 <;> simp only [if_true, Int.neg_mul, ← e1, ← e2] <;> simp
  · split <;> simp <;> omega
  · split <;> simp <;> omega
  · omega
theorem ml_num (x y : R) : num (ml x y) = num x * num y := by
  obtain ⟨s1, p1, q1⟩ := x
  obtain ⟨s2, p2, q2⟩ := y
  unfold ml num
  cases s1 <;> cases s2 <;> simp [Int.neg_mul, Int.mul_neg]
theorem ng_num (x : R) : num (ng x) = -num x := by
  obtain ⟨s1, p1, q1⟩ := x
  unfold ng num
  cases s1 <;> simp

/-- Sums of numbers, of whatever form. -/
theorem add_nf (x y : R) : nf (sm (dv x) (dv y)) = nf (sm (nf x) (nf y)) := by
  refine nf_eq ?_ ?_ ?_
  · rw [sm_q]; exact Nat.mul_ne_zero (dv_q x) (dv_q y)
  · rw [sm_q]; exact Nat.mul_ne_zero (nf_q x) (nf_q y)
  · rw [sm_num, sm_num, sm_q, sm_q, Int.natCast_mul, Int.natCast_mul]
    have h1 := nf_val' x
    have h2 := nf_val' y
    generalize num (dv x) = a at *
    generalize num (dv y) = b at *
    generalize num (nf x) = c at *
    generalize num (nf y) = d at *
    generalize ((dv x).q : Int) = e at *
    generalize ((dv y).q : Int) = f at *
    generalize ((nf x).q : Int) = g at *
    generalize ((nf y).q : Int) = k at *
    calc (a * f + b * e) * (g * k) = (a * g) * (f * k) + (b * k) * (e * g) := by rw [Int.add_mul]; congr 1 <;> ac_rfl
      _ = (c * e) * (f * k) + (d * f) * (e * g) := by rw [h1, h2]
      _ = (c * k + d * g) * (e * f) := by rw [Int.add_mul]; congr 1 <;> ac_rfl
theorem mul_dv (x y : R) : nf (ml x y) = nf (ml (dv x) (dv y)) := by
  by_cases hx : x.q = 0
  · have e : (dv x).p = 0 := by unfold dv; rw [if_pos hx]; rfl
    rw [nf_zero (Or.inr (by show x.q * y.q = 0; rw [hx, Nat.zero_mul])), nf_zero (Or.inl (by show (dv x).p * (dv y).p = 0; rw [e, Nat.zero_mul]))]
  · by_cases hy : y.q = 0
    · have e : (dv y).p = 0 := by unfold dv; rw [if_pos hy]; rfl
      rw [nf_zero (Or.inr (by show x.q * y.q = 0; rw [hy, Nat.mul_zero])), nf_zero (Or.inl (by show (dv x).p * (dv y).p = 0; rw [e, Nat.mul_zero]))]
    · rw [dv_of hx, dv_of hy]
theorem mul_nf (x y : R) : nf (ml x y) = nf (ml (nf x) (nf y)) := by
  rw [mul_dv]
  refine nf_eq (Nat.mul_ne_zero (dv_q x) (dv_q y)) (Nat.mul_ne_zero (nf_q x) (nf_q y)) ?_
  rw [ml_num, ml_num]
  show num (dv x) * num (dv y) * (((nf x).q * (nf y).q : Nat) : Int) = num (nf x) * num (nf y) * (((dv x).q * (dv y).q : Nat) : Int)
  rw [Int.natCast_mul, Int.natCast_mul]
  have h1 := nf_val' x
  have h2 := nf_val' y
  calc num (dv x) * num (dv y) * (((nf x).q : Int) * ((nf y).q : Int)) = (num (dv x) * ((nf x).q : Int)) * (num (dv y) * ((nf y).q : Int)) := by ac_rfl
    _ = (num (nf x) * ((dv x).q : Int)) * (num (nf y) * ((dv y).q : Int)) := by rw [h1, h2]
    _ = _ := by ac_rfl

theorem nf_p (x : R) : (nf x).p = 0 ↔ (dv x).p = 0 := by
  have h := nf_val' x
  have hq := dv_q x
  have hn := nf_q x
  constructor
  · intro h0
    rw [num_zero.2 h0, Int.zero_mul] at h
    rcases Int.mul_eq_zero.1 h.symm with h1 | h1
    · exact num_zero.1 h1
    · omega
  · intro h0
    rw [num_zero.2 h0, Int.zero_mul] at h
    rcases Int.mul_eq_zero.1 h with h1 | h1
    · exact num_zero.1 h1
    · omega
theorem dv_p_zero (x : R) : (dv x).p = 0 ↔ x.p = 0 ∨ x.q = 0 := by
  unfold dv
  split
  · rename_i h
    exact ⟨fun _ => Or.inr h, fun _ => rfl⟩
  · rename_i h
    exact ⟨fun h0 => Or.inl h0, fun h0 => h0.resolve_right h⟩
theorem inv_num_q {x : R} : (inv x).q = x.p := rfl

/-- The quotient of numbers of whatever form; the divisor is not 0. -/
theorem div_nf (x : R) {y : R} (hp : y.p ≠ 0) (hq : y.q ≠ 0) : nf (ml x (inv y)) = nf (ml (nf x) (inv (nf y))) := by
  have hyn : (nf y).p ≠ 0 := fun h0 => hp (by have := (nf_p y).1 h0; rwa [dv_of hq] at this)
  have e1 : nf (inv y) = nf (inv (nf y)) := by
    refine nf_eq hp hyn ?_
    have h := nf_val hq
    have hs : (nf y).s = y.s := by rw [nf_pos hp hq]
    have habs : (nf y).p * y.q = y.p * (nf y).q := by
      have := congrArg Int.natAbs h
      rw [Int.natAbs_mul, Int.natAbs_mul, num_abs, num_abs, Int.natAbs_natCast, Int.natAbs_natCast] at this
      exact this
    have hi : (y.q : Int) * ((nf y).p : Int) = ((nf y).q : Int) * (y.p : Int) := by
      rw [← Int.natCast_mul, ← Int.natCast_mul, Nat.mul_comm y.q, habs, Nat.mul_comm]
    unfold inv num
    simp only [hs]
    cases y.s
    · simpa using hi
    · simp only [if_true]; rw [Int.neg_mul, Int.neg_mul, hi]
  rw [mul_nf, e1, mul_nf (nf x) (inv (nf y)), nf_nf]

/-- How two numbers compare: by the sum with the opposite. -/
def cmp (x y : R) : Int := if (sm (dv x) (dv (ng y))).p = 0 then 0 else if (sm (dv x) (dv (ng y))).s then -1 else 1
theorem dv_ng_num (y : R) : num (dv (ng y)) = -num (dv y) ∧ (dv (ng y)).q = (dv y).q := by
  unfold dv
  by_cases h : y.q = 0
  · have : (ng y).q = 0 := h
    rw [if_pos h, if_pos this]
    decide
  · have : (ng y).q ≠ 0 := h
    rw [if_neg h, if_neg this]
    exact ⟨ng_num y, rfl⟩
theorem cmp_num (x y : R) : num (sm (dv x) (dv (ng y))) = num (dv x) * ((dv y).q : Int) - num (dv y) * ((dv x).q : Int) := by
  rw [sm_num, (dv_ng_num y).1, (dv_ng_num y).2, Int.neg_mul]
  omega
theorem cmp_zero {x y : R} : cmp x y = 0 ↔ num (dv x) * ((dv y).q : Int) = num (dv y) * ((dv x).q : Int) := by
  have h := cmp_num x y
  unfold cmp
  constructor
  · intro h0
    split at h0
    · rename_i hp
      rw [num_zero.2 hp] at h
      omega
    · split at h0 <;> omega
  · intro h0
    rw [if_pos]
    apply num_zero.1
    omega
theorem cmp_of_nf {x y : R} (h : nf x = nf y) : cmp x y = 0 := by
  rw [cmp_zero]
  have h1 := nf_val' x
  have h2 := nf_val' y
  rw [h] at h1
  have hq : ((nf y).q : Int) ≠ 0 := by have := nf_q y; omega
  apply Int.eq_of_mul_eq_mul_right hq
  generalize num (dv x) = a at *
  generalize num (dv y) = b at *
  generalize num (nf y) = c at *
  generalize ((dv x).q : Int) = e at *
  generalize ((dv y).q : Int) = f at *
  generalize ((nf y).q : Int) = g at *
  calc a * f * g = (a * g) * f := by ac_rfl
    _ = (c * e) * f := by rw [h1]
    _ = (c * f) * e := by ac_rfl
    _ = (b * g) * e := by rw [h2]
    _ = b * e * g := by ac_rfl
theorem cmp_zero_p (x : R) : cmp x zero = 0 ↔ (dv x).p = 0 := by
  rw [cmp_zero]
  have : num (dv zero) = 0 := by decide
  rw [this]
  have : (dv zero).q = 1 := by decide
  rw [this]
  constructor
  · intro h
    exact num_zero.1 (by omega)
  · intro h
    rw [num_zero.2 h]
    omega
/-- Multiplication distributes over addition. -/
theorem field (a b c : R) : nf (ml c (nf (sm (dv a) (dv b)))) = nf (sm (nf (ml a c)) (nf (ml b c))) := by
  have hl : nf (ml c (nf (sm (dv a) (dv b)))) = nf (ml (dv c) (sm (dv a) (dv b))) := by
    rw [mul_nf, nf_nf, ← nf_dv c, ← mul_nf]
  have hr : nf (sm (nf (ml a c)) (nf (ml b c))) = nf (sm (ml (dv a) (dv c)) (ml (dv b) (dv c))) := by
    rw [mul_dv a c, mul_dv b c, ← add_nf, dv_of (x := ml (dv a) (dv c)) (Nat.mul_ne_zero (dv_q a) (dv_q c)), dv_of (x := ml (dv b) (dv c)) (Nat.mul_ne_zero (dv_q b) (dv_q c))]
  rw [hl, hr]
  have qa := dv_q a
  have qb := dv_q b
  have qc := dv_q c
  generalize dv a = a at *
  generalize dv b = b at *
  generalize dv c = c at *
  refine nf_eq ?_ ?_ ?_
  · show c.q * (sm a b).q ≠ 0
    rw [sm_q]; exact Nat.mul_ne_zero qc (Nat.mul_ne_zero qa qb)
  · rw [sm_q]; exact Nat.mul_ne_zero (Nat.mul_ne_zero qa qc) (Nat.mul_ne_zero qb qc)
  · rw [ml_num, sm_num, sm_num, ml_num, ml_num, sm_q]
    show num c * (num a * (b.q : Int) + num b * (a.q : Int)) * ((a.q * c.q * (b.q * c.q) : Nat) : Int) = (num a * num c * ((b.q * c.q : Nat) : Int) + num b * num c * ((a.q * c.q : Nat) : Int)) * ((c.q * (sm a b).q : Nat) : Int)
    rw [sm_q]
    simp only [Int.natCast_mul]
    generalize num a = x
    generalize num b = y
    generalize num c = z
    generalize (a.q : Int) = u
    generalize (b.q : Int) = v
    generalize (c.q : Int) = t
    rw [Int.mul_add, Int.add_mul, Int.add_mul]
    congr 1 <;> ac_rfl
/-- Division reverses multiplication. -/
theorem field_div (a : R) {c : R} (hp : c.p ≠ 0) (hq : c.q ≠ 0) : nf (ml (nf (ml a c)) (inv c)) = nf a := by
  have h1 : nf (ml (nf (ml a c)) (inv c)) = nf (ml (ml (dv a) c) (inv c)) := by
    rw [mul_nf, nf_nf, ← mul_nf (ml a c), mul_nf (ml a c), mul_dv a c, dv_of hq, ← mul_nf]
  rw [h1, ← nf_dv a]
  have qa := dv_q a
  generalize dv a = a at *
  refine nf_eq (Nat.mul_ne_zero (Nat.mul_ne_zero qa hq) hp) qa ?_
  rw [ml_num, ml_num]
  show num a * num c * num (inv c) * (a.q : Int) = num a * ((a.q * c.q * c.p : Nat) : Int)
  have e : num c * num (inv c) = (c.p : Int) * (c.q : Int) := by
    unfold num inv
    cases c.s <;> simp [Int.neg_mul, Int.mul_neg]
  simp only [Int.natCast_mul]
  calc num a * num c * num (inv c) * (a.q : Int) = num a * (num c * num (inv c)) * (a.q : Int) := by ac_rfl
    _ = _ := by rw [e]; ac_rfl
end Go.Proofs.YtmojcnlddfijjaaGreatDoor.RatMath

/-
  Plain mathematics for layer 2: how numbers compare.
-/
namespace Go.Proofs.YtmojcnlddfijjaaGreatDoor.RatMath

theorem sm_sign (z : R) : (if z.p = 0 then (0 : Int) else if z.s then -1 else 1) ≤ 0 ↔ num z ≤ 0 := by
  obtain ⟨s, p, q⟩ := z
  unfold num
  cases s <;> by_cases hp : p = 0 <;> simp [hp] <;> omega
theorem cmp_le {x y : R} : cmp x y ≤ 0 ↔ num (dv x) * ((dv y).q : Int) ≤ num (dv y) * ((dv x).q : Int) := by
  have h := cmp_num x y
  have h2 := sm_sign (sm (dv x) (dv (ng y)))
  unfold cmp
  rw [h2, h]
  omega
/-- Two numbers in normal form compare as they did before. -/
theorem cmp_nf_le {x y : R} (hx : x.q ≠ 0) (hy : y.q ≠ 0) (h : num x * (y.q : Int) ≤ num y * (x.q : Int)) : cmp (nf x) (nf y) ≤ 0 := by
  rw [cmp_le, dv_nf, dv_nf]
  have h1 := nf_val hx
  have h2 := nf_val hy
  have p1 : (0 : Int) < (x.q : Int) := by omega
  have p2 : (0 : Int) < (y.q : Int) := by omega
  have p3 : (0 : Int) ≤ ((nf x).q : Int) := by omega
  have p4 : (0 : Int) ≤ ((nf y).q : Int) := by omega
  generalize num (nf x) = a' at *
  generalize num (nf y) = c' at *
  generalize num x = a at *
  generalize num y = c at *
  generalize (x.q : Int) = b at *
  generalize (y.q : Int) = d at *
  generalize ((nf x).q : Int) = b' at *
  generalize ((nf y).q : Int) = d' at *
  refine Int.le_of_mul_le_mul_right ?_ (Int.mul_pos p1 p2)
  calc a' * d' * (b * d) = (a' * b) * (d' * d) := by ac_rfl
    _ = (a * b') * (d' * d) := by rw [h1]
    _ = (a * d) * (b' * d') := by ac_rfl
    _ ≤ (c * b) * (b' * d') := Int.mul_le_mul_of_nonneg_right h (Int.mul_nonneg p3 p4)
    _ = (c * d') * (b * b') := by ac_rfl
    _ = (c' * d) * (b * b') := by rw [h2]
    _ = c' * b' * (b * d) := by ac_rfl
theorem ng_nf (y : R) : nf (ng (nf y)) = nf (ng y) := by
  rw [← nf_dv (ng y)]
  refine nf_eq (nf_q y) (dv_q _) ?_
  rw [ng_num, (dv_ng_num y).1, (dv_ng_num y).2, Int.neg_mul]
  show -(num (nf y) * ((dv y).q : Int)) = -num (dv y) * ((nf y).q : Int)
  rw [nf_val' y, Int.neg_mul]
/-- The reference's difference. -/
theorem diff_nf (x y : R) : nf (sm (nf x) (nf (ng (nf y)))) = nf (sm (dv x) (dv (ng y))) := by
  rw [ng_nf, ← add_nf]
theorem nf_sign {z : R} (hq : z.q ≠ 0) : ((nf z).p = 0 ↔ z.p = 0) ∧ (z.p ≠ 0 → (nf z).s = z.s) := by
  constructor
  · have := nf_p z
    rwa [dv_of hq] at this
  · intro hp
    rw [nf_pos hp hq]
/-- The reference's comparison. -/
theorem cmp_ref (x y : R) : (if (nf (sm (nf x) (nf (ng (nf y))))).p = 0 then (0 : Int) else if (nf (sm (nf x) (nf (ng (nf y))))).s then -1 else 1) = cmp x y := by
  rw [diff_nf]
  have hq : (sm (dv x) (dv (ng y))).q ≠ 0 := by rw [sm_q]; exact Nat.mul_ne_zero (dv_q _) (dv_q _)
  obtain ⟨h1, h2⟩ := nf_sign hq
  unfold cmp
  by_cases hp : (sm (dv x) (dv (ng y))).p = 0
  · rw [if_pos (h1.2 hp), if_pos hp]
  · rw [if_neg (fun h => hp (h1.1 h)), if_neg hp, h2 hp]

/-- The product of two fixed-point numbers lies between the rounded ones. -/
theorem fixed_low {X Y T : Nat} (hT : 0 < T) : cmp (nf ⟨false, X * Y / T, T⟩) (nf (ml (nf ⟨false, X, T⟩) (nf ⟨false, Y, T⟩))) ≤ 0 := by
  rw [← mul_nf]
  have h := Nat.div_mul_le_self (X * Y) T
  refine cmp_nf_le (Nat.pos_iff_ne_zero.1 hT) (Nat.mul_ne_zero (Nat.pos_iff_ne_zero.1 hT) (Nat.pos_iff_ne_zero.1 hT)) ?_
  show ((X * Y / T : Nat) : Int) * ((T * T : Nat) : Int) ≤ ((X * Y : Nat) : Int) * ((T : Nat) : Int)
  rw [← Int.natCast_mul, ← Int.natCast_mul]
  refine Int.ofNat_le.2 ?_
  rw [← Nat.mul_assoc]
  exact Nat.mul_le_mul_right _ h
theorem fixed_high {X Y T H : Nat} (hT : 0 < T) (hH : X * Y ≤ H * T) : cmp (nf (ml (nf ⟨false, X, T⟩) (nf ⟨false, Y, T⟩))) (nf ⟨false, H, T⟩) ≤ 0 := by
  rw [← mul_nf]
  refine cmp_nf_le (Nat.mul_ne_zero (Nat.pos_iff_ne_zero.1 hT) (Nat.pos_iff_ne_zero.1 hT)) (Nat.pos_iff_ne_zero.1 hT) ?_
  show ((X * Y : Nat) : Int) * ((T : Nat) : Int) ≤ ((H : Nat) : Int) * ((T * T : Nat) : Int)
  rw [← Int.natCast_mul, ← Int.natCast_mul]
  refine Int.ofNat_le.2 ?_
  rw [← Nat.mul_assoc]
  exact Nat.mul_le_mul_right _ hH
end Go.Proofs.YtmojcnlddfijjaaGreatDoor.RatMath
