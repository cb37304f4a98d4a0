import Derived.Test.YtgjndondonehhaaDoorNatHelp2
import Derived.Laws.Rows
import Derived.Test.YtgjndondonehhaaDoorNatGcdN
import Derived.Test.YtgjndondonehhaaDoorNatBitLen
import Derived.Deep.RegionHeld3
import Derived.Deep.RegionWith
import Derived.Deep.DeepCutAuto
/-
  Structs of three cells that lie in a block of the call's own.
-/
namespace Go.Proofs.YtgjndondonehhaaDoor
open Go.RowKit NatMath

/-- Block g holds just these cells of element type t. -/
def Blk (w : World) (g : Nat) (t : TypeId) (cs : Array Value) : Prop := w.heap[g]? = some (.cells cs t (0, 0))

section
variable {w w' : World} {g : Nat} {t : TypeId} {cs : Array Value}
theorem Blk.lt (h : Blk w g t cs) : g < w.heap.size := by
  rcases Nat.lt_or_ge g w.heap.size with hlt | hge
  · exact hlt
  · unfold Blk at h; rw [Array.getElem?_eq_none hge] at h; cases h
theorem Blk.cell (h : Blk w g t cs) (i : Nat) : w.cell? ⟨g, i, none⟩ = cs[i]? := cell_of_row w g i cs t (0, 0) h
theorem Blk.frozen (h : Blk w g t cs) (i : Nat) : w.frozen? ⟨g, i, none⟩ = false := by
  unfold Blk at h
  simp [World.frozen?, h]
theorem Blk.new (w : World) (t : TypeId) (cs : Array Value) : Blk (w.alloc (.cells cs t)) w.heap.size t cs := heap_alloc_new w _
theorem Blk.drewN (h : Blk w g t cs) (n : Nat) : Blk (w.drewN n) g t cs := h
theorem Blk.alloc (h : Blk w g t cs) (o : Obj) : Blk (w.alloc o) g t cs := (Below.heap_alloc w o g h.lt).trans h
theorem Blk.set (h : Blk w g t cs) (i : Nat) (u : Value) : Blk (w.setCell ⟨g, i, none⟩ u) g t (cs.setIfInBounds i u) := by
  unfold Blk at h ⊢
  simp [World.setCell, Array.getElem?_modify, h]
theorem Blk.far (h : Blk w g t cs) {p : Addr} (hp : g ≠ p.block) (u : Value) : Blk (w.setCell p u) g t cs := (Below.heap_setCell w p u g hp).trans h
theorem Blk.below {B : Nat} (h : Blk w g t cs) (hb : Below B w w') (hg : g < B) : Blk w' g t cs := (hb.block g hg).trans h
theorem Blk.on (h : Blk w g t cs) (hb : Below w.heap.size w w') : Blk w' g t cs := h.below hb h.lt
end

/-- The world behind a store of three cells. -/
def put3 (w : World) (g : Nat) (u0 u1 u2 : Value) : World := ((w.setCell ⟨g, 0, none⟩ u0).setCell ⟨g, 1, none⟩ u1).setCell ⟨g, 2, none⟩ u2

section
variable {w : World} {g : Nat} {t : TypeId} {v0 v1 v2 : Value}
theorem Blk.cells3 (h : Blk w g t #[v0, v1, v2]) : w.cell? ⟨g, 0, none⟩ = some v0 ∧ w.cell? ⟨g, 1, none⟩ = some v1 ∧ w.cell? ⟨g, 2, none⟩ = some v2 := ⟨h.cell 0, h.cell 1, h.cell 2⟩
/-- What a store of three cells asks, one after another. -/
theorem Blk.store3 (h : Blk w g t #[v0, v1, v2]) (u0 u1 : Value) :
    w.cell? ⟨g, 0, none⟩ = some v0 ∧ w.frozen? ⟨g, 0, none⟩ = false ∧ (w.setCell ⟨g, 0, none⟩ u0).cell? ⟨g, 1, none⟩ = some v1 ∧ (w.setCell ⟨g, 0, none⟩ u0).frozen? ⟨g, 1, none⟩ = false ∧
    ((w.setCell ⟨g, 0, none⟩ u0).setCell ⟨g, 1, none⟩ u1).cell? ⟨g, 2, none⟩ = some v2 ∧ ((w.setCell ⟨g, 0, none⟩ u0).setCell ⟨g, 1, none⟩ u1).frozen? ⟨g, 2, none⟩ = false := by
  have h1 := h.set 0 u0
  have h2 := h1.set 1 u1
  exact ⟨h.cell 0, h.frozen 0, h1.cell 1, h1.frozen 1, h2.cell 2, h2.frozen 2⟩
theorem Blk.put3 (h : Blk w g t #[v0, v1, v2]) (u0 u1 u2 : Value) : Blk (put3 w g u0 u1 u2) g t #[u0, u1, u2] := ((h.set 0 u0).set 1 u1).set 2 u2
theorem below_put3 {B : Nat} {a : World} (h : Below B a w) (hg : B ≤ g) (u0 u1 u2 : Value) : Below B a (Go.Proofs.YtgjndondonehhaaDoor.put3 w g u0 u1 u2) := ((h.setCell hg u0).setCell hg u1).setCell hg u2
theorem put3_other {g' : Nat} {t' : TypeId} {cs : Array Value} (h : Blk w g' t' cs) (hne : g' ≠ g) (u0 u1 u2 : Value) : Blk (Go.Proofs.YtgjndondonehhaaDoor.put3 w g u0 u1 u2) g' t' cs := ((h.far (p := ⟨g, 0, none⟩) hne u0).far (p := ⟨g, 1, none⟩) hne u1).far (p := ⟨g, 2, none⟩) hne u2
theorem put3_grown (w : World) (g : Nat) (u0 u1 u2 : Value) : w.grownBy (Go.Proofs.YtgjndondonehhaaDoor.put3 w g u0 u1 u2) (some g) := by
  have e : ∀ (w : World) (i : Nat) (u : Value), w.grownBy (w.setCell ⟨g, i, none⟩ u) (some g) := fun w i u =>
    ⟨rfl, rfl, rfl, by simp [World.setCell], fun k _ hk => Below.heap_setCell w _ u k (fun e => hk (by rw [e]))⟩
  exact grown_trans (grown_trans (e w 0 u0) (e _ 1 u1)) (e _ 2 u2)
end
theorem Own.put3 {e : TypeId} {k : IntKind} {B : Nat} {w : World} {ao : Option Addr} {n c : Nat} {xs : List Int} (h : Own e k B w ao n c xs) {g : Nat} (hne : ∀ a, ao = some a → g ≠ a.block) (u0 u1 u2 : Value) : Own e k B (put3 w g u0 u1 u2) ao n c xs :=
  h.grown (put3_grown w g u0 u1 u2) (fun a ha => by simpa using hne a ha)
theorem Own.hi {e : TypeId} {k : IntKind} {B : Nat} {w : World} {ao : Option Addr} {n c : Nat} {xs : List Int} (h : Own e k B w ao n c xs) {g : Nat} (hg : g < B) : ∀ a, ao = some a → g ≠ a.block := by
  intro a ha
  rcases h.cases with ⟨h0, _⟩ | ⟨q, hq, h1, _⟩
  · rw [h0] at ha; cases ha
  · rw [hq] at ha
    cases ha
    show g ≠ q
    omega
theorem Lst.put3 {k : IntKind} {w : World} {ao : Option Addr} {n c : Nat} {xs : List Int} (h : Lst k w ao n c xs) {g : Nat} (hne : ∀ i, i < n → (pt ao i).block ≠ g) (u0 u1 u2 : Value) : Lst k (put3 w g u0 u1 u2) ao n c xs :=
  h.grown (put3_grown w g u0 u1 u2) (fun i hi => by simpa using hne i hi)

/-- The world in which a body begins whose call has boxed two structs, or three. -/
theorem boxed2 (w : World) (t : TypeId) (A B : Array Value) : ∃ W, W = (w.alloc (.cells A t)).alloc (.cells B t) ∧ Blk W w.heap.size t A ∧ Blk W (w.heap.size + 1) t B ∧ Below w.heap.size w W := by
  refine ⟨_, rfl, (Blk.new w t A).alloc _, ?_, ((Below.refl w.heap.size w).alloc (Nat.le_refl _) _).alloc (by simp) _⟩
  have := Blk.new (w.alloc (.cells A t)) t B
  rwa [show (w.alloc (.cells A t)).heap.size = w.heap.size + 1 by simp] at this
theorem boxed3 (w : World) (t : TypeId) (A B C : Array Value) : ∃ W, W = ((w.alloc (.cells A t)).alloc (.cells B t)).alloc (.cells C t) ∧ Blk W w.heap.size t A ∧ Blk W (w.heap.size + 1) t B ∧ Blk W (w.heap.size + 1 + 1) t C ∧ Below w.heap.size w W := by
  refine ⟨_, rfl, ((Blk.new w t A).alloc _).alloc _, ?_, ?_, (((Below.refl w.heap.size w).alloc (Nat.le_refl _) _).alloc (by simp) _).alloc (by simp; omega) _⟩
  · have := (Blk.new (w.alloc (.cells A t)) t B).alloc (.cells C t)
    rwa [show (w.alloc (.cells A t)).heap.size = w.heap.size + 1 by simp] at this
  · have := Blk.new ((w.alloc (.cells A t)).alloc (.cells B t)) t C
    rwa [show ((w.alloc (.cells A t)).alloc (.cells B t)).heap.size = w.heap.size + 1 + 1 by simp] at this
end Go.Proofs.YtgjndondonehhaaDoor

/-
  Plain mathematics for layer 2: rational numbers as a sign and two natural numbers. No program, no world.
-/
namespace Go.Proofs.YtgjndondonehhaaDoor.RatMath

structure R where
  s : Bool
  p : Nat
  q : Nat
deriving DecidableEq

def zero : R := ⟨false, 0, 1⟩
/-- The normal form. -/
def nf (x : R) : R := if x.p = 0 ∨ x.q = 0 then zero else ⟨x.s, x.p / Nat.gcd x.p x.q, x.q / Nat.gcd x.p x.q⟩
/-- 0 in normal form where the denominator is 0. -/
def dv (x : R) : R := if x.q = 0 then zero else x
def ng (x : R) : R := ⟨!x.s, x.p, x.q⟩
def inv (x : R) : R := ⟨x.s, x.q, x.p⟩
def ml (x y : R) : R := ⟨x.s != y.s, x.p * y.p, x.q * y.q⟩
def sm (x y : R) : R :=
  if x.s = y.s then ⟨x.s, x.p * y.q + y.p * x.q, x.q * y.q⟩
  else if y.p * x.q ≤ x.p * y.q then ⟨x.s, x.p * y.q - y.p * x.q, x.q * y.q⟩
  else ⟨y.s, y.p * x.q - x.p * y.q, x.q * y.q⟩
def num (x : R) : Int := if x.s then -(x.p : Int) else (x.p : Int)

theorem dv_q (x : R) : (dv x).q ≠ 0 := by
  unfold dv
  split
  · decide
  · assumption
theorem dv_of {x : R} (h : x.q ≠ 0) : dv x = x := by unfold dv; rw [if_neg h]
theorem nf_zero {x : R} (h : x.p = 0 ∨ x.q = 0) : nf x = zero := by unfold nf; rw [if_pos h]
theorem nf_pos {x : R} (h1 : x.p ≠ 0) (h2 : x.q ≠ 0) : nf x = ⟨x.s, x.p / Nat.gcd x.p x.q, x.q / Nat.gcd x.p x.q⟩ := by
  unfold nf; rw [if_neg (by intro h; rcases h with h | h <;> contradiction)]
theorem gcd_parts {a b : Nat} (h : a ≠ 0) : ∃ u v, a = Nat.gcd a b * u ∧ b = Nat.gcd a b * v ∧ 0 < Nat.gcd a b ∧ Nat.gcd u v = 1 ∧ a / Nat.gcd a b = u ∧ b / Nat.gcd a b = v := by
  have hg : 0 < Nat.gcd a b := Nat.gcd_pos_of_pos_left _ (Nat.pos_of_ne_zero h)
  obtain ⟨u, hu⟩ := Nat.gcd_dvd_left a b
  obtain ⟨v, hv⟩ := Nat.gcd_dvd_right a b
  have e : Nat.gcd a b * Nat.gcd u v = Nat.gcd a b := by
    rw [← Nat.gcd_mul_left, ← hu, ← hv]
  refine ⟨u, v, hu, hv, hg, ?_, ?_, ?_⟩
  · have : Nat.gcd a b * Nat.gcd u v = Nat.gcd a b * 1 := by rw [e, Nat.mul_one]
    exact Nat.eq_of_mul_eq_mul_left hg this
  · exact Nat.div_eq_of_eq_mul_right hg hu
  · exact Nat.div_eq_of_eq_mul_right hg hv

theorem nf_q (x : R) : (nf x).q ≠ 0 := by
  by_cases h : x.p = 0 ∨ x.q = 0
  · rw [nf_zero h]; decide
  · have h1 : x.p ≠ 0 := fun e => h (Or.inl e)
    have h2 : x.q ≠ 0 := fun e => h (Or.inr e)
    rw [nf_pos h1 h2]
    obtain ⟨u, v, hu, hv, hg, _, e1, e2⟩ := gcd_parts (b := x.q) h1
    show x.q / Nat.gcd x.p x.q ≠ 0
    rw [e2]
    intro h0
    rw [h0, Nat.mul_zero] at hv
    exact h2 hv
theorem dv_nf (x : R) : dv (nf x) = nf x := dv_of (nf_q x)

/-- Lowest terms are the same for the same number. -/
theorem lowest {a b c d : Nat} (ha : a ≠ 0) (hc : c ≠ 0) (h : a * d = c * b) : a / Nat.gcd a b = c / Nat.gcd c d ∧ b / Nat.gcd a b = d / Nat.gcd c d := by
  obtain ⟨u, v, hu, hv, hg, hc1, e1, e2⟩ := gcd_parts (b := b) ha
  obtain ⟨x, y, hx, hy, hk, hc2, e3, e4⟩ := gcd_parts (b := d) hc
  rw [e1, e2, e3, e4]
  generalize Nat.gcd a b = g at *
  generalize Nat.gcd c d = k at *
  have h1 : g * k * (u * y) = g * k * (x * v) := by
    rw [hu, hv, hx, hy] at h
    calc g * k * (u * y) = g * u * (k * y) := by ac_rfl
      _ = k * x * (g * v) := h
      _ = g * k * (x * v) := by ac_rfl
  have h2 : u * y = x * v := Nat.eq_of_mul_eq_mul_left (Nat.mul_pos hg hk) h1
  have d1 : u ∣ x := by
    have : u ∣ x * v := ⟨y, h2.symm⟩
    exact Nat.Coprime.dvd_of_dvd_mul_right hc1 this
  have d2 : x ∣ u := by
    have : x ∣ u * y := ⟨v, h2⟩
    exact Nat.Coprime.dvd_of_dvd_mul_right hc2 this
  have e : u = x := Nat.dvd_antisymm d1 d2
  refine ⟨e, ?_⟩
  subst e
  have hu0 : 0 < u := Nat.pos_of_ne_zero (fun h0 => ha (by rw [hu, h0, Nat.mul_zero]))
  exact (Nat.eq_of_mul_eq_mul_left hu0 h2).symm

theorem num_zero {x : R} : num x = 0 ↔ x.p = 0 := by
  unfold num
  split <;> omega
theorem num_abs (x : R) : (num x).natAbs = x.p := by
  unfold num
  split <;> omega
theorem num_neg {x : R} (h : x.p ≠ 0) : x.s = decide (num x < 0) := by
  unfold num
  cases hs : x.s
  · rw [if_neg (by decide)]; rw [decide_eq_false (by omega)]
  · rw [if_pos rfl]; rw [decide_eq_true (by omega)]

/-- Two fractions with the same value have the same normal form. -/
theorem nf_eq {x y : R} (hx : x.q ≠ 0) (hy : y.q ≠ 0) (h : num x * (y.q : Int) = num y * (x.q : Int)) : nf x = nf y := by
  have habs : x.p * y.q = y.p * x.q := by
    have := congrArg Int.natAbs h
    rw [Int.natAbs_mul, Int.natAbs_mul, num_abs, num_abs, Int.natAbs_natCast, Int.natAbs_natCast] at this
    exact this
  by_cases hp : x.p = 0
  · have : y.p = 0 := by
      rw [hp, Nat.zero_mul] at habs
      rcases Nat.mul_eq_zero.1 habs.symm with h0 | h0
      · exact h0
      · exact absurd h0 hx
    rw [nf_zero (Or.inl hp), nf_zero (Or.inl this)]
  · have hyp : y.p ≠ 0 := by
      intro h0
      rw [h0, Nat.zero_mul] at habs
      rcases Nat.mul_eq_zero.1 habs with h1 | h1
      · exact hp h1
      · exact hy h1
    rw [nf_pos hp hx, nf_pos hyp hy]
    have hl := lowest hp hyp habs
    rw [hl.1, hl.2]
    have hs : x.s = y.s := by
      rw [num_neg hp, num_neg hyp]
      congr 1
      apply propext
      have hxq : (0 : Int) < (x.q : Int) := by omega
      have hyq : (0 : Int) < (y.q : Int) := by omega
      constructor
      · intro h1
        have h2 : num y * (x.q : Int) < 0 := by rw [← h]; exact Int.mul_neg_of_neg_of_pos h1 hyq
        rcases (show num y < 0 ∨ 0 ≤ num y by omega) with h3 | h3
        · exact h3
        · have := Int.mul_nonneg h3 (Int.le_of_lt hxq); omega
      · intro h1
        have h2 : num x * (y.q : Int) < 0 := by rw [h]; exact Int.mul_neg_of_neg_of_pos h1 hxq
        rcases (show num x < 0 ∨ 0 ≤ num x by omega) with h3 | h3
        · exact h3
        · have := Int.mul_nonneg h3 (Int.le_of_lt hyq); omega
    rw [hs]

/-- The normal form has the value of the number. -/
theorem nf_val {x : R} (hx : x.q ≠ 0) : num (nf x) * (x.q : Int) = num x * ((nf x).q : Int) := by
  by_cases hp : x.p = 0
  · rw [nf_zero (Or.inl hp), num_zero.2 hp]; simp [num, zero]
  · rw [nf_pos hp hx]
    obtain ⟨u, v, hu, hv, hg, _, e1, e2⟩ := gcd_parts (b := x.q) hp
    have h : x.p / Nat.gcd x.p x.q * x.q = x.p * (x.q / Nat.gcd x.p x.q) := by
      rw [e1, e2]
      generalize Nat.gcd x.p x.q = g at *
      rw [hu, hv]
      ac_rfl
    have hi : ((x.p / Nat.gcd x.p x.q : Nat) : Int) * (x.q : Int) = (x.p : Int) * ((x.q / Nat.gcd x.p x.q : Nat) : Int) := by
      rw [← Int.natCast_mul, ← Int.natCast_mul, h]
    unfold num
    show (if x.s = true then -((x.p / Nat.gcd x.p x.q : Nat) : Int) else ((x.p / Nat.gcd x.p x.q : Nat) : Int)) * (x.q : Int) = _
    cases x.s
    · simpa using hi
    · simp only [if_true]
      rw [Int.neg_mul, Int.neg_mul, hi]
theorem nf_dv (x : R) : nf (dv x) = nf x := by
  by_cases h : x.q = 0
  · unfold dv
    rw [if_pos h, nf_zero (Or.inr h)]
    decide
  · rw [dv_of h]
theorem nf_val' (x : R) : num (nf x) * ((dv x).q : Int) = num (dv x) * ((nf x).q : Int) := by
  rw [← nf_dv x]
  exact nf_val (dv_q x)
theorem nf_nf (x : R) : nf (nf x) = nf x := by
  rw [← nf_dv x]
  exact nf_eq (nf_q _) (dv_q x) (nf_val (dv_q x))

theorem sm_q (x y : R) : (sm x y).q = x.q * y.q := by
  unfold sm
  split
  · rfl
  · split <;> rfl
theorem sm_num (x y : R) : num (sm x y) = num x * (y.q : Int) + num y * (x.q : Int) := by
  obtain ⟨s1, p1, q1⟩ := x
  obtain ⟨s2, p2, q2⟩ := y
  unfold sm num
  have e1 : ((p1 * q2 : Nat) : Int) = (p1 : Int) * (q2 : Int) := by simp
  have e2 : ((p2 * q1 : Nat) : Int) = (p2 : Int) * (q1 : Int) := by simp
  cases s1 <;> cases s2 <;> simp only [if_true, Int.neg_mul, ← e1, ← e2] <;> simp
  · split <;> simp <;> omega
  · split <;> simp <;> omega
  · omega
theorem ml_num (x y : R) : num (ml x y) = num x * num y := by
  obtain ⟨s1, p1, q1⟩ := x
  obtain ⟨s2, p2, q2⟩ := y
  unfold ml num
  cases s1 <;> cases s2 <;> simp [Int.neg_mul, Int.mul_neg]
theorem ng_num (x : R) : num (ng x) = -num x := by
  obtain ⟨s1, p1, q1⟩ := x
  unfold ng num
  cases s1 <;> simp

/-- Sums of numbers, of whatever form. -/
theorem add_nf (x y : R) : nf (sm (dv x) (dv y)) = nf (sm (nf x) (nf y)) := by
  refine nf_eq ?_ ?_ ?_
  · rw [sm_q]; exact Nat.mul_ne_zero (dv_q x) (dv_q y)
  · rw [sm_q]; exact Nat.mul_ne_zero (nf_q x) (nf_q y)
  · rw [sm_num, sm_num, sm_q, sm_q, Int.natCast_mul, Int.natCast_mul]
    have h1 := nf_val' x
    have h2 := nf_val' y
    generalize num (dv x) = a at *
    generalize num (dv y) = b at *
    generalize num (nf x) = c at *
    generalize num (nf y) = d at *
    generalize ((dv x).q : Int) = e at *
    generalize ((dv y).q : Int) = f at *
    generalize ((nf x).q : Int) = g at *
    generalize ((nf y).q : Int) = k at *
    calc (a * f + b * e) * (g * k) = (a * g) * (f * k) + (b * k) * (e * g) := by rw [Int.add_mul]; congr 1 <;> ac_rfl
      _ = (c * e) * (f * k) + (d * f) * (e * g) := by rw [h1, h2]
      _ = (c * k + d * g) * (e * f) := by rw [Int.add_mul]; congr 1 <;> ac_rfl
theorem mul_dv (x y : R) : nf (ml x y) = nf (ml (dv x) (dv y)) := by
  by_cases hx : x.q = 0
  · have e : (dv x).p = 0 := by unfold dv; rw [if_pos hx]; rfl
    rw [nf_zero (Or.inr (by show x.q * y.q = 0; rw [hx, Nat.zero_mul])), nf_zero (Or.inl (by show (dv x).p * (dv y).p = 0; rw [e, Nat.zero_mul]))]
  · by_cases hy : y.q = 0
    · have e : (dv y).p = 0 := by unfold dv; rw [if_pos hy]; rfl
      rw [nf_zero (Or.inr (by show x.q * y.q = 0; rw [hy, Nat.mul_zero])), nf_zero (Or.inl (by show (dv x).p * (dv y).p = 0; rw [e, Nat.mul_zero]))]
    · rw [dv_of hx, dv_of hy]
theorem mul_nf (x y : R) : nf (ml x y) = nf (ml (nf x) (nf y)) := by
  rw [mul_dv]
  refine nf_eq (Nat.mul_ne_zero (dv_q x) (dv_q y)) (Nat.mul_ne_zero (nf_q x) (nf_q y)) ?_
  rw [ml_num, ml_num]
  show num (dv x) * num (dv y) * (((nf x).q * (nf y).q : Nat) : Int) = num (nf x) * num (nf y) * (((dv x).q * (dv y).q : Nat) : Int)
  rw [Int.natCast_mul, Int.natCast_mul]
  have h1 := nf_val' x
  have h2 := nf_val' y
  calc num (dv x) * num (dv y) * (((nf x).q : Int) * ((nf y).q : Int)) = (num (dv x) * ((nf x).q : Int)) * (num (dv y) * ((nf y).q : Int)) := by ac_rfl
    _ = (num (nf x) * ((dv x).q : Int)) * (num (nf y) * ((dv y).q : Int)) := by rw [h1, h2]
    _ = _ := by ac_rfl

theorem nf_p (x : R) : (nf x).p = 0 ↔ (dv x).p = 0 := by
  have h := nf_val' x
  have hq := dv_q x
  have hn := nf_q x
  constructor
  · intro h0
    rw [num_zero.2 h0, Int.zero_mul] at h
    rcases Int.mul_eq_zero.1 h.symm with h1 | h1
    · exact num_zero.1 h1
    · omega
  · intro h0
    rw [num_zero.2 h0, Int.zero_mul] at h
    rcases Int.mul_eq_zero.1 h with h1 | h1
    · exact num_zero.1 h1
    · omega
theorem dv_p_zero (x : R) : (dv x).p = 0 ↔ x.p = 0 ∨ x.q = 0 := by
  unfold dv
  split
  · rename_i h
    exact ⟨fun _ => Or.inr h, fun _ => rfl⟩
  · rename_i h
    exact ⟨fun h0 => Or.inl h0, fun h0 => h0.resolve_right h⟩
theorem inv_num_q {x : R} : (inv x).q = x.p := rfl

/-- The quotient of numbers of whatever form; the divisor is not 0. -/
theorem div_nf (x : R) {y : R} (hp : y.p ≠ 0) (hq : y.q ≠ 0) : nf (ml x (inv y)) = nf (ml (nf x) (inv (nf y))) := by
  have hyn : (nf y).p ≠ 0 := fun h0 => hp (by have := (nf_p y).1 h0; rwa [dv_of hq] at this)
  have e1 : nf (inv y) = nf (inv (nf y)) := by
    refine nf_eq hp hyn ?_
    have h := nf_val hq
    have hs : (nf y).s = y.s := by rw [nf_pos hp hq]
    have habs : (nf y).p * y.q = y.p * (nf y).q := by
      have := congrArg Int.natAbs h
      rw [Int.natAbs_mul, Int.natAbs_mul, num_abs, num_abs, Int.natAbs_natCast, Int.natAbs_natCast] at this
      exact this
    have hi : (y.q : Int) * ((nf y).p : Int) = ((nf y).q : Int) * (y.p : Int) := by
      rw [← Int.natCast_mul, ← Int.natCast_mul, Nat.mul_comm y.q, habs, Nat.mul_comm]
    unfold inv num
    simp only [hs]
    cases y.s
    · simpa using hi
    · simp only [if_true]; rw [Int.neg_mul, Int.neg_mul, hi]
  rw [mul_nf, e1, mul_nf (nf x) (inv (nf y)), nf_nf]

/-- How two numbers compare: by the sum with the opposite. -/
def cmp (x y : R) : Int := if (sm (dv x) (dv (ng y))).p = 0 then 0 else if (sm (dv x) (dv (ng y))).s then -1 else 1
theorem dv_ng_num (y : R) : num (dv (ng y)) = -num (dv y) ∧ (dv (ng y)).q = (dv y).q := by
  unfold dv
  by_cases h : y.q = 0
  · have : (ng y).q = 0 := h
    rw [if_pos h, if_pos this]
    decide
  · have : (ng y).q ≠ 0 := h
    rw [if_neg h, if_neg this]
    exact ⟨ng_num y, rfl⟩
theorem cmp_num (x y : R) : num (sm (dv x) (dv (ng y))) = num (dv x) * ((dv y).q : Int) - num (dv y) * ((dv x).q : Int) := by
  rw [sm_num, (dv_ng_num y).1, (dv_ng_num y).2, Int.neg_mul]
  omega
theorem cmp_zero {x y : R} : cmp x y = 0 ↔ num (dv x) * ((dv y).q : Int) = num (dv y) * ((dv x).q : Int) := by
  have h := cmp_num x y
  unfold cmp
  constructor
  · intro h0
    split at h0
    · rename_i hp
      rw [num_zero.2 hp] at h
      omega
    · split at h0 <;> omega
  · intro h0
    rw [if_pos]
    apply num_zero.1
    omega
theorem cmp_of_nf {x y : R} (h : nf x = nf y) : cmp x y = 0 := by
  rw [cmp_zero]
  have h1 := nf_val' x
  have h2 := nf_val' y
  rw [h] at h1
  have hq : ((nf y).q : Int) ≠ 0 := by have := nf_q y; omega
  apply Int.eq_of_mul_eq_mul_right hq
  generalize num (dv x) = a at *
  generalize num (dv y) = b at *
  generalize num (nf y) = c at *
  generalize ((dv x).q : Int) = e at *
  generalize ((dv y).q : Int) = f at *
  generalize ((nf y).q : Int) = g at *
  calc a * f * g = (a * g) * f := by ac_rfl
    _ = (c * e) * f := by rw [h1]
    _ = (c * f) * e := by ac_rfl
    _ = (b * g) * e := by rw [h2]
    _ = b * e * g := by ac_rfl
theorem cmp_zero_p (x : R) : cmp x zero = 0 ↔ (dv x).p = 0 := by
  rw [cmp_zero]
  have : num (dv zero) = 0 := by decide
  rw [this]
  have : (dv zero).q = 1 := by decide
  rw [this]
  constructor
  · intro h
    exact num_zero.1 (by omega)
  · intro h
    rw [num_zero.2 h]
    omega
/-- Multiplication distributes over addition. -/
theorem field (a b c : R) : nf (ml c (nf (sm (dv a) (dv b)))) = nf (sm (nf (ml a c)) (nf (ml b c))) := by
  have hl : nf (ml c (nf (sm (dv a) (dv b)))) = nf (ml (dv c) (sm (dv a) (dv b))) := by
    rw [mul_nf, nf_nf, ← nf_dv c, ← mul_nf]
  have hr : nf (sm (nf (ml a c)) (nf (ml b c))) = nf (sm (ml (dv a) (dv c)) (ml (dv b) (dv c))) := by
    rw [mul_dv a c, mul_dv b c, ← add_nf, dv_of (x := ml (dv a) (dv c)) (Nat.mul_ne_zero (dv_q a) (dv_q c)), dv_of (x := ml (dv b) (dv c)) (Nat.mul_ne_zero (dv_q b) (dv_q c))]
  rw [hl, hr]
  have qa := dv_q a
  have qb := dv_q b
  have qc := dv_q c
  generalize dv a = a at *
  generalize dv b = b at *
  generalize dv c = c at *
  refine nf_eq ?_ ?_ ?_
  · show c.q * (sm a b).q ≠ 0
    rw [sm_q]; exact Nat.mul_ne_zero qc (Nat.mul_ne_zero qa qb)
  · rw [sm_q]; exact Nat.mul_ne_zero (Nat.mul_ne_zero qa qc) (Nat.mul_ne_zero qb qc)
  · rw [ml_num, sm_num, sm_num, ml_num, ml_num, sm_q]
    show num c * (num a * (b.q : Int) + num b * (a.q : Int)) * ((a.q * c.q * (b.q * c.q) : Nat) : Int) = (num a * num c * ((b.q * c.q : Nat) : Int) + num b * num c * ((a.q * c.q : Nat) : Int)) * ((c.q * (sm a b).q : Nat) : Int)
    rw [sm_q]
    simp only [Int.natCast_mul]
    generalize num a = x
    generalize num b = y
    generalize num c = z
    generalize (a.q : Int) = u
    generalize (b.q : Int) = v
    generalize (c.q : Int) = t
    rw [Int.mul_add, Int.add_mul, Int.add_mul]
    congr 1 <;> ac_rfl
/-- Division reverses multiplication. -/
theorem field_div (a : R) {c : R} (hp : c.p ≠ 0) (hq : c.q ≠ 0) : nf (ml (nf (ml a c)) (inv c)) = nf a := by
  have h1 : nf (ml (nf (ml a c)) (inv c)) = nf (ml (ml (dv a) c) (inv c)) := by
    rw [mul_nf, nf_nf, ← mul_nf (ml a c), mul_nf (ml a c), mul_dv a c, dv_of hq, ← mul_nf]
  rw [h1, ← nf_dv a]
  have qa := dv_q a
  generalize dv a = a at *
  refine nf_eq (Nat.mul_ne_zero (Nat.mul_ne_zero qa hq) hp) qa ?_
  rw [ml_num, ml_num]
  show num a * num c * num (inv c) * (a.q : Int) = num a * ((a.q * c.q * c.p : Nat) : Int)
  have e : num c * num (inv c) = (c.p : Int) * (c.q : Int) := by
    unfold num inv
    cases c.s <;> simp [Int.neg_mul, Int.mul_neg]
  simp only [Int.natCast_mul]
  calc num a * num c * num (inv c) * (a.q : Int) = num a * (num c * num (inv c)) * (a.q : Int) := by ac_rfl
    _ = _ := by rw [e]; ac_rfl
end Go.Proofs.YtgjndondonehhaaDoor.RatMath

/-
  ratio.isZero, ratio.Make, ratio.normal, ratio.divisible, ratio.negate.
-/
namespace Go.Proofs.YtgjndondonehhaaDoor
open Go.RowKit NatMath RatMath

theorem limbs_1 : limbs 1 = [1] := by
  rw [limbs_pos (by omega), show 1 / 4294967296 = 0 by omega, limbs_zero]; rfl
theorem val_nil : val [] = 0 := rfl

/-- The value of a Ratio. -/
def rv (s : Bool) (a : Option Addr) (n c : Nat) (b : Option Addr) (m d : Nat) : Value := .agg #[.bool s, .slice a n c, .slice b m d]

theorem bitsN_len {v : Nat} : (((bitsN v).length : Int) == 0) = decide (v = 0) := by
  by_cases h : v = 0
  · subst h; rw [bitsN_zero]; rfl
  · rw [bitsN_pos h, decide_eq_false h]
    simp
    omega

set_option maxHeartbeats 1600000 in
theorem isZero_c (ao : Option Addr) (n c : Nat) (xs : List Int) (w : World) (h : Lst .u32 w ao n c xs) (hn : n ≤ 1073741820) :
    Calls Tryd.prog 69 #[.slice ao n c] w fun e w' => e = .returned (.bool (decide (val xs = 0))) ∧ w = w' := by
  have HB := Lib.hid (bits_c ao n c xs w h (by omega))
  have hz := Lib.hid (bitsN_len (v := val xs))
  obtain ⟨L, hL⟩ : ∃ L, Hid (L = (bitsN (val xs)).length) := ⟨_, rfl⟩
  rw [← hL.out] at HB
  go_enter Tryd.func69, Tryd.ntmps69
  go_wp2_with fail
  refine HB.out.mono ?_
  rintro e w' ⟨rfl, rfl⟩
  go_wp2_with fail
  go_ret
  exact ⟨by rw [← hz.out, hL.out]; rfl, rfl⟩

set_option maxHeartbeats 3200000 in
set_option maxRecDepth 100000 in
theorem make_c (s : Bool) (ao bo : Option Addr) (n c m d : Nat) (xs ys : List Int) (w : World) (h : Lst .u32 w ao n c xs) (k : Lst .u32 w bo m d ys) (hn : n ≤ 1000000) (hm : m ≤ 1000000) :
    Calls Tryd.prog 33 #[.bool s, .slice ao n c, .slice bo m d] w fun e w' => ∃ s' a n' c' b m' d', e = .returned (.agg #[.bool s', .slice a n' c', .slice b m' d']) ∧ s' = (nf ⟨s, val xs, val ys⟩).s ∧ Own 75 .u32 w.heap.size w' a n' c' (limbs (nf ⟨s, val xs, val ys⟩).p) ∧ Own 75 .u32 w.heap.size w' b m' d' (limbs (nf ⟨s, val xs, val ys⟩).q) ∧ n' ≤ n ∧ m' ≤ m + 1 ∧ Below w.heap.size w w' := by
  obtain ⟨X, hX⟩ : ∃ X, Hid (X = val xs) := ⟨_, rfl⟩
  obtain ⟨Y, hY⟩ : ∃ Y, Hid (Y = val ys) := ⟨_, rfl⟩
  have HZ1 := fun w1 (hb : Below w.heap.size w w1) => isZero_c ao n c xs w1 (h.below hb) (by omega)
  have HZ2 := fun w1 (hb : Below w.heap.size w w1) => isZero_c bo m d ys w1 (k.below hb) (by omega)
  have HG := fun w1 (hb : Below w.heap.size w w1) => gcd_c ao bo n c m d xs ys w1 (h.below hb) (k.below hb) (by omega) (by omega)
  rw [← hX.out] at HZ1
  rw [← hY.out] at HZ2
  rw [← hX.out, ← hY.out] at HG ⊢
  have HZ1 := Lib.hid HZ1; have HZ2 := Lib.hid HZ2; have HG := Lib.hid HG
  have H := Lib.hid h; have K := Lib.hid k
  have bb := (Below.refl w.heap.size w).alloc (Nat.le_refl _) (.cells #[.bool false, .slice none 0 0, .slice none 0 0] 47)
  clear h k
  go_enter Tryd.func33, Tryd.ntmps33
  go_wp2_with fail
  refine (HZ1.out _ bb).mono ?_
  rintro e w' ⟨rfl, rfl⟩
  by_cases hx : X = 0
  · have hd : decide (X = 0) = true := by simpa using hx
    have HN := Lib.hid (nf_zero (x := ⟨s, X, Y⟩) (Or.inl hx))
    clear hx
    go_wp2_with fail
    refine (of_c 1 _ (by omega) (by omega)).mono ?_
    rintro e w2 ⟨a2, n2, c2, hn2, rfl, o2, b2⟩
    have hlen2 : n2 ≤ 1 := by rw [← o2.len, show Int.toNat 1 = 1 from rfl, limbs_1]; decide
    have k2 := (Blk.new w 47 #[.bool false, .slice none 0 0, .slice none 0 0]).on b2
    have BB := Lib.hid (bb.trans (b2.mono (by simp)))
    have O2 := Lib.hid o2
    obtain ⟨s0, s1, s2, s3, s4, s5⟩ := k2.store3 (.bool false) (.slice none 0 0)
    have K2 := Lib.hid k2
    clear k2 o2 b2
    go_wp2_with fail
    have k3 := K2.out.put3 (.bool false) (.slice none 0 0) (.slice a2 n2 c2)
    have b3 := below_put3 BB.out (Nat.le_refl _) (.bool false) (.slice none 0 0) (.slice a2 n2 c2)
    have o3 := O2.out.put3 (O2.out.hi (g := w.heap.size) (by simp)) (.bool false) (.slice none 0 0) (.slice a2 n2 c2)
    obtain ⟨W, hW⟩ : ∃ W, W = put3 w2 w.heap.size (.bool false) (.slice none 0 0) (.slice a2 n2 c2) := ⟨_, rfl⟩
    change bodyPost _ _ _ _ _ (put3 w2 w.heap.size (.bool false) (.slice none 0 0) (.slice a2 n2 c2))
    rw [← hW] at k3 b3 o3 ⊢
    obtain ⟨r0, r1, r2⟩ := k3.cells3
    refine bodyPost_ret (v := .agg #[.bool false, .slice none 0 0, .slice a2 n2 c2]) (by simp [results, Tryd.results33, go_sem, r0, r1, r2]) rfl ?_
    refine ⟨_, none, 0, 0, a2, n2, c2, rfl, by rw [HN.out]; rfl, ?_, ?_, Nat.zero_le _, by omega, b3⟩
    · rw [HN.out, show zero.p = 0 from rfl, limbs_zero]; exact own_nil _ _ _ _
    · rw [HN.out, show zero.q = 1 from rfl]
      exact o3.low (by simp)
  have hd : decide (X = 0) = false := by simpa using hx
  by_cases hy : Y = 0
  · have hd2 : decide (Y = 0) = true := by simpa using hy
    have HN := Lib.hid (nf_zero (x := ⟨s, X, Y⟩) (Or.inr hy))
    clear hx hy
    go_wp2_with fail
    refine (HZ2.out _ bb).mono ?_
    rintro e w' ⟨rfl, rfl⟩
    go_wp2_with fail
    refine (of_c 1 _ (by omega) (by omega)).mono ?_
    rintro e w2 ⟨a2, n2, c2, hn2, rfl, o2, b2⟩
    have hlen2 : n2 ≤ 1 := by rw [← o2.len, show Int.toNat 1 = 1 from rfl, limbs_1]; decide
    have k2 := (Blk.new w 47 #[.bool false, .slice none 0 0, .slice none 0 0]).on b2
    have BB := Lib.hid (bb.trans (b2.mono (by simp)))
    have O2 := Lib.hid o2
    obtain ⟨s0, s1, s2, s3, s4, s5⟩ := k2.store3 (.bool false) (.slice none 0 0)
    have K2 := Lib.hid k2
    clear k2 o2 b2
    go_wp2_with fail
    have k3 := K2.out.put3 (.bool false) (.slice none 0 0) (.slice a2 n2 c2)
    have b3 := below_put3 BB.out (Nat.le_refl _) (.bool false) (.slice none 0 0) (.slice a2 n2 c2)
    have o3 := O2.out.put3 (O2.out.hi (g := w.heap.size) (by simp)) (.bool false) (.slice none 0 0) (.slice a2 n2 c2)
    obtain ⟨W, hW⟩ : ∃ W, W = put3 w2 w.heap.size (.bool false) (.slice none 0 0) (.slice a2 n2 c2) := ⟨_, rfl⟩
    change bodyPost _ _ _ _ _ (put3 w2 w.heap.size (.bool false) (.slice none 0 0) (.slice a2 n2 c2))
    rw [← hW] at k3 b3 o3 ⊢
    obtain ⟨r0, r1, r2⟩ := k3.cells3
    refine bodyPost_ret (v := .agg #[.bool false, .slice none 0 0, .slice a2 n2 c2]) (by simp [results, Tryd.results33, go_sem, r0, r1, r2]) rfl ?_
    refine ⟨_, none, 0, 0, a2, n2, c2, rfl, by rw [HN.out]; rfl, ?_, ?_, Nat.zero_le _, by omega, b3⟩
    · rw [HN.out, show zero.p = 0 from rfl, limbs_zero]; exact own_nil _ _ _ _
    · rw [HN.out, show zero.q = 1 from rfl]
      exact o3.low (by simp)
  · have hd2 : decide (Y = 0) = false := by simpa using hy
    have HN := Lib.hid (nf_pos (x := ⟨s, X, Y⟩) hx hy)
    have hg0 : Nat.gcd X Y ≠ 0 := fun h0 => hx (Nat.eq_zero_of_gcd_eq_zero_left h0)
    have hXn := Lib.hid (limbs_val_length H.out.ok)
    have hYn := Lib.hid (limbs_val_length K.out.ok)
    rw [← hX.out, H.out.len] at hXn
    rw [← hY.out, K.out.len] at hYn
    have hgb : (limbs (Nat.gcd X Y)).length ≤ n := Nat.le_trans (limbs_len_mono (Nat.gcd_le_left Y (Nat.pos_of_ne_zero hx))) hXn.out
    obtain ⟨G, hG⟩ : ∃ G, Hid (G = Nat.gcd X Y) := ⟨_, rfl⟩
    rw [← hG.out] at HG hg0 hgb
    have HX := Lib.hid hx
    have HY := Lib.hid hy
    have HGB := Lib.hid hgb
    have HG0 := Lib.hid hg0
    clear hx hy hgb hg0
    go_wp2_with fail
    refine (HZ2.out _ bb).mono ?_
    rintro e w' ⟨rfl, rfl⟩
    go_wp2_with fail
    refine (HG.out _ bb).mono ?_
    rintro e w2 ⟨a2, n2, c2, rfl, o2, b2⟩
    have k2 := (Blk.new w 47 #[.bool false, .slice none 0 0, .slice none 0 0]).on b2
    have BB := Lib.hid (bb.trans (b2.mono (by simp)))
    have hn2 : n2 ≤ n := by rw [← o2.len]; exact HGB.out
    have D := o2.lst
    have hd1 := div_c ao a2 n c n2 c2 xs (limbs G) w2 (H.out.below BB.out) D (by omega) (by rw [val_limbs]; exact HG0.out)
    rw [val_limbs, ← hX.out] at hd1
    have HD1 := Lib.hid hd1
    have K2 := Lib.hid k2
    clear k2 o2 b2 hd1
    go_wp2_with fail
    refine HD1.out.mono ?_
    rintro e w3 ⟨a3, n3, c3, a4, n4, c4, rfl, o3, _, b3⟩
    have BB3 := Lib.hid (BB.out.trans (b3.mono BB.out.size))
    have K3 := Lib.hid (K2.out.on b3)
    have hn3 : n3 ≤ n := by
      rw [← o3.len]
      exact Nat.le_trans (limbs_len_mono (Nat.div_le_self X G)) hXn.out
    have O3 := Lib.hid (o3.low BB.out.size)
    have hlow3 := Lib.hid (o3.hi (g := w.heap.size) K2.out.lt)
    have D3 := D.below b3
    have hd2' := div_c bo a2 m d n2 c2 ys (limbs G) w3 (K.out.below BB3.out) D3 (by omega) (by rw [val_limbs]; exact HG0.out)
    rw [val_limbs, ← hY.out] at hd2'
    have HD2 := Lib.hid hd2'
    clear D D3 b3 hd2' HD1 o3
    go_wp2_with fail
    refine HD2.out.mono ?_
    rintro e w4 ⟨a5, n5, c5, a6, n6, c6, rfl, o5, _, b4⟩
    have BB := Lib.hid (BB3.out.trans (b4.mono BB3.out.size))
    have K2 := Lib.hid (K3.out.on b4)
    have hn5 : n5 ≤ m := by
      rw [← o5.len]
      exact Nat.le_trans (limbs_len_mono (Nat.div_le_self Y G)) hYn.out
    have O3 := Lib.hid (O3.out.kept b4)
    have hlow5 := Lib.hid (o5.hi (g := w.heap.size) K3.out.lt)
    have O5 := Lib.hid (o5.low BB3.out.size)
    obtain ⟨s0, s1, s2, s3, s4, s5⟩ := K2.out.store3 (.bool s) (.slice a3 n3 c3)
    clear o5 b4 HD2
    go_wp2_with fail
    have k3 := K2.out.put3 (.bool s) (.slice a3 n3 c3) (.slice a5 n5 c5)
    have b3 := below_put3 BB.out (Nat.le_refl _) (.bool s) (.slice a3 n3 c3) (.slice a5 n5 c5)
    have p3 := O3.out.put3 hlow3.out (.bool s) (.slice a3 n3 c3) (.slice a5 n5 c5)
    have p5 := O5.out.put3 hlow5.out (.bool s) (.slice a3 n3 c3) (.slice a5 n5 c5)
    obtain ⟨W, hW⟩ : ∃ W, W = put3 w4 w.heap.size (.bool s) (.slice a3 n3 c3) (.slice a5 n5 c5) := ⟨_, rfl⟩
    change bodyPost _ _ _ _ _ (put3 w4 w.heap.size (.bool s) (.slice a3 n3 c3) (.slice a5 n5 c5))
    rw [← hW] at k3 b3 p3 p5 ⊢
    obtain ⟨r0, r1, r2⟩ := k3.cells3
    refine bodyPost_ret (v := .agg #[.bool s, .slice a3 n3 c3, .slice a5 n5 c5]) (by simp [results, Tryd.results33, go_sem, r0, r1, r2]) rfl ?_
    refine ⟨_, a3, n3, c3, a5, n5, c5, rfl, by rw [HN.out], ?_, ?_, hn3, by omega, b3⟩
    · rw [HN.out, ← hG.out]; exact p3
    · rw [HN.out, ← hG.out]; exact p5
end Go.Proofs.YtgjndondonehhaaDoor

/-
  ratio.normal, ratio.divisible, ratio.negate.
-/
namespace Go.Proofs.YtgjndondonehhaaDoor
open Go.RowKit NatMath RatMath

set_option maxHeartbeats 3200000 in
set_option maxRecDepth 100000 in
theorem normal_c (s : Bool) (ao bo : Option Addr) (n c m d : Nat) (xs ys : List Int) (w : World) (h : Lst .u32 w ao n c xs) (k : Lst .u32 w bo m d ys) (hn : n ≤ 1000000) (hm : m ≤ 1000000) :
    Calls Tryd.prog 70 #[.agg #[.bool s, .slice ao n c, .slice bo m d]] w fun e w' => ∃ s' a n' c' b m' d', e = .returned (.agg #[.bool s', .slice a n' c', .slice b m' d']) ∧ s' = (nf ⟨s, val xs, val ys⟩).s ∧ Own 75 .u32 w.heap.size w' a n' c' (limbs (nf ⟨s, val xs, val ys⟩).p) ∧ Own 75 .u32 w.heap.size w' b m' d' (limbs (nf ⟨s, val xs, val ys⟩).q) ∧ n' ≤ n ∧ m' ≤ m + 1 ∧ Below w.heap.size w w' := by
  have HM := Lib.hid (fun w1 (hb : Below w.heap.size w w1) => make_c s ao bo n c m d xs ys w1 (h.below hb) (k.below hb) hn hm)
  clear h k
  go_enter Tryd.func70, Tryd.ntmps70
  go_wp2_with fail
  have bb : Below w.heap.size w ((w.alloc (.cells #[.bool s, .slice ao n c, .slice bo m d] 47)).alloc (.cells #[.bool false, .slice none 0 0, .slice none 0 0] 47)) := ((Below.refl w.heap.size w).alloc (Nat.le_refl _) _).alloc (by simp) _
  have kb := Blk.new (w.alloc (.cells #[.bool s, .slice ao n c, .slice bo m d] 47)) 47 #[.bool false, .slice none 0 0, .slice none 0 0]
  rw [show (w.alloc (.cells #[.bool s, .slice ao n c, .slice bo m d] 47)).heap.size = w.heap.size + 1 by simp] at kb
  obtain ⟨w1, hw1⟩ : ∃ w1, w1 = ((w.alloc (.cells #[.bool s, .slice ao n c, .slice bo m d] 47)).alloc (.cells #[.bool false, .slice none 0 0, .slice none 0 0] 47)) := ⟨_, rfl⟩
  rw [← hw1] at bb kb ⊢
  refine (HM.out w1 bb).mono ?_
  rintro e w2 ⟨s2, a2, n2, c2, b2, m2, d2, rfl, hs2, o2, o3, hn2, hm2, bb2⟩
  have K2 := kb.on bb2
  have BB := bb.trans (bb2.mono bb.size)
  have h2 := o2.hi (g := w.heap.size + 1) kb.lt
  have h3 := o3.hi (g := w.heap.size + 1) kb.lt
  have O2 := Lib.hid (o2.low bb.size)
  have O3 := Lib.hid (o3.low bb.size)
  obtain ⟨q0, q1, q2, q3, q4, q5⟩ := K2.store3 (.bool s2) (.slice a2 n2 c2)
  have HS := Lib.hid hs2
  clear hs2 hw1 kb bb bb2 o2 o3
  go_wp2_with fail
  have pbox := K2.put3 (.bool s2) (.slice a2 n2 c2) (.slice b2 m2 d2)
  have pbel := below_put3 BB (Nat.le_succ _) (.bool s2) (.slice a2 n2 c2) (.slice b2 m2 d2)
  have p2 := O2.out.put3 h2 (.bool s2) (.slice a2 n2 c2) (.slice b2 m2 d2)
  have p3 := O3.out.put3 h3 (.bool s2) (.slice a2 n2 c2) (.slice b2 m2 d2)
  obtain ⟨W, hW⟩ : ∃ W, W = put3 w2 (w.heap.size + 1) (.bool s2) (.slice a2 n2 c2) (.slice b2 m2 d2) := ⟨_, rfl⟩
  change bodyPost _ _ _ _ _ (put3 w2 (w.heap.size + 1) (.bool s2) (.slice a2 n2 c2) (.slice b2 m2 d2))
  rw [← hW] at pbox pbel p2 p3 ⊢
  obtain ⟨r0, r1, r2⟩ := pbox.cells3
  refine bodyPost_ret (v := .agg #[.bool s2, .slice a2 n2 c2, .slice b2 m2 d2]) (by simp [results, Tryd.results70, go_sem, r0, r1, r2]) rfl ?_
  exact ⟨s2, a2, n2, c2, b2, m2, d2, rfl, HS.out, p2, p3, hn2, hm2, pbel⟩

theorem negate_c (s : Bool) (ao bo : Option Addr) (n c m d : Nat) (w : World) :
    Calls Tryd.prog 73 #[.agg #[.bool s, .slice ao n c, .slice bo m d]] w fun e w' => e = .returned (.agg #[.bool !s, .slice ao n c, .slice bo m d]) ∧ Below w.heap.size w w' := by
  go_enter Tryd.func73, Tryd.ntmps73
  go_wp2_with fail
  exact bodyPost_ret (v := .agg #[.bool !s, .slice ao n c, .slice bo m d]) (by simp [results, Tryd.results73, go_sem]) rfl ⟨rfl, ((Below.refl _ _).alloc (Nat.le_refl _) _).alloc (by simp) _⟩

/-- A slice that came back lies in none of the elder blocks that the slice that went in kept clear of. -/
def Away (w : World) (n : Nat) (ao : Option Addr) (n' : Nat) (a : Option Addr) : Prop := ∀ g, g < w.heap.size → (∀ j, j < n → (pt ao j).block ≠ g) → ∀ i, i < n' → (pt a i).block ≠ g

set_option maxHeartbeats 3200000 in
set_option maxRecDepth 100000 in
theorem divisible_c (s : Bool) (ao bo : Option Addr) (n c m d : Nat) (xs ys : List Int) (w : World) (h : Lst .u32 w ao n c xs) (k : Lst .u32 w bo m d ys) (hn : n ≤ 1000000) (hm : m ≤ 1000000) :
    Calls Tryd.prog 92 #[.agg #[.bool s, .slice ao n c, .slice bo m d]] w fun e w' => ∃ s' a n' c' b m' d' xs' ys', e = .returned (.agg #[.bool s', .slice a n' c', .slice b m' d']) ∧ R.mk s' (val xs') (val ys') = dv ⟨s, val xs, val ys⟩ ∧ Lst .u32 w' a n' c' xs' ∧ Lst .u32 w' b m' d' ys' ∧ n' ≤ n ∧ m' ≤ m + 1 ∧ Away w n ao n' a ∧ Away w m bo m' b ∧ Below w.heap.size w w' := by
  have HZ := Lib.hid (fun w1 (hb : Below w.heap.size w w1) => isZero_c bo m d ys w1 (k.below hb) (by omega))
  have HM := Lib.hid (fun w1 (hb : Below w.heap.size w w1) => normal_c s ao bo n c m d xs ys w1 (h.below hb) (k.below hb) hn hm)
  have bb : Below w.heap.size w ((w.alloc (.cells #[.bool s, .slice ao n c, .slice bo m d] 47)).alloc (.cells #[.bool false, .slice none 0 0, .slice none 0 0] 47)) := ((Below.refl w.heap.size w).alloc (Nat.le_refl _) _).alloc (by simp) _
  by_cases hy : val ys = 0
  · have hd : decide (val ys = 0) = true := by simpa using hy
    rw [hd] at HZ
    have HN := Lib.hid (nf_zero (x := ⟨s, val xs, val ys⟩) (Or.inr hy))
    have HD : Hid (dv ⟨s, val xs, val ys⟩ = zero) := by show _ = _; unfold dv; rw [if_pos hy]
    have HK := Lib.hid hm
    clear hd hy h k
    go_enter Tryd.func92, Tryd.ntmps92
    go_wp2_with fail
    refine (HZ.out _ bb).mono ?_
    rintro e w' ⟨rfl, rfl⟩
    go_wp2_with fail
    have kb := Blk.new (w.alloc (.cells #[.bool s, .slice ao n c, .slice bo m d] 47)) 47 #[.bool false, .slice none 0 0, .slice none 0 0]
    rw [show (w.alloc (.cells #[.bool s, .slice ao n c, .slice bo m d] 47)).heap.size = w.heap.size + 1 by simp] at kb
    obtain ⟨w1, hw1⟩ : ∃ w1, w1 = ((w.alloc (.cells #[.bool s, .slice ao n c, .slice bo m d] 47)).alloc (.cells #[.bool false, .slice none 0 0, .slice none 0 0] 47)) := ⟨_, rfl⟩
    rw [← hw1] at bb kb ⊢
    refine (HM.out w1 bb).mono ?_
    rintro e w2 ⟨s2, a2, n2, c2, b2, m2, d2, rfl, hs2, o2, o3, hn2, hm2, bb2⟩
    have K2 := kb.on bb2
    have BB := bb.trans (bb2.mono bb.size)
    have h2 := o2.hi (g := w.heap.size + 1) kb.lt
    have h3 := o3.hi (g := w.heap.size + 1) kb.lt
    have O2 := Lib.hid (o2.low bb.size)
    have O3 := Lib.hid (o3.low bb.size)
    obtain ⟨q0, q1, q2, q3, q4, q5⟩ := K2.store3 (.bool s2) (.slice a2 n2 c2)
    rw [HN.out] at hs2
    have HS := Lib.hid hs2
    clear hs2 hw1 kb bb bb2 o2 o3
    go_wp2_with fail
    have pbox := K2.put3 (.bool s2) (.slice a2 n2 c2) (.slice b2 m2 d2)
    have pbel := below_put3 BB (Nat.le_succ _) (.bool s2) (.slice a2 n2 c2) (.slice b2 m2 d2)
    have p2 := O2.out.put3 h2 (.bool s2) (.slice a2 n2 c2) (.slice b2 m2 d2)
    have p3 := O3.out.put3 h3 (.bool s2) (.slice a2 n2 c2) (.slice b2 m2 d2)
    obtain ⟨W, hW⟩ : ∃ W, W = put3 w2 (w.heap.size + 1) (.bool s2) (.slice a2 n2 c2) (.slice b2 m2 d2) := ⟨_, rfl⟩
    change bodyPost _ _ _ _ _ (put3 w2 (w.heap.size + 1) (.bool s2) (.slice a2 n2 c2) (.slice b2 m2 d2))
    rw [← hW] at pbox pbel p2 p3 ⊢
    obtain ⟨r0, r1, r2⟩ := pbox.cells3
    refine bodyPost_ret (v := .agg #[.bool s2, .slice a2 n2 c2, .slice b2 m2 d2]) (by simp [results, Tryd.results92, go_sem, r0, r1, r2]) rfl ?_
    refine ⟨s2, a2, n2, c2, b2, m2, d2, _, _, rfl, ?_, p2.lst, p3.lst, hn2, hm2, fun g hg _ i hi => by have := p2.base hi; omega, fun g hg _ i hi => by have := p3.base hi; omega, pbel⟩
    rw [val_limbs, val_limbs, HS.out, HN.out, HD.out]
  · have hd : decide (val ys = 0) = false := by simpa using hy
    rw [hd] at HZ
    have HD : Hid (dv ⟨s, val xs, val ys⟩ = ⟨s, val xs, val ys⟩) := by show _ = _; unfold dv; rw [if_neg hy]
    have H := Lib.hid h; have K := Lib.hid k
    clear hd hy h k HM
    go_enter Tryd.func92, Tryd.ntmps92
    go_wp2_with fail
    refine (HZ.out _ bb).mono ?_
    rintro e w' ⟨rfl, rfl⟩
    clear bb
    go_wp2_with fail
    refine bodyPost_ret (v := .agg #[.bool s, .slice ao n c, .slice bo m d]) (by simp [results, Tryd.results92, go_sem]) rfl ?_
    have b2 : Below w.heap.size w ((w.alloc (.cells #[.bool s, .slice ao n c, .slice bo m d] 47)).alloc (.cells #[.bool s, .slice ao n c, .slice bo m d] 47)) := ((Below.refl w.heap.size w).alloc (Nat.le_refl _) _).alloc (by simp) _
    exact ⟨s, ao, n, c, bo, m, d, xs, ys, rfl, HD.out.symm, H.out.below b2, K.out.below b2, Nat.le_refl _, by omega, fun g _ h => h, fun g _ h => h, b2⟩
end Go.Proofs.YtgjndondonehhaaDoor

/-
  slices.Equal at Nat; ratio.Valid.
-/
namespace Go.Proofs.YtgjndondonehhaaDoor
open Go.RowKit NatMath RatMath

set_option maxHeartbeats 800000 in
theorem equal_c (ao bo : Option Addr) (n c m d : Nat) (xs ys : List Int) (w : World) (h : Lst .u32 w ao n c xs) (k : Lst .u32 w bo m d ys) :
    Calls Tryd.prog 71 #[.slice ao n c, .slice bo m d] w fun e w' => e = .returned (.bool (decide (xs = ys))) ∧ ∃ q, w.drewN q = w' := by
  have hroom := h.room
  have hcap := h.cap
  by_cases hne : n = m
  · subst hne
    go_enter Tryd.func71, Tryd.ntmps71
    go_wp2
    go_loopw [13] (fun i wr => ∃ j q : Nat, j ≤ n ∧ i = .int .i64 j ∧ w.drewN q = wr ∧ ∀ t, t < j → xs.getD t 0 = ys.getD t 0) (fun i _ => n - (intOf i).toNat)
    case atStart => exact ⟨0, 0, Nat.zero_le _, rfl, rfl, fun t ht => absurd ht (by omega)⟩
    case round =>
      obtain ⟨j, q, hj, rfl, rfl, hz⟩ := hrel
      have HZ := Lib.hid hz; clear hz
      by_cases hlt : j < n
      · have hia := ix h j hlt
        have hib := ix k j hlt
        obtain ⟨x, HX, hx0, hx1, hcx⟩ := h.at j hlt
        obtain ⟨y, HY, hy0, hy1, hcy⟩ := k.at j hlt
        by_cases hxy : x = y
        · subst hxy
          go_wp2
          go_quiet (fail)
          go_wp2
          go_roundw
          case rel => exact ⟨j + 1, _, by omega, by go_num, rfl, fun t ht => by
            by_cases e : t = j
            · rw [e, ← HX.out, ← HY.out]
            · exact HZ.out t (by omega)⟩
          case measure => simp [intOf]; omega
        · have hb : (x == y) = false := by simpa using hxy
          have hb' : (x != y) = true := by simpa using hxy
          go_wp2
          go_quiet (fail)
          go_wp2
          go_ret
          refine ⟨?_, dd _ _ _⟩
          have : xs ≠ ys := by
            intro e
            apply hxy
            rw [HX.out, HY.out, e]
          simp [this]
      · have he : xs = ys := list_eq_of (by rw [h.len, k.len]) (fun t => by
          by_cases e : t < j
          · exact HZ.out t e
          · rw [List.getD, List.getD, List.getElem?_eq_none (by rw [h.len]; omega), List.getElem?_eq_none (by rw [k.len]; omega)])
        have HE := Lib.hid he; clear he
        go_wp2
        go_ret
        exact ⟨by simp [HE.out], _, rfl⟩
  · have hb : ((n : Int) == (m : Int)) = false := by simp; omega
    have he : xs ≠ ys := by
      intro e
      apply hne
      rw [← h.len, ← k.len, e]
    have HE := Lib.hid he; clear he
    go_enter Tryd.func71, Tryd.ntmps71
    go_wp2
    go_ret
    exact ⟨by simp [HE.out], 0, rfl⟩


/-- In normal form. -/
def validR (s : Bool) (xs ys : List Int) : Bool := decide (s = (nf ⟨s, val xs, val ys⟩).s ∧ xs = limbs (nf ⟨s, val xs, val ys⟩).p ∧ ys = limbs (nf ⟨s, val xs, val ys⟩).q)

set_option maxHeartbeats 3200000 in
set_option maxRecDepth 100000 in
theorem valid_c (s : Bool) (ao bo : Option Addr) (n c m d : Nat) (xs ys : List Int) (w : World) (h : Lst .u32 w ao n c xs) (k : Lst .u32 w bo m d ys) (hn : n ≤ 1000000) (hm : m ≤ 1000000) :
    Calls Tryd.prog 34 #[.agg #[.bool s, .slice ao n c, .slice bo m d]] w fun e w' => e = .returned (.bool (validR s xs ys)) ∧ Below w.heap.size w w' := by
  have HN := Lib.hid (fun w1 (hb : Below w.heap.size w w1) => normal_c s ao bo n c m d xs ys w1 (h.below hb) (k.below hb) hn hm)
  obtain ⟨v, hv⟩ : ∃ v, Hid (v = validR s xs ys) := ⟨_, rfl⟩
  rw [← hv.out]
  have H := Lib.hid h; have K := Lib.hid k
  clear h k
  go_enter Tryd.func34, Tryd.ntmps34
  go_wp2_with fail
  have kA := Blk.new w 47 #[.bool s, .slice ao n c, .slice bo m d]
  have bb := (Below.refl w.heap.size w).alloc (Nat.le_refl _) (.cells #[.bool s, .slice ao n c, .slice bo m d] 47)
  obtain ⟨W0, hW0⟩ : ∃ W0, W0 = w.alloc (.cells #[.bool s, .slice ao n c, .slice bo m d] 47) := ⟨_, rfl⟩
  rw [← hW0] at kA bb ⊢
  clear hW0
  refine (HN.out W0 bb).mono ?_
  rintro e w1 ⟨t, a1, n1, c1, b1, m1, d1, rfl, ht, o1, o2, hn1, hm1, B1⟩
  have K1 := kA.on B1
  have BB1 := Lib.hid (bb.trans (B1.mono bb.size))
  have K2 := K1.alloc (.cells #[.bool t, .slice a1 n1 c1, .slice b1 m1 d1] 47)
  have F2 := Blk.new w1 47 #[.bool t, .slice a1 n1 c1, .slice b1 m1 d1]
  have BB2 := BB1.out.alloc BB1.out.size (.cells #[.bool t, .slice a1 n1 c1, .slice b1 m1 d1] 47)
  have L1 := o1.lst.below ((Below.refl w1.heap.size w1).alloc (Nat.le_refl _) (.cells #[.bool t, .slice a1 n1 c1, .slice b1 m1 d1] 47))
  have L2 := o2.lst.below ((Below.refl w1.heap.size w1).alloc (Nat.le_refl _) (.cells #[.bool t, .slice a1 n1 c1, .slice b1 m1 d1] 47))
  have M1 := H.out.below BB2
  have M2 := K.out.below BB2
  obtain ⟨y0, y1, y2⟩ := K2.cells3
  obtain ⟨yy0, yy1, yy2⟩ := F2.cells3
  obtain ⟨P, hP⟩ : ∃ P, Hid (P = limbs (nf ⟨s, val xs, val ys⟩).p) := ⟨_, rfl⟩
  obtain ⟨Q, hQ⟩ : ∃ Q, Hid (Q = limbs (nf ⟨s, val xs, val ys⟩).q) := ⟨_, rfl⟩
  rw [← hP.out] at L1
  rw [← hQ.out] at L2
  have hvv : v = decide (s = t ∧ xs = P ∧ ys = Q) := by rw [hv.out, hP.out, hQ.out, ht]; rfl
  have HV := Lib.hid hvv
  have E1 := equal_c _ _ _ _ _ _ _ _ _ M1 L1
  have E2 := fun q => equal_c _ _ _ _ _ _ _ _ _ (M2.drewN q) (L2.drewN q)
  have BB := Lib.hid BB2
  clear ht o1 o2 B1 bb kA K1 K2 F2 L1 L2 M1 M2 hvv BB2
  obtain ⟨W2, hW2⟩ : ∃ W2, W2 = w1.alloc (.cells #[.bool t, .slice a1 n1 c1, .slice b1 m1 d1] 47) := ⟨_, rfl⟩
  by_cases hs : s = t
  · subst hs
    have hbb : (s == s) = true := by simp
    by_cases hx : xs = P
    · have hd1 : decide (xs = P) = true := by simpa using hx
      have e2 : v = decide (ys = Q) := by rw [HV.out]; simp [hx]
      rw [hd1] at E1
      rw [← e2] at E2
      have E1 := Lib.hid E1; have E2 := Lib.hid E2
      clear hx hd1 e2 hW2
      go_wp2_with fail
      refine E1.out.mono ?_
      rintro e w' ⟨rfl, q, rfl⟩
      have B3 := Lib.hid (below_drewN BB.out q)
      go_wp2_with fail
      refine (E2.out q).mono ?_
      rintro e w' ⟨rfl, q2, rfl⟩
      go_wp2_with fail
      go_ret
      have B4 := below_drewN B3.out q2
      first
      | exact ⟨rfl, B4⟩
      | (rw [World.drewN_drewN] at B4; exact ⟨rfl, B4⟩)
    · have hd1 : decide (xs = P) = false := by simpa using hx
      have e2 : v = false := by rw [HV.out]; simp [hx]
      rw [hd1] at E1
      have E1 := Lib.hid E1
      subst e2
      clear hx hd1 hW2 E2
      go_wp2_with fail
      refine E1.out.mono ?_
      rintro e w' ⟨rfl, q, rfl⟩
      go_wp2_with fail
      go_ret
      exact ⟨rfl, below_drewN BB.out q⟩
  · have hbb : (s == t) = false := by simpa using hs
    have e2 : v = false := by rw [HV.out]; simp [hs]
    subst e2
    clear hs hW2 E1 E2
    go_wp2_with fail
    go_ret
    exact ⟨rfl, BB.out⟩
end Go.Proofs.YtgjndondonehhaaDoor

/-
  ratio.sum.
-/
namespace Go.Proofs.YtgjndondonehhaaDoor
open Go.RowKit NatMath RatMath

/-- A Ratio with this value lies in block g. -/
def RatAt (w : World) (g : Nat) (x : R) (K : Nat) : Prop := ∃ (t : Bool) (e : Option Addr) (p f : Nat) (h : Option Addr) (q i : Nat) (us vs : List Int),
  Blk w g 47 #[.bool t, .slice e p f, .slice h q i] ∧ R.mk t (val us) (val vs) = x ∧ Lst .u32 w e p f us ∧ Lst .u32 w h q i vs ∧ p ≤ K ∧ q ≤ K

set_option maxHeartbeats 3200000 in
set_option maxRecDepth 100000 in
theorem sum_c (s1 s2 : Bool) (a1 b1 a2 b2 : Option Addr) (n1 c1 m1 d1 n2 c2 m2 d2 K : Nat) (xs1 ys1 xs2 ys2 : List Int) (w : World)
    (h1 : Lst .u32 w a1 n1 c1 xs1) (k1 : Lst .u32 w b1 m1 d1 ys1) (h2 : Lst .u32 w a2 n2 c2 xs2) (k2 : Lst .u32 w b2 m2 d2 ys2) (hn1 : n1 ≤ K) (hm1 : m1 ≤ K) (hn2 : n2 ≤ K) (hm2 : m2 ≤ K) (hK : K ≤ 400000) :
    Calls Tryd.prog 72 #[.agg #[.bool s1, .slice a1 n1 c1, .slice b1 m1 d1], .agg #[.bool s2, .slice a2 n2 c2, .slice b2 m2 d2]] w fun e w' => ∃ s a n c b m d, e = .returned (.tuple #[.bool s, .slice a n c, .slice b m d]) ∧ s = (sm (dv ⟨s1, val xs1, val ys1⟩) (dv ⟨s2, val xs2, val ys2⟩)).s ∧
      Own 75 .u32 w.heap.size w' a n c (limbs (sm (dv ⟨s1, val xs1, val ys1⟩) (dv ⟨s2, val xs2, val ys2⟩)).p) ∧ Own 75 .u32 w.heap.size w' b m d (limbs (sm (dv ⟨s1, val xs1, val ys1⟩) (dv ⟨s2, val xs2, val ys2⟩)).q) ∧ n ≤ 2 * K + 4 ∧ m ≤ 2 * K + 4 ∧ Below w.heap.size w w' := by
  obtain ⟨x, hx⟩ : ∃ x, Hid (x = dv ⟨s1, val xs1, val ys1⟩) := ⟨_, rfl⟩
  obtain ⟨y, hy⟩ : ∃ y, Hid (y = dv ⟨s2, val xs2, val ys2⟩) := ⟨_, rfl⟩
  have D1 := fun w1 (hb : Below w.heap.size w w1) => divisible_c s1 a1 b1 n1 c1 m1 d1 xs1 ys1 w1 (h1.below hb) (k1.below hb) (by omega) (by omega)
  have D2 := fun w1 (hb : Below w.heap.size w w1) => divisible_c s2 a2 b2 n2 c2 m2 d2 xs2 ys2 w1 (h2.below hb) (k2.below hb) (by omega) (by omega)
  rw [← hx.out] at D1 ⊢
  rw [← hy.out] at D2 ⊢
  have D1 := Lib.hid D1; have D2 := Lib.hid D2
  have N1 := Lib.hid h1.block; have N2 := Lib.hid k1.block; have N3 := Lib.hid h2.block; have N4 := Lib.hid k2.block
  clear h1 k1 h2 k2
  go_enter Tryd.func72, Tryd.ntmps72
  go_wp2_with fail
  have A0 := (Blk.new w 47 #[.bool s1, .slice a1 n1 c1, .slice b1 m1 d1]).alloc (.cells #[.bool s2, .slice a2 n2 c2, .slice b2 m2 d2] 47)
  have C0 := Blk.new (w.alloc (.cells #[.bool s1, .slice a1 n1 c1, .slice b1 m1 d1] 47)) 47 #[.bool s2, .slice a2 n2 c2, .slice b2 m2 d2]
  rw [show (w.alloc (.cells #[.bool s1, .slice a1 n1 c1, .slice b1 m1 d1] 47)).heap.size = w.heap.size + 1 by simp] at C0
  have bb : Below w.heap.size w ((w.alloc (.cells #[.bool s1, .slice a1 n1 c1, .slice b1 m1 d1] 47)).alloc (.cells #[.bool s2, .slice a2 n2 c2, .slice b2 m2 d2] 47)) := ((Below.refl w.heap.size w).alloc (Nat.le_refl _) _).alloc (by simp) _
  obtain ⟨W0, hW0⟩ : ∃ W0, W0 = ((w.alloc (.cells #[.bool s1, .slice a1 n1 c1, .slice b1 m1 d1] 47)).alloc (.cells #[.bool s2, .slice a2 n2 c2, .slice b2 m2 d2] 47)) := ⟨_, rfl⟩
  rw [← hW0] at A0 C0 bb ⊢
  obtain ⟨x0, x1, x2⟩ := A0.cells3
  obtain ⟨y0, y1, y2⟩ := C0.cells3
  have BB : Hid (Below w.heap.size w W0.drew) := bb.drew
  have AA : Hid (Blk W0.drew w.heap.size 47 #[.bool s1, .slice a1 n1 c1, .slice b1 m1 d1]) := A0
  have CC : Hid (Blk W0.drew (w.heap.size + 1) 47 #[.bool s2, .slice a2 n2 c2, .slice b2 m2 d2]) := C0
  clear hW0 A0 C0 bb
  go_cut [14] (fun s14 wx => RatAt wx w.heap.size x (K + 1) ∧ RatAt wx (w.heap.size + 1) y (K + 1) ∧ Below w.heap.size w wx)
  case first =>
    go_region_with ((first
      | (go_at_call_of 92 (Value.agg #[Value.bool s1, Value.slice a1 n1 c1, Value.slice b1 m1 d1]); refine (D1.out W0.drew BB.out).mono ?_; rintro e v1 ⟨t1, e1, p1, f1, g1, q1, i1, us1, vs1, rfl, hx1, L1, M1, hp1, hq1, aw1, aw2, B1⟩; have A1 := AA.out.on B1; have C1 := CC.out.on B1; have B1' := BB.out.trans (B1.mono BB.out.size); obtain ⟨z0, z1, z2⟩ := C1.cells3)
      | (go_at_call 92; refine (D2.out v1 B1').mono ?_; rintro e v2 ⟨t2, e2, p2, f2, g2, q2, i2, us2, vs2, rfl, hy2, L2, M2, hp2, hq2, aw3, aw4, B2⟩; have A2 := A1.on B2; have C2 := C1.on B2; have B2' := B1'.trans (B2.mono B1'.size); obtain ⟨k0, k1, k2, k3, k4, k5⟩ := A2.store3 (.bool t1) (.slice e1 p1 f1); obtain ⟨j0, j1, j2, j3, j4, j5⟩ := (put3_other (g := w.heap.size) C2 (by omega) (.bool t1) (.slice e1 p1 f1) (.slice g1 q1 i1)).store3 (.bool t2) (.slice e2 p2 f2); unfold put3 at j0 j1 j2 j3 j4 j5)))
    all_goals
      go_wp2_with fail
      go_meet
      have hw0 : W0.drew.heap.size = W0.heap.size := rfl
      have hs0 := AA.out.lt
      have hs1 := CC.out.lt
      have hs2 := B1.size
      have X1 := ((L1.below B2).put3 (aw1 w.heap.size hs0 (fun j hj => by have := N1.out j hj; omega)) (.bool t1) (.slice e1 p1 f1) (.slice g1 q1 i1)).put3 (aw1 (w.heap.size + 1) hs1 (fun j hj => by have := N1.out j hj; omega)) (.bool t2) (.slice e2 p2 f2) (.slice g2 q2 i2)
      have X2 := ((M1.below B2).put3 (aw2 w.heap.size hs0 (fun j hj => by have := N2.out j hj; omega)) (.bool t1) (.slice e1 p1 f1) (.slice g1 q1 i1)).put3 (aw2 (w.heap.size + 1) hs1 (fun j hj => by have := N2.out j hj; omega)) (.bool t2) (.slice e2 p2 f2) (.slice g2 q2 i2)
      have X3 := (L2.put3 (aw3 w.heap.size (by omega) (fun j hj => by have := N3.out j hj; omega)) (.bool t1) (.slice e1 p1 f1) (.slice g1 q1 i1)).put3 (aw3 (w.heap.size + 1) (by omega) (fun j hj => by have := N3.out j hj; omega)) (.bool t2) (.slice e2 p2 f2) (.slice g2 q2 i2)
      have X4 := (M2.put3 (aw4 w.heap.size (by omega) (fun j hj => by have := N4.out j hj; omega)) (.bool t1) (.slice e1 p1 f1) (.slice g1 q1 i1)).put3 (aw4 (w.heap.size + 1) (by omega) (fun j hj => by have := N4.out j hj; omega)) (.bool t2) (.slice e2 p2 f2) (.slice g2 q2 i2)
      have Y1 := put3_other (g := w.heap.size + 1) (A2.put3 (.bool t1) (.slice e1 p1 f1) (.slice g1 q1 i1)) (by omega) (.bool t2) (.slice e2 p2 f2) (.slice g2 q2 i2)
      have Y2 := (put3_other (g := w.heap.size) C2 (by omega) (.bool t1) (.slice e1 p1 f1) (.slice g1 q1 i1)).put3 (.bool t2) (.slice e2 p2 f2) (.slice g2 q2 i2)
      have Y3 := below_put3 (g := w.heap.size + 1) (below_put3 (g := w.heap.size) B2' (Nat.le_refl _) (.bool t1) (.slice e1 p1 f1) (.slice g1 q1 i1)) (Nat.le_succ _) (.bool t2) (.slice e2 p2 f2) (.slice g2 q2 i2)
      exact ⟨⟨t1, e1, p1, f1, g1, q1, i1, us1, vs1, Y1, hx1, X1, X2, by omega, by omega⟩, ⟨t2, e2, p2, f2, g2, q2, i2, us2, vs2, Y2, hy2, X3, X4, by omega, by omega⟩, Y3⟩
  case rest =>
    obtain ⟨⟨t1, e1, p1, f1, g1, q1, i1, us1, vs1, A, hx1, L1, M1, hp1, hq1⟩, ⟨t2, e2, p2, f2, g2, q2, i2, us2, vs2, C, hy2, L2, M2, hp2, hq2⟩, bb⟩ := hcut
    obtain ⟨x0, x1, x2⟩ := A.cells3
    obtain ⟨y0, y1, y2⟩ := C.cells3
    go_wp2_with fail
    have DL1 : Hid (Lst .u32 wc.drew e1 p1 f1 us1) := L1.drewN 1
    have DM1 : Hid (Lst .u32 wc.drew g1 q1 i1 vs1) := M1.drewN 1
    have DL2 : Hid (Lst .u32 wc.drew e2 p2 f2 us2) := L2.drewN 1
    have DM2 : Hid (Lst .u32 wc.drew g2 q2 i2 vs2) := M2.drewN 1
    have DA : Hid (Blk wc.drew w.heap.size 47 #[.bool t1, .slice e1 p1 f1, .slice g1 q1 i1]) := A
    have DC : Hid (Blk wc.drew (w.heap.size + 1) 47 #[.bool t2, .slice e2 p2 f2, .slice g2 q2 i2]) := C
    have DB : Hid (Below w.heap.size w wc.drew) := bb.drew
    clear L1 M1 L2 M2 A C bb
    go_region_held3 (fun w' => w'.cell? ⟨w.heap.size, 0, none⟩ = some (.bool t1) ∧ w'.cell? ⟨w.heap.size, 1, none⟩ = some (.slice e1 p1 f1) ∧ w'.cell? ⟨w.heap.size, 2, none⟩ = some (.slice g1 q1 i1) ∧ w'.cell? ⟨w.heap.size + 1, 0, none⟩ = some (.bool t2) ∧ w'.cell? ⟨w.heap.size + 1, 1, none⟩ = some (.slice e2 p2 f2) ∧ w'.cell? ⟨w.heap.size + 1, 2, none⟩ = some (.slice g2 q2 i2)) (go_keep) (first
      | (go_at_call_of 21 (Value.slice e1 p1 f1); refine (mul_c _ _ _ _ _ _ us1 vs2 wc.drew DL1.out DM2.out (by omega) (by omega)).mono ?_; rintro e v1 ⟨a3, n3, c3, rfl, hn3, o3, B1⟩; have A1 := DA.out.on B1; have C1 := DC.out.on B1; obtain ⟨z0, z1, z2⟩ := A1.cells3; obtain ⟨zz0, zz1, zz2⟩ := C1.cells3)
      | (go_at_call 21; refine (mul_c _ _ _ _ _ _ us2 vs1 v1 (DL2.out.below B1) (DM1.out.below B1) (by omega) (by omega)).mono ?_; rintro e v2 ⟨a4, n4, c4, rfl, hn4, o4, B2⟩; have A2 := A1.on B2; have C2 := C1.on B2; obtain ⟨k0, k1, k2⟩ := A2.cells3; obtain ⟨kk0, kk1, kk2⟩ := C2.cells3))
    have EL1 := Lib.hid ((DL1.out.below B1).below B2)
    have EM1 := Lib.hid ((DM1.out.below B1).below B2)
    have EL2 := Lib.hid ((DL2.out.below B1).below B2)
    have EM2 := Lib.hid ((DM2.out.below B1).below B2)
    have EX := Lib.hid (o3.kept B2)
    have EY := Lib.hid o4
    have B12 : Below wc.drew.heap.size wc.drew v2 := B1.trans (B2.mono B1.size)
    have BB2 := Lib.hid (DB.out.trans (B12.mono DB.out.size))
    have A3 := A2
    have hsz : Hid (wc.drew.heap.size ≤ v1.heap.size ∧ w.heap.size ≤ wc.drew.heap.size) := ⟨B1.size, DB.out.size⟩
    clear A1 C1 z0 z1 z2 zz0 zz1 zz2 o3 o4 B1 B2 B12 DL1 DM1 DL2 DM2 DA DC DB
    go_wp2_with fail
    refine (mul_c _ _ _ _ _ _ vs1 vs2 v2 EM1.out EM2.out (by omega) (by omega)).mono ?_
    rintro e v3 ⟨a5, n5, c5, rfl, hn5, o5, B3⟩
    have F1 := Lib.hid ((EX.out.kept B3).low hsz.out.2)
    have F2 := Lib.hid ((EY.out.kept B3).low (Nat.le_trans hsz.out.2 hsz.out.1))
    have F3 := Lib.hid (o5.low BB2.out.size)
    have BB3 := Lib.hid (BB2.out.trans (B3.mono BB2.out.size))
    have A4 := A2.on B3
    have C4 := C2.on B3
    obtain ⟨k0, k1, k2⟩ := A4.cells3
    obtain ⟨kk0, kk1, kk2⟩ := C4.cells3
    clear A2 C2 A3 EX EY o5 B3 EL1 EM1 EL2 EM2
    obtain ⟨P, hP⟩ : ∃ P, Hid (P = val us1 * val vs2) := ⟨_, rfl⟩
    obtain ⟨S, hS⟩ : ∃ S, Hid (S = val us2 * val vs1) := ⟨_, rfl⟩
    obtain ⟨D, hD⟩ : ∃ D, Hid (D = val vs1 * val vs2) := ⟨_, rfl⟩
    rw [← hP.out] at F1
    rw [← hS.out] at F2
    rw [← hD.out] at F3
    by_cases hs : t1 = t2
    · subst hs
      have hsm : sm x y = ⟨t1, P + S, D⟩ := by
        rw [← hx1, ← hy2, hP.out, hS.out, hD.out]
        unfold sm
        rw [if_pos rfl]
      have HSM := Lib.hid hsm
      clear hsm
      have hbeq : (t1 == t1) = true := by simp
      have H1 : Hid (Lst .u32 v3.drew a3 n3 c3 (limbs P)) := F1.out.lst.drewN 1
      have H2 : Hid (Lst .u32 v3.drew a4 n4 c4 (limbs S)) := F2.out.lst.drewN 1
      have H3 : Hid (Own 75 .u32 w.heap.size v3.drew a5 n5 c5 (limbs D)) := F3.out.drewN 1
      have HB : Hid (Below w.heap.size w v3.drew) := BB3.out.drew
      have HA : Hid (Blk v3.drew w.heap.size 47 #[.bool t1, .slice e1 p1 f1, .slice g1 q1 i1]) := A4
      have HC : Hid (Blk v3.drew (w.heap.size + 1) 47 #[.bool t1, .slice e2 p2 f2, .slice g2 q2 i2]) := C4
      clear A4 C4
      go_wp2_with fail
      go_region_held3 (fun w' => w'.cell? ⟨w.heap.size, 0, none⟩ = some (.bool t1) ∧ w'.cell? ⟨w.heap.size + 1, 0, none⟩ = some (.bool t1)) (go_keep) (first
        | (go_at_call 20; refine (add_c _ _ _ _ _ _ _ _ v3.drew H1.out H2.out (by omega) (by omega)).mono ?_; rintro e v4 ⟨a6, n6, c6, rfl, hn6, o6, B4⟩; have A5 := HA.out.on B4; have C5 := HC.out.on B4; obtain ⟨l0, l1, l2⟩ := A5.cells3; obtain ⟨ll0, ll1, ll2⟩ := C5.cells3))
      go_wp2_with fail
      go_ret3
      rw [val_limbs, val_limbs] at o6
      rw [HSM.out]
      exact ⟨t1, a6, n6, c6, a5, n5, c5, rfl, rfl, o6.low HB.out.size, H3.out.kept B4, by omega, by omega, HB.out.trans (B4.mono HB.out.size)⟩
    · have hbeq : (t1 == t2) = false := by simpa using hs
      have HSU := sub_c a3 a4 n3 c3 n4 c4 (limbs P) (limbs S) v3 F1.out.lst F2.out.lst (by omega)
      rw [val_limbs, val_limbs] at HSU
      by_cases hle : S ≤ P
      · have hd : decide (S ≤ P) = true := by simpa using hle
        rw [hd] at HSU
        have hsm : sm x y = ⟨t1, P - S, D⟩ := by
          rw [← hx1, ← hy2, hP.out, hS.out, hD.out]
          unfold sm
          rw [if_neg hs, if_pos (by rw [hP.out, hS.out] at hle; exact hle)]
        have HSM := Lib.hid hsm
        have HSU := Lib.hid HSU
        clear hsm hd hle hs
        go_wp2_with fail
        refine HSU.out.mono ?_
        rintro e v4 ⟨a6, n6, c6, rfl, o6, B4⟩
        have A5 := A4.on B4
        have C5 := C4.on B4
        obtain ⟨l0, l1, l2⟩ := A5.cells3
        obtain ⟨ll0, ll1, ll2⟩ := C5.cells3
        have hn6 : n6 ≤ n3 := by rw [← o6.len, ← F1.out.len]; exact limbs_len_mono (Nat.sub_le _ _)
        have O6 := Lib.hid (o6.low BB3.out.size)
        have O5 := Lib.hid (F3.out.kept B4)
        have BB4 := Lib.hid (BB3.out.trans (B4.mono BB3.out.size))
        clear A4 C4 k0 k1 k2 kk0 kk1 kk2 o6 B4 HSU
        go_wp2_with fail
        go_ret3
        rw [HSM.out]
        exact ⟨t1, a6, n6, c6, a5, n5, c5, rfl, rfl, O6.out, O5.out, by omega, by omega, BB4.out⟩
      · have hd : decide (S ≤ P) = false := by simpa using hle
        rw [hd] at HSU
        have hsm : sm x y = ⟨t2, S - P, D⟩ := by
          rw [← hx1, ← hy2, hP.out, hS.out, hD.out]
          unfold sm
          rw [if_neg hs, if_neg (by rw [hP.out, hS.out] at hle; exact hle)]
        have HSM := Lib.hid hsm
        have HSU := Lib.hid HSU
        clear hsm hd hle hs
        go_wp2_with fail
        refine HSU.out.mono ?_
        rintro e v4 ⟨a6, n6, c6, rfl, o6, B4⟩
        have A5 := A4.on B4
        have C5 := C4.on B4
        obtain ⟨l0, l1, l2⟩ := A5.cells3
        obtain ⟨ll0, ll1, ll2⟩ := C5.cells3
        have BB4 := Lib.hid (BB3.out.trans (B4.mono BB3.out.size))
        have HS2 := sub_c a4 a3 n4 c4 n3 c3 (limbs S) (limbs P) v4 (F2.out.kept B4).lst (F1.out.kept B4).lst (by omega)
        rw [val_limbs, val_limbs] at HS2
        obtain ⟨bq, hbq⟩ : ∃ bq, Hid (bq = decide (P ≤ S)) := ⟨_, rfl⟩
        rw [← hbq.out] at HS2
        have HS2 := Lib.hid HS2
        have O5 := Lib.hid (F3.out.kept B4)
        have AA5 := Lib.hid A5
        have CC5 := Lib.hid C5
        clear A4 C4 k0 k1 k2 kk0 kk1 kk2 o6 B4 HSU A5 C5
        go_wp2_with fail
        refine HS2.out.mono ?_
        rintro e v5 ⟨a7, n7, c7, rfl, o7, B5⟩
        have A6 := AA5.out.on B5
        have C6 := CC5.out.on B5
        obtain ⟨i0, i1', i2'⟩ := A6.cells3
        obtain ⟨ii0, ii1, ii2⟩ := C6.cells3
        have hn7 : n7 ≤ n4 := by rw [← o7.len, ← F2.out.len]; exact limbs_len_mono (Nat.sub_le _ _)
        have O7 := Lib.hid (o7.low BB4.out.size)
        have O8 := Lib.hid (O5.out.kept B5)
        have BB5 := Lib.hid (BB4.out.trans (B5.mono BB4.out.size))
        clear A6 C6 l0 l1 l2 ll0 ll1 ll2 o7 B5 HS2
        go_wp2_with fail
        go_ret3
        rw [HSM.out]
        exact ⟨t2, a7, n7, c7, a5, n5, c5, rfl, rfl, O7.out, O8.out, by omega, by omega, BB5.out⟩
end Go.Proofs.YtgjndondonehhaaDoor

/-
  ratio.Add, ratio.Mul, ratio.Div, ratio.Cmp, ratio.Floor.
-/
namespace Go.Proofs.YtgjndondonehhaaDoor
open Go.RowKit NatMath RatMath

set_option maxHeartbeats 3200000 in
set_option maxRecDepth 100000 in
theorem radd_c (s1 s2 : Bool) (a1 b1 a2 b2 : Option Addr) (n1 c1 m1 d1 n2 c2 m2 d2 K : Nat) (xs1 ys1 xs2 ys2 : List Int) (w : World)
    (h1 : Lst .u32 w a1 n1 c1 xs1) (k1 : Lst .u32 w b1 m1 d1 ys1) (h2 : Lst .u32 w a2 n2 c2 xs2) (k2 : Lst .u32 w b2 m2 d2 ys2) (hn1 : n1 ≤ K) (hm1 : m1 ≤ K) (hn2 : n2 ≤ K) (hm2 : m2 ≤ K) (hK : K ≤ 400000) :
    Calls Tryd.prog 38 #[.agg #[.bool s1, .slice a1 n1 c1, .slice b1 m1 d1], .agg #[.bool s2, .slice a2 n2 c2, .slice b2 m2 d2]] w fun e w' => ∃ s a n c b m d, e = .returned (.agg #[.bool s, .slice a n c, .slice b m d]) ∧ s = (nf (sm (dv ⟨s1, val xs1, val ys1⟩) (dv ⟨s2, val xs2, val ys2⟩))).s ∧ Own 75 .u32 w.heap.size w' a n c (limbs (nf (sm (dv ⟨s1, val xs1, val ys1⟩) (dv ⟨s2, val xs2, val ys2⟩))).p) ∧ Own 75 .u32 w.heap.size w' b m d (limbs (nf (sm (dv ⟨s1, val xs1, val ys1⟩) (dv ⟨s2, val xs2, val ys2⟩))).q) ∧ n ≤ 2 * K + 4 ∧ m ≤ 2 * K + 5 ∧ Below w.heap.size w w' := by
  have HS := fun w1 (hb : Below w.heap.size w w1) => sum_c s1 s2 a1 b1 a2 b2 n1 c1 m1 d1 n2 c2 m2 d2 K xs1 ys1 xs2 ys2 w1 (h1.below hb) (k1.below hb) (h2.below hb) (k2.below hb) hn1 hm1 hn2 hm2 hK
  obtain ⟨z, hz⟩ : ∃ z, Hid (z = sm (dv ⟨s1, val xs1, val ys1⟩) (dv ⟨s2, val xs2, val ys2⟩)) := ⟨_, rfl⟩
  rw [← hz.out] at HS ⊢
  have HS := Lib.hid HS
  clear h1 k1 h2 k2
  go_enter Tryd.func38, Tryd.ntmps38
  go_wp2_with fail
  obtain ⟨W0, hW0, kA, kB, kZ, bb⟩ := boxed3 w 47 #[.bool s1, .slice a1 n1 c1, .slice b1 m1 d1] #[.bool s2, .slice a2 n2 c2, .slice b2 m2 d2] #[.bool false, .slice none 0 0, .slice none 0 0]
  rw [← hW0]
  refine (HS.out W0 bb).mono ?_
  rintro e w2 ⟨s, a, n, c, b, m, d, rfl, hs, o1, o2, hn, hm, bb2⟩
  have kZ2 := kZ.on bb2
  have BB2 := bb.trans (bb2.mono bb.size)
  have hmk := make_c s a b n c m d (limbs z.p) (limbs z.q) w2 o1.lst o2.lst (by omega) (by omega)
  rw [val_limbs, val_limbs, hs] at hmk
  have HM := Lib.hid hmk
  subst hs
  clear hmk o1 o2 bb2 kA kB kZ bb hW0 HS
  go_wp2_with fail
  refine HM.out.mono ?_
  rintro e w3 ⟨s3, a3, n3, c3, b3, m3, d3, rfl, hs3, o3, o4, hn3, hm3, bb3⟩
  have K3 := kZ2.on bb3
  have BB3 := BB2.trans (bb3.mono BB2.size)
  have h3 := o3.hi (g := w.heap.size + 1 + 1) kZ2.lt
  have h4 := o4.hi (g := w.heap.size + 1 + 1) kZ2.lt
  have O3 := Lib.hid (o3.low BB2.size)
  have O4 := Lib.hid (o4.low BB2.size)
  obtain ⟨q0, q1, q2, q3, q4, q5⟩ := K3.store3 (.bool s3) (.slice a3 n3 c3)
  have HS3 := Lib.hid hs3
  clear hs3 bb3 o3 o4
  go_wp2_with fail
  have pbox := K3.put3 (.bool s3) (.slice a3 n3 c3) (.slice b3 m3 d3)
  have pbel := below_put3 BB3 (show w.heap.size ≤ w.heap.size + 1 + 1 by omega) (.bool s3) (.slice a3 n3 c3) (.slice b3 m3 d3)
  have p3 := O3.out.put3 h3 (.bool s3) (.slice a3 n3 c3) (.slice b3 m3 d3)
  have p4 := O4.out.put3 h4 (.bool s3) (.slice a3 n3 c3) (.slice b3 m3 d3)
  obtain ⟨W, hW⟩ : ∃ W, W = put3 w3 (w.heap.size + 1 + 1) (.bool s3) (.slice a3 n3 c3) (.slice b3 m3 d3) := ⟨_, rfl⟩
  change bodyPost _ _ _ _ _ (put3 w3 (w.heap.size + 1 + 1) (.bool s3) (.slice a3 n3 c3) (.slice b3 m3 d3))
  rw [← hW] at pbox pbel p3 p4 ⊢
  obtain ⟨r0, r1, r2⟩ := pbox.cells3
  refine bodyPost_ret (v := .agg #[.bool s3, .slice a3 n3 c3, .slice b3 m3 d3]) (by simp [results, Tryd.results38, go_sem, r0, r1, r2]) rfl ?_
  exact ⟨s3, a3, n3, c3, b3, m3, d3, rfl, HS3.out, p3, p4, by omega, by omega, pbel⟩

set_option maxHeartbeats 6400000 in
set_option maxRecDepth 100000 in
theorem rmul_c (s1 s2 : Bool) (a1 b1 a2 b2 : Option Addr) (n1 c1 m1 d1 n2 c2 m2 d2 K : Nat) (xs1 ys1 xs2 ys2 : List Int) (w : World)
    (h1 : Lst .u32 w a1 n1 c1 xs1) (k1 : Lst .u32 w b1 m1 d1 ys1) (h2 : Lst .u32 w a2 n2 c2 xs2) (k2 : Lst .u32 w b2 m2 d2 ys2) (hn1 : n1 ≤ K) (hm1 : m1 ≤ K) (hn2 : n2 ≤ K) (hm2 : m2 ≤ K) (hK : K ≤ 400000) :
    Calls Tryd.prog 37 #[.agg #[.bool s1, .slice a1 n1 c1, .slice b1 m1 d1], .agg #[.bool s2, .slice a2 n2 c2, .slice b2 m2 d2]] w fun e w' => ∃ s a n c b m d, e = .returned (.agg #[.bool s, .slice a n c, .slice b m d]) ∧ s = (nf (ml ⟨s1, val xs1, val ys1⟩ ⟨s2, val xs2, val ys2⟩)).s ∧ Own 75 .u32 w.heap.size w' a n c (limbs (nf (ml ⟨s1, val xs1, val ys1⟩ ⟨s2, val xs2, val ys2⟩)).p) ∧ Own 75 .u32 w.heap.size w' b m d (limbs (nf (ml ⟨s1, val xs1, val ys1⟩ ⟨s2, val xs2, val ys2⟩)).q) ∧ n ≤ 2 * K + 4 ∧ m ≤ 2 * K + 5 ∧ Below w.heap.size w w' := by
  have HX := fun w1 (hb : Below w.heap.size w w1) => mul_c a1 a2 n1 c1 n2 c2 xs1 xs2 w1 (h1.below hb) (h2.below hb) (by omega) (by omega)
  have HY := fun w1 (hb : Below w.heap.size w w1) => mul_c b1 b2 m1 d1 m2 d2 ys1 ys2 w1 (k1.below hb) (k2.below hb) (by omega) (by omega)
  have HX := Lib.hid HX; have HY := Lib.hid HY
  clear h1 k1 h2 k2
  go_enter Tryd.func37, Tryd.ntmps37
  go_wp2_with fail
  obtain ⟨W0, hW0, kA, kB, kZ, bb⟩ := boxed3 w 47 #[.bool s1, .slice a1 n1 c1, .slice b1 m1 d1] #[.bool s2, .slice a2 n2 c2, .slice b2 m2 d2] #[.bool false, .slice none 0 0, .slice none 0 0]
  rw [← hW0]
  obtain ⟨g2, hg2⟩ : ∃ g2, g2 = w.heap.size + 1 + 1 := ⟨_, rfl⟩
  rw [← hg2] at kZ ⊢
  have hge : w.heap.size ≤ g2 := by omega
  have hne0 : w.heap.size ≠ g2 := by omega
  have hne1 : w.heap.size + 1 ≠ g2 := by omega
  have hne2 : g2 ≠ w.heap.size := by omega
  have hne3 : g2 ≠ w.heap.size + 1 := by omega
  have HG2 := Lib.hid hg2
  clear hg2
  have DA : Hid (Blk W0.drew w.heap.size 47 #[.bool s1, .slice a1 n1 c1, .slice b1 m1 d1]) := kA
  have DC : Hid (Blk W0.drew (w.heap.size + 1) 47 #[.bool s2, .slice a2 n2 c2, .slice b2 m2 d2]) := kB
  have DZ : Hid (Blk W0.drew g2 47 #[.bool false, .slice none 0 0, .slice none 0 0]) := kZ
  have DB : Hid (Below w.heap.size w W0.drew) := bb.drew
  obtain ⟨y0, y1, y2⟩ := kA.cells3
  obtain ⟨yy0, yy1, yy2⟩ := kB.cells3
  clear kA kB kZ bb hW0
  go_region_held3 (fun w' => w'.cell? ⟨w.heap.size, 0, none⟩ = some (.bool s1) ∧ w'.cell? ⟨w.heap.size, 1, none⟩ = some (.slice a1 n1 c1) ∧ w'.cell? ⟨w.heap.size, 2, none⟩ = some (.slice b1 m1 d1) ∧ w'.cell? ⟨w.heap.size + 1, 0, none⟩ = some (.bool s2) ∧ w'.cell? ⟨w.heap.size + 1, 1, none⟩ = some (.slice a2 n2 c2) ∧ w'.cell? ⟨w.heap.size + 1, 2, none⟩ = some (.slice b2 m2 d2)) (go_keep) (first
    | (go_at_call_of 21 (Value.slice a1 n1 c1); refine (HX.out W0.drew DB.out).mono ?_; rintro e v1 ⟨a3, n3, c3, rfl, hn3, o3, B1⟩; have A1 := DA.out.on B1; have C1 := DC.out.on B1; obtain ⟨z0, z1, z2⟩ := A1.cells3; obtain ⟨zz0, zz1, zz2⟩ := C1.cells3; have Z1 := DZ.out.on B1; have BB1 := DB.out.trans (B1.mono DB.out.size))
    | (go_at_call 21; refine (HY.out v1 BB1).mono ?_; rintro e v2 ⟨a4, n4, c4, rfl, hn4, o4, B2⟩; have A2 := A1.on B2; have C2 := C1.on B2; obtain ⟨k0, k1, k2⟩ := A2.cells3; obtain ⟨kk0, kk1, kk2⟩ := C2.cells3; have Z2 := Z1.on B2; have BB2 := BB1.trans (B2.mono BB1.size); have o3' := o3.kept B2)
    | (go_at_call 33; refine (make_c _ _ _ _ _ _ _ _ _ v2 o3'.lst o4.lst (by omega) (by omega)).mono ?_; rintro e v3 ⟨s5, a5, n5, c5, b5, m5, d5, rfl, hs5, o5, o6, hn5, hm5, B3⟩; have A3 := A2.on B3; have C3 := C2.on B3; obtain ⟨l0, l1, l2⟩ := A3.cells3; obtain ⟨ll0, ll1, ll2⟩ := C3.cells3; have Z3 := Z2.on B3; have BB3 := BB2.trans (B3.mono BB2.size); obtain ⟨q0, q1, q2, q3, q4, q5⟩ := Z3.store3 (.bool s5) (.slice a5 n5 c5); have HS5 := Lib.hid hs5; clear hs5))
  go_wp2_with fail
  have h3 := o5.hi (g := g2) Z2.lt
  have h4 := o6.hi (g := g2) Z2.lt
  have O3 := o5.low BB2.size
  have O4 := o6.low BB2.size
  have hs5 := HS5.out
  rw [val_limbs, val_limbs] at O3 O4 hs5
  have pbox := Z3.put3 (.bool s5) (.slice a5 n5 c5) (.slice b5 m5 d5)
  have pbel := below_put3 BB3 hge (.bool s5) (.slice a5 n5 c5) (.slice b5 m5 d5)
  have p3 := O3.put3 h3 (.bool s5) (.slice a5 n5 c5) (.slice b5 m5 d5)
  have p4 := O4.put3 h4 (.bool s5) (.slice a5 n5 c5) (.slice b5 m5 d5)
  obtain ⟨W, hW⟩ : ∃ W, W = put3 v3 g2 (.bool s5) (.slice a5 n5 c5) (.slice b5 m5 d5) := ⟨_, rfl⟩
  change bodyPost _ _ _ _ _ (put3 v3 g2 (.bool s5) (.slice a5 n5 c5) (.slice b5 m5 d5))
  rw [← hW] at pbox pbel p3 p4 ⊢
  obtain ⟨r0, r1, r2⟩ := pbox.cells3
  refine bodyPost_ret (v := .agg #[.bool s5, .slice a5 n5 c5, .slice b5 m5 d5]) (by simp [results, Tryd.results37, go_sem, r0, r1, r2]) rfl ?_
  exact ⟨s5, a5, n5, c5, b5, m5, d5, rfl, hs5, p3, p4, by omega, by omega, pbel⟩
end Go.Proofs.YtgjndondonehhaaDoor

/-
  ratio.Cmp, ratio.Div, ratio.Floor.
-/
namespace Go.Proofs.YtgjndondonehhaaDoor
open Go.RowKit NatMath RatMath

set_option maxHeartbeats 3200000 in
set_option maxRecDepth 100000 in
theorem rcmp_c (s1 s2 : Bool) (a1 b1 a2 b2 : Option Addr) (n1 c1 m1 d1 n2 c2 m2 d2 K : Nat) (xs1 ys1 xs2 ys2 : List Int) (w : World)
    (h1 : Lst .u32 w a1 n1 c1 xs1) (k1 : Lst .u32 w b1 m1 d1 ys1) (h2 : Lst .u32 w a2 n2 c2 xs2) (k2 : Lst .u32 w b2 m2 d2 ys2) (hn1 : n1 ≤ K) (hm1 : m1 ≤ K) (hn2 : n2 ≤ K) (hm2 : m2 ≤ K) (hK : K ≤ 400000) :
    Calls Tryd.prog 40 #[.agg #[.bool s1, .slice a1 n1 c1, .slice b1 m1 d1], .agg #[.bool s2, .slice a2 n2 c2, .slice b2 m2 d2]] w fun e w' => e = .returned (.int .i64 (RatMath.cmp ⟨s1, val xs1, val ys1⟩ ⟨s2, val xs2, val ys2⟩)) ∧ Below w.heap.size w w' := by
  have HS := fun w1 (hb : Below w.heap.size w w1) => sum_c s1 (!s2) a1 b1 a2 b2 n1 c1 m1 d1 n2 c2 m2 d2 K xs1 ys1 xs2 ys2 w1 (h1.below hb) (k1.below hb) (h2.below hb) (k2.below hb) hn1 hm1 hn2 hm2 hK
  obtain ⟨z, hz⟩ : ∃ z, Hid (z = sm (dv ⟨s1, val xs1, val ys1⟩) (dv ⟨!s2, val xs2, val ys2⟩)) := ⟨_, rfl⟩
  have hcmp : RatMath.cmp ⟨s1, val xs1, val ys1⟩ ⟨s2, val xs2, val ys2⟩ = if z.p = 0 then 0 else if z.s then -1 else 1 := by rw [hz.out]; rfl
  rw [← hz.out] at HS
  have HS := Lib.hid HS
  have HC := Lib.hid hcmp
  obtain ⟨g, hg⟩ : ∃ g, Hid (g = RatMath.cmp ⟨s1, val xs1, val ys1⟩ ⟨s2, val xs2, val ys2⟩) := ⟨_, rfl⟩
  rw [← hg.out] at HC ⊢
  clear h1 k1 h2 k2 hcmp
  go_enter Tryd.func40, Tryd.ntmps40
  go_wp2_with fail
  obtain ⟨W0, hW0, kA, kB, bb⟩ := boxed2 w 47 #[.bool s1, .slice a1 n1 c1, .slice b1 m1 d1] #[.bool s2, .slice a2 n2 c2, .slice b2 m2 d2]
  rw [← hW0]
  have DA : Hid (Blk W0.drew w.heap.size 47 #[.bool s1, .slice a1 n1 c1, .slice b1 m1 d1]) := kA
  have DC : Hid (Blk W0.drew (w.heap.size + 1) 47 #[.bool s2, .slice a2 n2 c2, .slice b2 m2 d2]) := kB
  have DB : Hid (Below w.heap.size w W0.drew) := bb.drew
  obtain ⟨y0, y1, y2⟩ := kA.cells3
  obtain ⟨yy0, yy1, yy2⟩ := kB.cells3
  clear kA kB bb hW0
  go_region_held3 (fun w' => w'.cell? ⟨w.heap.size, 0, none⟩ = some (.bool s1) ∧ w'.cell? ⟨w.heap.size, 1, none⟩ = some (.slice a1 n1 c1) ∧ w'.cell? ⟨w.heap.size, 2, none⟩ = some (.slice b1 m1 d1) ∧ w'.cell? ⟨w.heap.size + 1, 0, none⟩ = some (.bool s2) ∧ w'.cell? ⟨w.heap.size + 1, 1, none⟩ = some (.slice a2 n2 c2) ∧ w'.cell? ⟨w.heap.size + 1, 2, none⟩ = some (.slice b2 m2 d2)) (go_keep) (first
    | (go_at_call 73; refine (negate_c s2 a2 b2 n2 c2 m2 d2 W0.drew).mono ?_; rintro e w1 ⟨rfl, B1⟩; have A1 := DA.out.on B1; have C1 := DC.out.on B1; obtain ⟨z0, z1, z2⟩ := A1.cells3; obtain ⟨zz0, zz1, zz2⟩ := C1.cells3; have BB1 := Lib.hid (DB.out.trans (B1.mono DB.out.size)))
    | (go_at_call 72; refine (HS.out w1 BB1.out).mono ?_; rintro e w2 ⟨s, a, n, c, b, m, d, rfl, hs, o1, o2, hn, hm, bb2⟩; have A2 := A1.on bb2; have C2 := C1.on bb2; obtain ⟨k0, k1, k2⟩ := A2.cells3; obtain ⟨kk0, kk1, kk2⟩ := C2.cells3; have HSS := Lib.hid hs; clear hs))
  have hs := HSS.out
  have BB2 := Lib.hid (BB1.out.trans (bb2.mono BB1.out.size))
  have HZ := isZero_c a n c (limbs z.p) w2 o1.lst (by omega)
  rw [val_limbs] at HZ
  by_cases hp : z.p = 0
  · have hd : decide (z.p = 0) = true := by simpa using hp
    rw [hd] at HZ
    have e0 : g = 0 := by rw [HC.out, if_pos hp]
    have HZ := Lib.hid HZ
    clear hd hp o1 o2 bb2 hs
    subst e0
    go_wp2_with fail
    refine HZ.out.mono ?_
    rintro e w' ⟨rfl, rfl⟩
    go_wp2_with fail
    go_ret
    exact ⟨rfl, BB2.out⟩
  · have hd : decide (z.p = 0) = false := by simpa using hp
    rw [hd] at HZ
    have HZ := Lib.hid HZ
    have e0 : g = if s then -1 else 1 := by rw [HC.out, if_neg hp, hs]
    clear hd hp o1 o2 bb2 hs
    cases s with
    | true =>
      have e1 : g = -1 := e0
      subst e1
      clear e0
      go_wp2_with fail
      refine HZ.out.mono ?_
      rintro e w' ⟨rfl, rfl⟩
      go_wp2_with fail
      go_ret
      exact ⟨rfl, BB2.out⟩
    | false =>
      have e1 : g = 1 := e0
      subst e1
      clear e0
      go_wp2_with fail
      refine HZ.out.mono ?_
      rintro e w' ⟨rfl, rfl⟩
      go_wp2_with fail
      go_ret
      exact ⟨rfl, BB2.out⟩

set_option maxHeartbeats 3200000 in
set_option maxRecDepth 100000 in
theorem rdiv_zero_c (s1 s2 : Bool) (a1 b1 a2 b2 : Option Addr) (n1 c1 m1 d1 n2 c2 m2 d2 K : Nat) (xs1 ys1 xs2 ys2 : List Int) (w : World)
    (_h1 : Lst .u32 w a1 n1 c1 xs1) (_k1 : Lst .u32 w b1 m1 d1 ys1) (h2 : Lst .u32 w a2 n2 c2 xs2) (k2 : Lst .u32 w b2 m2 d2 ys2) (_hn1 : n1 ≤ K) (_hm1 : m1 ≤ K) (hn2 : n2 ≤ K) (hm2 : m2 ≤ K) (hK : K ≤ 400000) (hz : val xs2 = 0 ∨ val ys2 = 0) :
    Calls Tryd.prog 39 #[.agg #[.bool s1, .slice a1 n1 c1, .slice b1 m1 d1], .agg #[.bool s2, .slice a2 n2 c2, .slice b2 m2 d2]] w fun e w' => e = .returned (.tuple #[.agg #[.bool false, .slice none 0 0, .slice none 0 0], .bool false]) ∧ Below w.heap.size w w' := by
  have HX := Lib.hid (fun w1 (hb : Below w.heap.size w w1) => isZero_c a2 n2 c2 xs2 w1 (h2.below hb) (by omega))
  have HY := Lib.hid (fun w1 (hb : Below w.heap.size w w1) => isZero_c b2 m2 d2 ys2 w1 (k2.below hb) (by omega))
  clear h2 k2
  go_enter Tryd.func39, Tryd.ntmps39
  go_wp2_with fail
  obtain ⟨W0, hW0, kA, kB, kZ, bb⟩ := boxed3 w 47 #[.bool s1, .slice a1 n1 c1, .slice b1 m1 d1] #[.bool s2, .slice a2 n2 c2, .slice b2 m2 d2] #[.bool false, .slice none 0 0, .slice none 0 0]
  rw [← hW0]
  obtain ⟨yy0, yy1, yy2⟩ := kB.cells3
  obtain ⟨q0, q1, q2, q3, q4, q5⟩ := kZ.store3 (.bool false) (.slice none 0 0)
  refine (HX.out W0 bb).mono ?_
  rintro e w' ⟨rfl, rfl⟩
  clear hW0
  rcases Nat.eq_zero_or_pos (val xs2) with h0 | h0
  · have hd : decide (val xs2 = 0) = true := by simpa using h0
    clear hz h0
    go_wp2_with fail
    have pbox := kZ.put3 (.bool false) (.slice none 0 0) (.slice none 0 0)
    have pbel := below_put3 bb (show w.heap.size ≤ w.heap.size + 1 + 1 by omega) (.bool false) (.slice none 0 0) (.slice none 0 0)
    obtain ⟨W, hW⟩ : ∃ W, W = put3 W0 (w.heap.size + 1 + 1) (.bool false) (.slice none 0 0) (.slice none 0 0) := ⟨_, rfl⟩
    change bodyPost _ _ _ _ _ (put3 W0 (w.heap.size + 1 + 1) (.bool false) (.slice none 0 0) (.slice none 0 0))
    rw [← hW] at pbox pbel  ⊢
    obtain ⟨r0, r1, r2⟩ := pbox.cells3
    refine bodyPost_ret (v := .tuple #[.agg #[.bool false, .slice none 0 0, .slice none 0 0], .bool false]) (by simp [results, Tryd.results39, go_sem, r0, r1, r2]) rfl ?_
    exact ⟨rfl, pbel⟩
  · have hd : decide (val xs2 = 0) = false := by simp; omega
    have hd2 : decide (val ys2 = 0) = true := by rcases hz with h | h; omega; simpa using h
    clear hz h0
    go_wp2_with fail
    refine (HY.out _ bb).mono ?_
    rintro e w' ⟨rfl, rfl⟩
    go_wp2_with fail
    have pbox := kZ.put3 (.bool false) (.slice none 0 0) (.slice none 0 0)
    have pbel := below_put3 bb (show w.heap.size ≤ w.heap.size + 1 + 1 by omega) (.bool false) (.slice none 0 0) (.slice none 0 0)
    obtain ⟨W, hW⟩ : ∃ W, W = put3 W0 (w.heap.size + 1 + 1) (.bool false) (.slice none 0 0) (.slice none 0 0) := ⟨_, rfl⟩
    change bodyPost _ _ _ _ _ (put3 W0 (w.heap.size + 1 + 1) (.bool false) (.slice none 0 0) (.slice none 0 0))
    rw [← hW] at pbox pbel  ⊢
    obtain ⟨r0, r1, r2⟩ := pbox.cells3
    refine bodyPost_ret (v := .tuple #[.agg #[.bool false, .slice none 0 0, .slice none 0 0], .bool false]) (by simp [results, Tryd.results39, go_sem, r0, r1, r2]) rfl ?_
    exact ⟨rfl, pbel⟩

set_option maxHeartbeats 6400000 in
set_option maxRecDepth 100000 in
theorem rdiv_c (s1 s2 : Bool) (a1 b1 a2 b2 : Option Addr) (n1 c1 m1 d1 n2 c2 m2 d2 K : Nat) (xs1 ys1 xs2 ys2 : List Int) (w : World)
    (h1 : Lst .u32 w a1 n1 c1 xs1) (k1 : Lst .u32 w b1 m1 d1 ys1) (h2 : Lst .u32 w a2 n2 c2 xs2) (k2 : Lst .u32 w b2 m2 d2 ys2) (hn1 : n1 ≤ K) (hm1 : m1 ≤ K) (hn2 : n2 ≤ K) (hm2 : m2 ≤ K) (hK : K ≤ 400000) (hp : val xs2 ≠ 0) (hq : val ys2 ≠ 0) :
    Calls Tryd.prog 39 #[.agg #[.bool s1, .slice a1 n1 c1, .slice b1 m1 d1], .agg #[.bool s2, .slice a2 n2 c2, .slice b2 m2 d2]] w fun e w' => ∃ s a n c b m d, e = .returned (.tuple #[.agg #[.bool s, .slice a n c, .slice b m d], .bool true]) ∧ s = (nf (ml ⟨s1, val xs1, val ys1⟩ (inv ⟨s2, val xs2, val ys2⟩))).s ∧ Own 75 .u32 w.heap.size w' a n c (limbs (nf (ml ⟨s1, val xs1, val ys1⟩ (inv ⟨s2, val xs2, val ys2⟩))).p) ∧ Own 75 .u32 w.heap.size w' b m d (limbs (nf (ml ⟨s1, val xs1, val ys1⟩ (inv ⟨s2, val xs2, val ys2⟩))).q) ∧ n ≤ 2 * K + 4 ∧ m ≤ 2 * K + 5 ∧ Below w.heap.size w w' := by
  have HX := Lib.hid (fun w1 (hb : Below w.heap.size w w1) => isZero_c a2 n2 c2 xs2 w1 (h2.below hb) (by omega))
  have HY := Lib.hid (fun w1 (hb : Below w.heap.size w w1) => isZero_c b2 m2 d2 ys2 w1 (k2.below hb) (by omega))
  have HM := Lib.hid (fun w1 (hb : Below w.heap.size w w1) => rmul_c s1 s2 a1 b1 b2 a2 n1 c1 m1 d1 m2 d2 n2 c2 K xs1 ys1 ys2 xs2 w1 (h1.below hb) (k1.below hb) (k2.below hb) (h2.below hb) hn1 hm1 hm2 hn2 hK)
  have hd : decide (val xs2 = 0) = false := by simpa using hp
  have hd2 : decide (val ys2 = 0) = false := by simpa using hq
  clear h1 k1 h2 k2
  go_enter Tryd.func39, Tryd.ntmps39
  go_wp2_with fail
  obtain ⟨W0, hW0, kA, kB, kZ, bb⟩ := boxed3 w 47 #[.bool s1, .slice a1 n1 c1, .slice b1 m1 d1] #[.bool s2, .slice a2 n2 c2, .slice b2 m2 d2] #[.bool false, .slice none 0 0, .slice none 0 0]
  rw [← hW0]
  obtain ⟨y0, y1, y2⟩ := kA.cells3
  obtain ⟨yy0, yy1, yy2⟩ := kB.cells3
  clear hW0 hp hq
  refine (HX.out W0 bb).mono ?_
  rintro e w' ⟨rfl, rfl⟩
  go_wp2_with fail
  refine (HY.out _ bb).mono ?_
  rintro e w' ⟨rfl, rfl⟩
  go_wp2_with fail
  refine (HM.out W0 bb).mono ?_
  rintro e w3 ⟨s3, a3, n3, c3, b3, m3, d3, rfl, hs3, o3, o4, hn3, hm3, bb3⟩
  have K3 := kZ.on bb3
  have BB3 := bb.trans (bb3.mono bb.size)
  have h3 := o3.hi (g := w.heap.size + 1 + 1) kZ.lt
  have h4 := o4.hi (g := w.heap.size + 1 + 1) kZ.lt
  have O3 := Lib.hid (o3.low bb.size)
  have O4 := Lib.hid (o4.low bb.size)
  obtain ⟨q0, q1, q2, q3, q4, q5⟩ := K3.store3 (.bool s3) (.slice a3 n3 c3)
  have HS3 := Lib.hid hs3
  clear hs3 bb3 o3 o4
  go_wp2_with fail
  have pbox := K3.put3 (.bool s3) (.slice a3 n3 c3) (.slice b3 m3 d3)
  have pbel := below_put3 BB3 (show w.heap.size ≤ w.heap.size + 1 + 1 by omega) (.bool s3) (.slice a3 n3 c3) (.slice b3 m3 d3)
  have p3 := O3.out.put3 h3 (.bool s3) (.slice a3 n3 c3) (.slice b3 m3 d3)
  have p4 := O4.out.put3 h4 (.bool s3) (.slice a3 n3 c3) (.slice b3 m3 d3)
  obtain ⟨W, hW⟩ : ∃ W, W = put3 w3 (w.heap.size + 1 + 1) (.bool s3) (.slice a3 n3 c3) (.slice b3 m3 d3) := ⟨_, rfl⟩
  change bodyPost _ _ _ _ _ (put3 w3 (w.heap.size + 1 + 1) (.bool s3) (.slice a3 n3 c3) (.slice b3 m3 d3))
  rw [← hW] at pbox pbel p3 p4 ⊢
  obtain ⟨r0, r1, r2⟩ := pbox.cells3
  refine bodyPost_ret (v := .tuple #[.agg #[.bool s3, .slice a3 n3 c3, .slice b3 m3 d3], .bool true]) (by simp [results, Tryd.results39, go_sem, r0, r1, r2]) rfl ?_
  exact ⟨s3, a3, n3, c3, b3, m3, d3, rfl, HS3.out, p3, p4, hn3, hm3, pbel⟩

set_option maxHeartbeats 6400000 in
set_option maxRecDepth 100000 in
theorem rfloor_c (s : Bool) (ao bo : Option Addr) (n c m d : Nat) (xs ys : List Int) (w : World) (h : Lst .u32 w ao n c xs) (k : Lst .u32 w bo m d ys) (hn : n ≤ 400000) (hm : m ≤ 400000) :
    Calls Tryd.prog 41 #[.agg #[.bool s, .slice ao n c, .slice bo m d]] w fun e w' => ∃ a n' c', e = .returned (.tuple #[.slice a n' c', .bool (!(nf ⟨s, val xs, val ys⟩).s)]) ∧ Own 75 .u32 w.heap.size w' a n' c' (limbs (if (nf ⟨s, val xs, val ys⟩).s then 0 else (nf ⟨s, val xs, val ys⟩).p / (nf ⟨s, val xs, val ys⟩).q)) ∧ Below w.heap.size w w' := by
  obtain ⟨z, hz⟩ : ∃ z, Hid (z = nf ⟨s, val xs, val ys⟩) := ⟨_, rfl⟩
  have HN := fun w1 (hb : Below w.heap.size w w1) => normal_c s ao bo n c m d xs ys w1 (h.below hb) (k.below hb) (by omega) (by omega)
  have hzq : Hid (z.q ≠ 0) := by show z.q ≠ 0; rw [hz.out]; exact nf_q _
  rw [← hz.out] at HN ⊢
  clear h k hz
  obtain ⟨t0, P, Q⟩ := z
  dsimp only at HN hzq ⊢
  have HN := Lib.hid HN
  go_enter Tryd.func41, Tryd.ntmps41
  go_wp2_with fail
  have kA := Blk.new w 47 #[.bool s, .slice ao n c, .slice bo m d]
  have bb := (Below.refl w.heap.size w).alloc (Nat.le_refl _) (.cells #[.bool s, .slice ao n c, .slice bo m d] 47)
  obtain ⟨W0, hW0⟩ : ∃ W0, W0 = w.alloc (.cells #[.bool s, .slice ao n c, .slice bo m d] 47) := ⟨_, rfl⟩
  rw [← hW0] at kA bb ⊢
  refine (HN.out W0 bb).mono ?_
  rintro e w1 ⟨t, a1, n1, c1, b1, m1, d1, rfl, ht, o1, o2, hn1, hm1, B1⟩
  have K1 := kA.on B1
  have BB1 := bb.trans (B1.mono bb.size)
  obtain ⟨q0, q1, q2, q3, q4, q5⟩ := K1.store3 (.bool t) (.slice a1 n1 c1)
  have h3 := o1.hi (g := w.heap.size) kA.lt
  have h4 := o2.hi (g := w.heap.size) kA.lt
  have O1 := (o1.low bb.size).put3 h3 (.bool t) (.slice a1 n1 c1) (.slice b1 m1 d1)
  have O2 := (o2.low bb.size).put3 h4 (.bool t) (.slice a1 n1 c1) (.slice b1 m1 d1)
  have K2 := K1.put3 (.bool t) (.slice a1 n1 c1) (.slice b1 m1 d1)
  have BB2 := below_put3 BB1 (Nat.le_refl _) (.bool t) (.slice a1 n1 c1) (.slice b1 m1 d1)
  obtain ⟨r0, r1, r2⟩ := K2.cells3
  subst ht
  have HO1 := Lib.hid O1; have HO2 := Lib.hid O2; have HB2 := Lib.hid BB2; have HK2 := Lib.hid K2
  clear o1 o2 B1 hW0 bb kA O1 O2 BB2 BB1 K1 K2 h3 h4
  unfold put3 at r0 r1 r2
  cases t with
  | true =>
    go_wp2_with fail
    go_ret2
    refine ⟨none, 0, 0, rfl, ?_, HB2.out⟩
    rw [limbs_zero]
    exact own_nil _ _ _ _
  | false =>
    have hdv := div_c _ _ _ _ _ _ _ _ _ HO1.out.lst HO2.out.lst (by omega) (by rw [val_limbs]; exact hzq.out)
    rw [val_limbs, val_limbs] at hdv
    unfold put3 at hdv
    have HDV := Lib.hid hdv
    clear hdv
    go_wp2_with fail
    refine HDV.out.mono ?_
    rintro e w4 ⟨a5, n5, c5, a6, n6, c6, rfl, o5, _, B4⟩
    go_wp2_with fail
    go_ret2
    refine ⟨a5, n5, c5, rfl, ?_, HB2.out.trans (B4.mono HB2.out.size)⟩
    exact o5.low HB2.out.size
end Go.Proofs.YtgjndondonehhaaDoor
