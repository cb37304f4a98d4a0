/-
  Rectangles as lists of bit numbers: plain functions.
-/
import Derived.Test.YtcgfoagfoncjiaaImgWithin
import Derived.Test.YtcgfoagfoncjiaaImgValid
namespace Go.Proofs.Ytcgfoagfoncjiaa
namespace Im

/-- Is bit number n of an image of v columns and u rows in the rectangle? -/
def rectP (v u : Nat) (x y a b : Int) (n : Nat) : Bool := decide (n < v * u) && inP (n % v) x a && inP (n / v) y b
/-- The bit numbers of a rectangle, in their order. -/
def rectL (v u : Nat) (x y a b : Int) : List Nat := (List.range (v * u)).filter (rectP v u x y a b)
theorem filt_skip (p : Nat → Bool) {i j : Nat} (h : i ≤ j) (hp : ∀ n, i ≤ n → n < j → p n = false) : (List.range j).filter p = (List.range i).filter p := by
  induction j with
  | zero => rw [show i = 0 by omega]
  | succ j ih =>
    by_cases e : i = j + 1
    · rw [e]
    · rw [List.range_succ, List.filter_append, ih (by omega) (fun n h1 h2 => hp n h1 (by omega)), List.filter_cons, hp j (by omega) (by omega)]
      simp
theorem filt_next (p : Nat → Bool) {i : Nat} (hp : p i = true) : (List.range (i + 1)).filter p = (List.range i).filter p ++ [i] := by
  rw [List.range_succ, List.filter_append, List.filter_cons, hp]
  rfl
theorem filt_len_le (p : Nat → Bool) {i j : Nat} (h : i ≤ j) : ((List.range i).filter p).length ≤ ((List.range j).filter p).length := by
  rw [show j = i + (j - i) by omega, List.range_add, List.filter_append, List.length_append]
  exact Nat.le_add_right _ _
theorem rectP_out {v u : Nat} {x y a b : Int} {n : Nat} (h : v * u ≤ n) : rectP v u x y a b n = false := by
  unfold rectP
  rw [decide_eq_false (by omega), Bool.false_and, Bool.false_and]
theorem filt_all {v u : Nat} {x y a b : Int} {k : Nat} (h : ∀ n, k ≤ n → n < v * u → rectP v u x y a b n = false) : (List.range k).filter (rectP v u x y a b) = rectL v u x y a b := by
  unfold rectL
  by_cases hk : k ≤ v * u
  · exact (filt_skip _ hk h).symm
  · exact filt_skip _ (by omega) (fun n h1 _ => rectP_out h1)
theorem spot_div {v c r : Nat} (h : c < v) : (r * v + c) / v = r := by
  rw [Nat.mul_comm, Nat.mul_add_div (by omega), Nat.div_eq_of_lt h, Nat.add_zero]
theorem spot_mod {v c r : Nat} (h : c < v) : (r * v + c) % v = c := by
  rw [Nat.add_comm, Nat.add_mul_mod_self_right, Nat.mod_eq_of_lt h]
theorem div_le_of {v n r : Nat} (hv : 0 < v) (h : r * v ≤ n) : r ≤ n / v := (Nat.le_div_iff_mul_le hv).2 h
theorem div_lt_of {v n r : Nat} (hv : 0 < v) (h : n < r * v) : n / v < r := (Nat.div_lt_iff_lt_mul hv).2 h
/-- What clip says of one side. -/
structure ClipO (s l : Int) (N : Nat) (F T : Int) : Prop where
  f0 : 0 ≤ F
  f1 : F ≤ 9223372036854775807
  t0 : -9223372036854775808 ≤ T
  t1 : T ≤ N
  iff : ∀ p : Nat, p < N → ((F ≤ p ∧ (p : Int) < T) ↔ (s ≤ p ∧ (p : Int) < s + l))
theorem ClipO.inP {s l : Int} {N : Nat} {F T : Int} (h : ClipO s l N F T) {p : Nat} (hp : p < N) : inP p s l = (decide (F ≤ p) && decide ((p : Int) < T)) := by
  unfold Im.inP
  rw [Bool.eq_iff_iff, Bool.and_eq_true, Bool.and_eq_true, decide_eq_true_eq, decide_eq_true_eq, decide_eq_true_eq, decide_eq_true_eq]
  exact (h.iff p hp).symm
section
variable {v u : Nat} {x y a b : Int} {Fx Tx Fy Ty : Int} (hx : ClipO x a v Fx Tx) (hy : ClipO y b u Fy Ty)
include hx hy
theorem rectP_eq {r c : Nat} (hc : c < v) (hr : r < u) : rectP v u x y a b (r * v + c) = (decide (Fx ≤ c) && decide ((c : Int) < Tx) && (decide (Fy ≤ r) && decide ((r : Int) < Ty))) := by
  unfold rectP
  rw [spot_mod hc, spot_div hc, hx.inP hc, hy.inP hr, decide_eq_true (spot_lt hc hr), Bool.true_and]
theorem rectP_of {n : Nat} (hn : n < v * u) (hv : 0 < v) : rectP v u x y a b n = (decide (Fx ≤ (n % v : Nat)) && decide (((n % v : Nat) : Int) < Tx) && (decide (Fy ≤ (n / v : Nat)) && decide (((n / v : Nat) : Int) < Ty))) := by
  have h1 : n / v < u := (Nat.div_lt_iff_lt_mul hv).2 (by rw [Nat.mul_comm]; exact hn)
  have h2 := rectP_eq hx hy (Nat.mod_lt n hv) h1
  have h3 : n / v * v + n % v = n := by rw [Nat.mul_comm]; exact Nat.div_add_mod n v
  rw [h3] at h2
  exact h2
/-- Ahead of the first row there is nothing. -/
theorem pre_first {F : Nat} (hF : Fy = F) (hv : 0 < v) : (List.range (F * v)).filter (rectP v u x y a b) = [] := by
  rw [filt_skip (i := 0) _ (Nat.zero_le _) (fun n _ hn => ?_)]
  · rfl
  · by_cases hl : n < v * u
    · rw [rectP_of hx hy hl hv]
      have := div_lt_of hv hn
      rw [decide_eq_false (show ¬ Fy ≤ (n / v : Nat) by omega)]
      simp
    · exact rectP_out (by omega)
/-- Behind the last row there is nothing. -/
theorem pre_last {j : Nat} (hj : Ty ≤ j) (hv : 0 < v) : (List.range (j * v)).filter (rectP v u x y a b) = rectL v u x y a b := by
  refine filt_all (fun n h1 h2 => ?_)
  rw [rectP_of hx hy h2 hv]
  have := div_le_of hv h1
  rw [decide_eq_false (show ¬ ((n / v : Nat) : Int) < Ty by omega)]
  simp
/-- At the start of a row. -/
theorem row_first {j F : Nat} (hF : Fx = F) (hv : 0 < v) : (List.range (j * v + min F v)).filter (rectP v u x y a b) = (List.range (j * v)).filter (rectP v u x y a b) := by
  refine filt_skip _ (by omega) (fun n h1 h2 => ?_)
  by_cases hl : n < v * u
  · rw [rectP_of hx hy hl hv]
    obtain ⟨c, rfl⟩ : ∃ c, n = j * v + c := ⟨n - j * v, by omega⟩
    rw [spot_mod (by omega)]
    rw [decide_eq_false (show ¬ Fx ≤ (c : Int) by omega)]
    simp
  · exact rectP_out (by omega)
/-- At the end of a row. -/
theorem row_last {j k : Nat} (hk : Tx ≤ k) (hv : 0 < v) : (List.range ((j + 1) * v)).filter (rectP v u x y a b) = (List.range (j * v + min k v)).filter (rectP v u x y a b) := by
  have e : (j + 1) * v = j * v + v := by rw [Nat.add_mul, Nat.one_mul]
  rw [e]
  refine filt_skip _ (by omega) (fun n h1 h2 => ?_)
  by_cases hl : n < v * u
  · rw [rectP_of hx hy hl hv]
    obtain ⟨c, rfl⟩ : ∃ c, n = j * v + c := ⟨n - j * v, by omega⟩
    rw [spot_mod (by omega)]
    rw [decide_eq_false (show ¬ (c : Int) < Tx by omega)]
    simp
  · exact rectP_out (by omega)
/-- One more in a row. -/
theorem row_next {j k : Nat} (h1 : Fx ≤ k) (h2 : (k : Int) < Tx) (h3 : Fy ≤ j) (h4 : (j : Int) < Ty) : (List.range (j * v + min (k + 1) v)).filter (rectP v u x y a b) = (List.range (j * v + min k v)).filter (rectP v u x y a b) ++ [j * v + k] ∧ j * v + k ∈ rectL v u x y a b := by
  have hk : k < v := by have := hx.t1; omega
  have hj : j < u := by have := hy.t1; omega
  have hp : rectP v u x y a b (j * v + k) = true := by
    rw [rectP_eq hx hy hk hj, decide_eq_true h1, decide_eq_true h2, decide_eq_true h3, decide_eq_true h4]
    rfl
  rw [Nat.min_eq_left (show k + 1 ≤ v by omega), Nat.min_eq_left (show k ≤ v by omega), ← Nat.add_assoc]
  exact ⟨filt_next _ hp, by unfold rectL; exact List.mem_filter.2 ⟨List.mem_range.2 (spot_lt hk hj), hp⟩⟩
end
theorem spotQ {v u r c : Nat} (hc : c < v) (hr : r < u) : r * v + c < v * u := spot_lt hc hr
end Im
end Go.Proofs.Ytcgfoagfoncjiaa
