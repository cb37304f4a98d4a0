/-
  A slice of structs that came in, opened whole: its cells in groups, each group read.
-/
import Derived.ProofKit
import Derived.OpenShut
import Derived.Lib.SmallJoins
import Derived.SliceStrings
import Derived.Test.YtfknckbclddnmaaSynMem
namespace Go.Proofs.Ytfknckbclddnmaa
open Go.RowKit Go.ChangeShapes Go.WideShapes Lx

/-- us falls into groups, one for each of zs. -/
def Grp {α : Type} (R : List Value → α → Prop) : List α → List Value → Prop
  | [], us => us = []
  | a :: zs, us => ∃ g r, us = g ++ r ∧ R g a ∧ Grp R zs r
theorem Grp.snoc {α : Type} {R : List Value → α → Prop} {g : List Value} {b : α} (hb : R g b) : ∀ {zs : List α} {us : List Value}, Grp R zs us → Grp R (zs ++ [b]) (us ++ g)
  | [], us, h => by
    have : us = [] := h
    subst this
    exact ⟨g, [], by simp, hb, rfl⟩
  | _ :: _, _, ⟨g', r, h1, h2, h3⟩ => by
    subst h1
    exact ⟨g', r ++ g, by simp, h2, Grp.snoc hb h3⟩
theorem pt_cells (a : Addr) (i : Nat) : pt (some a) i = a.add i := rfl
theorem add_add (a : Addr) (i j : Nat) : (a.add i).add j = a.add (i + j) := by
  unfold Addr.add
  obtain ⟨b, o, f⟩ := a
  cases i <;> cases j <;> simp [Nat.add_assoc]
theorem view_row {H : Type} {enc : TypeId × Value → H} {W : World} {fuel : Nat} {x : DataW H × List MemPlace} {α : Type} {t e : TypeId} {v : Value} {s : Nat} (R : List Value → α → Prop)
    (ht : Try.prog.underlying t = some (.slice e)) (hc : Try.prog.cellsOf e = s) (hs : 0 < s)
    (hR : ∀ n cs y, cs.length = s → DataW.trod enc Try.prog W 0 (fun _ => true) true n e cs = some y → ∃ a, R cs a)
    (hf : DataW.trod enc Try.prog W 0 (fun _ => true) true fuel t [v] = some x) :
    ∃ ao l c us, ∃ zs : List α, v = .slice ao l c ∧ Row anyF s W ao l c us ∧ zs.length = l ∧ Grp R zs us := by
  rcases DataW.trod_slice ht hf with ⟨hcs, _⟩ | ⟨ad, len, cap, elems, rest, n, _, hcs, _, _, hl, hm, hlen, hel, _, _⟩
  · simp at hcs
    subst hcs
    exact ⟨none, 0, 0, [], [], rfl, Row.nil _ _ _, rfl, rfl⟩
  · simp at hcs
    subst hcs
    rw [hc] at hel
    have key : ∀ k, k ≤ len → ∃ us, ∃ zs : List α, us.length = k * s ∧ zs.length = k ∧ Grp R zs us ∧ ∀ i u, us[i]? = some u → W.cell? (ad.add i) = some u := by
      intro k
      induction k with
      | zero => intro _; exact ⟨[], [], by simp, rfl, rfl, fun i u h => by simp at h⟩
      | succ k ih =>
        intro hk
        obtain ⟨us, zs, h1, h2, h3, h4⟩ := ih (by omega)
        have hx := hel k (by omega)
        rw [List.getElem?_eq_getElem (by omega), Option.bind_eq_some_iff] at hx
        obtain ⟨cs', hcs, hy⟩ := hx
        obtain ⟨_, hcl, hcc⟩ := World.cells?_some hcs
        obtain ⟨a, ha⟩ := hR n cs' _ hcl hy
        refine ⟨us ++ cs', zs ++ [a], by simp [h1, hcl, Nat.add_mul], by simp [h2], h3.snoc ha, fun i u hu => ?_⟩
        by_cases hi : i < us.length
        · rw [List.getElem?_append_left hi] at hu
          exact h4 i u hu
        · rw [List.getElem?_append_right (by omega)] at hu
          have hj : i - us.length < s := by
            have := (List.getElem?_eq_some_iff.1 hu).1
            omega
          have := hcc (i - us.length) hj
          rw [add_add, h1, show k * s + (i - k * s) = i by omega] at this
          rw [this, ← hu, h1]
    obtain ⟨us, zs, h1, h2, h3, h4⟩ := key len (Nat.le_refl _)
    exact ⟨some ad, len, cap, us, zs, rfl, ⟨h1, hl, by simpa [maxLen] using hm, fun _ => ⟨_, rfl⟩, fun i u hu => ⟨h4 i u hu, trivial⟩⟩, h2, h3⟩
theorem view_strs {H : Type} {enc : TypeId × Value → H} {W : World} {fuel : Nat} {x : DataW H × List MemPlace} {t : TypeId} {v : Value}
    (ht : Try.prog.underlying t = some (.slice 9)) (hf : DataW.trod enc Try.prog W 0 (fun _ => true) true fuel t [v] = some x) : ∃ ao l c vs, v = .slice ao l c ∧ StrL anyF W ao l c vs := by
  obtain ⟨ao, l, c, us, zs, rfl, hr, hln, hg⟩ := view_row (R := fun g (a : List UInt8) => g = [.string (stg a)]) ht (s := 1) (by kernel_rfl) (by omega) (fun n cs y _ hy => by
    obtain ⟨s, rfl, _, _⟩ := DataW.trod_string Try.underlying9 hy
    exact ⟨bys s, by rw [stg_bys]⟩) hf
  refine ⟨ao, l, c, zs, rfl, ?_⟩
  have : us = zs.map fun v => .string (stg v) := by
    clear hr hln
    induction zs generalizing us with
    | nil => exact hg
    | cons a zs ih =>
      obtain ⟨g, r, rfl, rfl, h3⟩ := hg
      rw [ih r h3]
      rfl
  unfold StrL
  rw [← this]
  exact hr
end Go.Proofs.Ytfknckbclddnmaa
