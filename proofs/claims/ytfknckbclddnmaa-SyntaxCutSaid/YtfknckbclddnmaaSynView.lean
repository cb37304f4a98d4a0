/-
  A slice of structs that came in, opened whole: its cells in groups, each group read.
-/
import Derived.ProofKit
import Derived.OpenShut
import Derived.Lib.SmallJoins
import Derived.SliceStrings
import Derived.Test.YtfknckbclddnmaaSynMem
import Derived.Test.YtfknckbclddnmaaSynLs
namespace Go.Proofs.Ytfknckbclddnmaa
open Go.RowKit Go.ChangeShapes Go.WideShapes Lx

/-- us falls into groups, one for each of zs. -/
def Grp {α : Type} (R : List Value → α → Prop) : List α → List Value → Prop
  | [], us => us = []
  | a :: zs, us => ∃ g r, us = g ++ r ∧ R g a ∧ Grp R zs r
theorem Grp.snoc {α : Type} {R : List Value → α → Prop} {g : List Value} {b : α} (hb : R g b) : ∀ {zs : List α} {us : List Value}, Grp R zs us → Grp R (zs ++ [b]) (us ++ g)
  | [], us, h => by
    have : us = [] := h
    subst this
    exact ⟨g, [], by simp, hb, rfl⟩
  | _ :: _, _, ⟨g', r, h1, h2, h3⟩ => by
    subst h1
    exact ⟨g', r ++ g, by simp, h2, Grp.snoc hb h3⟩
theorem pt_cells (a : Addr) (i : Nat) : pt (some a) i = a.add i := rfl
theorem add_add (a : Addr) (i j : Nat) : (a.add i).add j = a.add (i + j) := by
  unfold Addr.add
  obtain ⟨b, o, f⟩ := a
  cases i <;> cases j <;> simp [Nat.add_assoc]
theorem view_row {H : Type} {enc : TypeId × Value → H} {W : World} {fuel : Nat} {x : DataW H × List MemPlace} {α : Type} {t e : TypeId} {v : Value} {s : Nat} (R : List Value → α → Prop)
    (ht : Try.prog.underlying t = some (.slice e)) (hc : Try.prog.cellsOf e = s) (_ : 0 < s)
    (hR : ∀ n cs y, cs.length = s → DataW.trod enc Try.prog W 0 (fun _ => true) true n e cs = some y → ∃ a, R cs a)
    (hf : DataW.trod enc Try.prog W 0 (fun _ => true) true fuel t [v] = some x) :
    ∃ ao l c us, ∃ zs : List α, v = .slice ao l c ∧ Row anyF s W ao l c us ∧ zs.length = l ∧ Grp R zs us := by
  rcases DataW.trod_slice ht hf with ⟨hcs, _⟩ | ⟨ad, len, cap, elems, rest, n, _, hcs, _, _, hl, hm, hlen, hel, _, _⟩
  · simp at hcs
    subst hcs
    exact ⟨none, 0, 0, [], [], rfl, Row.nil _ _ _, rfl, rfl⟩
  · simp at hcs
    subst hcs
    rw [hc] at hel
    have key : ∀ k, k ≤ len → ∃ us, ∃ zs : List α, us.length = k * s ∧ zs.length = k ∧ Grp R zs us ∧ ∀ i u, us[i]? = some u → W.cell? (ad.add i) = some u := by
      intro k
      induction k with
      | zero => intro _; exact ⟨[], [], by simp, rfl, rfl, fun i u h => by simp at h⟩
      | succ k ih =>
        intro hk
        obtain ⟨us, zs, h1, h2, h3, h4⟩ := ih (by omega)
        have hx := hel k (by omega)
        rw [List.getElem?_eq_getElem (by omega), Option.bind_eq_some_iff] at hx
        obtain ⟨cs', hcs, hy⟩ := hx
        obtain ⟨_, hcl, hcc⟩ := World.cells?_some hcs
        obtain ⟨a, ha⟩ := hR n cs' _ hcl hy
        refine ⟨us ++ cs', zs ++ [a], by simp [h1, hcl, Nat.add_mul], by simp [h2], h3.snoc ha, fun i u hu => ?_⟩
        by_cases hi : i < us.length
        · rw [List.getElem?_append_left hi] at hu
          exact h4 i u hu
        · rw [List.getElem?_append_right (by omega)] at hu
          have hj : i - us.length < s := by
            have := (List.getElem?_eq_some_iff.1 hu).1
            omega
          have := hcc (i - us.length) hj
          rw [add_add, h1, show k * s + (i - k * s) = i by omega] at this
          rw [this, ← hu, h1]
    obtain ⟨us, zs, h1, h2, h3, h4⟩ := key len (Nat.le_refl _)
    exact ⟨some ad, len, cap, us, zs, rfl, ⟨h1, hl, by simpa [maxLen] using hm, fun _ => ⟨_, rfl⟩, fun i u hu => ⟨h4 i u hu, trivial⟩⟩, h2, h3⟩
theorem view_strs {H : Type} {enc : TypeId × Value → H} {W : World} {fuel : Nat} {x : DataW H × List MemPlace} {t : TypeId} {v : Value}
    (ht : Try.prog.underlying t = some (.slice 9)) (hf : DataW.trod enc Try.prog W 0 (fun _ => true) true fuel t [v] = some x) : ∃ ao l c vs, v = .slice ao l c ∧ StrL anyF W ao l c vs := by
  obtain ⟨ao, l, c, us, zs, rfl, hr, hln, hg⟩ := view_row (R := fun g (a : List UInt8) => g = [.string (stg a)]) ht (s := 1) (by kernel_rfl) (by omega) (fun n cs y _ hy => by
    obtain ⟨s, rfl, _, _⟩ := DataW.trod_string Try.underlying9 hy
    exact ⟨bys s, by rw [stg_bys]⟩) hf
  refine ⟨ao, l, c, zs, rfl, ?_⟩
  have : us = zs.map fun v => .string (stg v) := by
    clear hr hln
    induction zs generalizing us with
    | nil => exact hg
    | cons a zs ih =>
      obtain ⟨g, r, rfl, rfl, h3⟩ := hg
      rw [ih r h3]
      rfl
  unfold StrL
  rw [← this]
  exact hr
end Go.Proofs.Ytfknckbclddnmaa

/-
  A definition that came in.
-/
namespace Go.Proofs.Ytfknckbclddnmaa
open Go.RowKit Go.ChangeShapes Go.WideShapes Lx

def FldG (W : World) (g : List Value) (f : Fld) : Prop := ∃ vo vn vc z, g = [.string (stg f.key), .slice vo vn vc, .int .i64 z] ∧ StrL anyF W vo vn vc f.vals
def BlkG (W : World) (g : List Value) (b : Blc) : Prop := ∃ fo fn fc z, g = [.string (stg b.kind), .string (stg b.name), .slice fo fn fc, .int .i64 z] ∧ FldL false anyF W fo fn fc b.flds
theorem fcells_of {W : World} : ∀ {fs : List Fld} {us : List Value}, Grp (FldG W) fs us → FCells false anyF W fs us
  | [], _, h => h
  | _ :: _, _, ⟨g, r, h1, ⟨vo, vn, vc, z, h2, h3⟩, h4⟩ => by
    subst h1 h2
    exact ⟨vo, vn, vc, z, r, rfl, h3, fun e => (by cases e), fcells_of h4⟩
theorem bcells_of {W : World} : ∀ {bs : List Blc} {us : List Value}, Grp (BlkG W) bs us → BCells false anyF W bs us
  | [], _, h => h
  | _ :: _, _, ⟨g, r, h1, ⟨vo, vn, vc, z, h2, h3⟩, h4⟩ => by
    subst h1 h2
    exact ⟨vo, vn, vc, z, r, rfl, h3, fun e => (by cases e), bcells_of h4⟩
theorem take_one {cs : List Value} {n k : Nat} (h : cs.length = n) (hk : k < n) : (cs.drop k).take 1 = [cs[k]'(by omega)] := by
  rw [List.drop_eq_getElem_cons (by omega)]
  rfl
theorem list_of3 {cs : List Value} (h : cs.length = 3) : ∃ a b c, cs = [a, b, c] := by
  match cs, h with
  | [a, b, c], _ => exact ⟨a, b, c, rfl⟩
theorem list_of4 {cs : List Value} (h : cs.length = 4) : ∃ a b c d, cs = [a, b, c, d] := by
  match cs, h with
  | [a, b, c, d], _ => exact ⟨a, b, c, d, rfl⟩
section
variable {H : Type} {enc : TypeId × Value → H} {W : World} {x : DataW H × List MemPlace} {fuel : Nat}
theorem view_fld {cs : List Value} (hl : cs.length = 3) (hf : DataW.trod enc Try.prog W 0 (fun _ => true) true fuel 42 cs = some x) : ∃ f, FldG W cs f := by
  obtain ⟨a, b, c, rfl⟩ := list_of3 hl
  obtain ⟨xs, n, rfl, rfl, _, hx, hs⟩ := DataW.trod_struct Try.underlying42 hf
  replace hx : xs.length = 3 := hx
  have h0 := hs 0 _ rfl
  have h1 := hs 1 _ rfl
  have h2 := hs 2 _ rfl
  rw [List.getElem?_eq_getElem (by omega)] at h0 h1 h2
  obtain ⟨s, e0, _, _⟩ := DataW.trod_string (P := Try.prog) Try.underlying9 (cs := [a]) h0
  obtain ⟨vo, vn, vc, vs, e1, hv⟩ := view_strs Try.underlying40 (v := b) h1
  obtain ⟨z, e2, _, _⟩ := DataW.trod_int (P := Try.prog) Try.underlying3 (cs := [c]) h2
  simp at e0 e2
  subst e0 e1 e2
  exact ⟨⟨bys s, vs, 0⟩, vo, vn, vc, z, by rw [stg_bys], hv⟩
theorem view_flds {v : Value} (hf : DataW.trod enc Try.prog W 0 (fun _ => true) true fuel 37 [v] = some x) : ∃ ao l c fs, v = .slice ao l c ∧ FldL false anyF W ao l c fs := by
  obtain ⟨ao, l, c, us, zs, rfl, hr, _, hg⟩ := view_row (R := FldG W) Try.underlying37 (s := 3) (by kernel_rfl) (by omega) (fun n cs y hl hy => view_fld hl hy) hf
  exact ⟨ao, l, c, zs, rfl, us, hr, fcells_of hg⟩
theorem view_blk {cs : List Value} (hl : cs.length = 4) (hf : DataW.trod enc Try.prog W 0 (fun _ => true) true fuel 39 cs = some x) : ∃ b, BlkG W cs b := by
  obtain ⟨a, b, c, d, rfl⟩ := list_of4 hl
  obtain ⟨xs, n, rfl, rfl, _, hx, hs⟩ := DataW.trod_struct Try.underlying39 hf
  replace hx : xs.length = 4 := hx
  have h0 := hs 0 _ rfl
  have h1 := hs 1 _ rfl
  have h2 := hs 2 _ rfl
  have h3 := hs 3 _ rfl
  rw [List.getElem?_eq_getElem (by omega)] at h0 h1 h2 h3
  obtain ⟨s, e0, _, _⟩ := DataW.trod_string (P := Try.prog) Try.underlying9 (cs := [a]) h0
  obtain ⟨s2, e1, _, _⟩ := DataW.trod_string (P := Try.prog) Try.underlying9 (cs := [b]) h1
  obtain ⟨fo, fn, fc, fs, e2, hv⟩ := view_flds (v := c) h2
  obtain ⟨z, e3, _, _⟩ := DataW.trod_int (P := Try.prog) Try.underlying3 (cs := [d]) h3
  simp at e0 e1 e3
  subst e0 e1 e2 e3
  exact ⟨⟨bys s, bys s2, fs, 0⟩, fo, fn, fc, z, by rw [stg_bys, stg_bys], hv⟩
theorem view_blks {v : Value} (hf : DataW.trod enc Try.prog W 0 (fun _ => true) true fuel 22 [v] = some x) : ∃ ao l c bs, v = .slice ao l c ∧ BlkL false anyF W ao l c bs := by
  obtain ⟨ao, l, c, us, zs, rfl, hr, _, hg⟩ := view_row (R := BlkG W) Try.underlying22 (s := 4) (by kernel_rfl) (by omega) (fun n cs y hl hy => view_blk hl hy) hf
  exact ⟨ao, l, c, zs, rfl, us, hr, bcells_of hg⟩
end
set_option maxRecDepth 100000 in
theorem view_src {H : Type} {enc : TypeId × Value → H} {W : World} {r : Reach} {b0 : Nat} {v : Value} {d : DataW H} {ps : List MemPlace}
    (hv : Value.okWide Try.prog W r b0 24 v) (h : DataW.Trod enc Try.prog W 0 (fun _ => true) true 24 v d ps) :
    ∃ t a n c bs, v = .agg #[.string (stg t), .slice a n c] ∧ BlkL false anyF W a n c bs := by
  obtain ⟨v0, v1, y0, y1, n, rfl, _, _, h0, h1⟩ := Joins.open_agg2 Try.underlying24 (by kernel_rfl) (by kernel_rfl) hv h
  obtain ⟨s, hs, _, _⟩ := DataW.trod_string Try.underlying9 h0
  obtain ⟨a, l, c, bs, rfl, L⟩ := view_blks h1
  simp at hs
  subst hs
  exact ⟨bys s, a, l, c, bs, by rw [stg_bys], L⟩
end Go.Proofs.Ytfknckbclddnmaa
