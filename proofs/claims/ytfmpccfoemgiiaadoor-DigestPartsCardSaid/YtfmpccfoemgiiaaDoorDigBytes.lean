/-
  Bytes: hexadecimal digits, literals, appends, strings: what needs no function of the program.
-/
import Derived.Test.YtfmpccfoemgiiaaDoorDigRefSum
import Derived.Lib.OwnKind
import Derived.Lib.BufferRead
namespace Go.Proofs.YtfmpccfoemgiiaaDoor
open Go.RowKit Dig

namespace Dig
def hexN (x : Nat) : Nat := if x < 10 then 48 + x else 87 + x
def hexI (d : List Int) : List Int := d.flatMap fun x => [((hexN (x.toNat / 16) : Nat) : Int), ((hexN (x.toNat % 16) : Nat) : Int)]
/-- Bytes as a string. -/
def strOf (xs : List Int) : ByteArray := ⟨(xs.map fun x => UInt8.ofNat x.toNat).toArray⟩
def textS (d : List Int) : ByteArray := strOf (hexI d)
/-- A digest: 32 bytes. -/
structure IsD (d : List Int) : Prop where
  len : d.length = 32
  lo : ∀ x ∈ d, 0 ≤ x
  hi : ∀ x ∈ d, x ≤ 255
theorem IsD.at {d : List Int} (h : IsD d) (i : Nat) (hi : i < 32) : ∃ b : Nat, Hid (d.getD i 0 = (b : Int)) ∧ b ≤ 255 := by
  have hm : d.getD i 0 ∈ d := by
    rw [List.getD_eq_getElem?_getD, List.getElem?_eq_getElem (by rw [h.len]; exact hi)]
    exact List.getElem_mem _
  have h0 := h.lo _ hm
  have h1 := h.hi _ hm
  exact ⟨(d.getD i 0).toNat, by show _ = _; omega, by omega⟩
theorem beN_bytes (n k : Nat) : ∀ x ∈ beN n k, 0 ≤ x ∧ x ≤ 255 := by
  induction k with
  | zero => intro x hx; cases hx
  | succ k ih =>
    intro x hx
    rcases List.mem_cons.1 hx with rfl | hx
    · omega
    · exact ih x hx
theorem outL_isD (s : St) : IsD (outL s) := by
  refine ⟨rfl, fun x hx => ?_, fun x hx => ?_⟩ <;> obtain ⟨y, _, hy⟩ := List.mem_flatMap.1 hx <;> have := beN_bytes y 4 x hy <;> omega
theorem sumL_isD (m : List Int) : IsD (sumL m) := outL_isD _
theorem hexN_le (x : Nat) (h : x < 16) : 48 ≤ hexN x ∧ hexN x ≤ 102 := by unfold hexN; split <;> omega
theorem hexI_len (d : List Int) : (hexI d).length = 2 * d.length := by
  induction d with
  | nil => rfl
  | cons x d ih =>
    have e : hexI (x :: d) = [((hexN (x.toNat / 16) : Nat) : Int), ((hexN (x.toNat % 16) : Nat) : Int)] ++ hexI d := rfl
    rw [e, List.length_append, ih]
    simp
    omega
theorem hexI_next (d : List Int) (i : Nat) (hi : i < d.length) (b : Nat) (hb : d.getD i 0 = (b : Int)) : hexI (d.take i) ++ [((hexN (b / 16) : Nat) : Int), ((hexN (b % 16) : Nat) : Int)] = hexI (d.take (i + 1)) := by
  rw [take_next _ _ hi, hb, hexI, hexI, List.flatMap_append]
  simp
end Dig

theorem bcells_at {d : List Int} {i : Nat} (h : i < d.length) : (bcells d)[i]? = some (.int .u8 (d.getD i 0)) := by
  rw [bcells, List.getElem?_append_left (by simpa using h)]
  simp [List.getD, h]

/-- The digit of a number below 16. -/
theorem hex_ix (z : Nat) (hz : z < 16) (W : World) : (Instr.index 9 (.string ⟨#[48, 49, 50, 51, 52, 53, 54, 55, 56, 57, 97, 98, 99, 100, 101, 102]⟩) (.int .u8 (z : Int))).run Tryd.prog W = .ok (.int .u8 ((hexN z : Nat) : Int)) W := by
  rcases (show z = 0 ∨ z = 1 ∨ z = 2 ∨ z = 3 ∨ z = 4 ∨ z = 5 ∨ z = 6 ∨ z = 7 ∨ z = 8 ∨ z = 9 ∨ z = 10 ∨ z = 11 ∨ z = 12 ∨ z = 13 ∨ z = 14 ∨ z = 15 by omega) with rfl | rfl | rfl | rfl | rfl | rfl | rfl | rfl | rfl | rfl | rfl | rfl | rfl | rfl | rfl | rfl <;> kernel_rfl

theorem two_lst (w : World) (x y : Int) (h0 : 0 ≤ x) (h1 : x ≤ 255) (h2 : 0 ≤ y) (h3 : y ≤ 255) : Lst .u8 (w.alloc (.cells #[.int .u8 x, .int .u8 y] 5)) (some ⟨w.heap.size, 0, none⟩) 2 2 [x, y] := by
  have o : Own 5 .u8 w.heap.size (w.alloc (.cells #[.int .u8 x, .int .u8 y] 5)) (some ⟨w.heap.size, 0, none⟩) 2 2 [x, y] := by
    refine ⟨World.ownsRow_lit w #[.int .u8 x, .int .u8 y] 2 (Nat.le_refl _) (by unfold maxLen; omega) rfl, ?_⟩
    intro z hz
    simp at hz
    rcases hz with rfl | rfl
    · exact wf_u8 h0 h1
    · exact wf_u8 h2 h3
  exact o.lst
theorem four_lst (w : World) (x y z u : Int) (hx : 0 ≤ x ∧ x ≤ 255) (hy : 0 ≤ y ∧ y ≤ 255) (hz : 0 ≤ z ∧ z ≤ 255) (hu : 0 ≤ u ∧ u ≤ 255) : Lst .u8 (w.alloc (.cells #[.int .u8 x, .int .u8 y, .int .u8 z, .int .u8 u] 5)) (some ⟨w.heap.size, 0, none⟩) 4 4 [x, y, z, u] := by
  have o : Own 5 .u8 w.heap.size (w.alloc (.cells #[.int .u8 x, .int .u8 y, .int .u8 z, .int .u8 u] 5)) (some ⟨w.heap.size, 0, none⟩) 4 4 [x, y, z, u] := by
    refine ⟨World.ownsRow_lit w #[.int .u8 x, .int .u8 y, .int .u8 z, .int .u8 u] 4 (Nat.le_refl _) (by unfold maxLen; omega) rfl, ?_⟩
    intro v hv
    simp at hv
    rcases hv with rfl | rfl | rfl | rfl
    · exact wf_u8 hx.1 hx.2
    · exact wf_u8 hy.1 hy.2
    · exact wf_u8 hz.1 hz.2
    · exact wf_u8 hu.1 hu.2
  exact o.lst
section
variable {w : World} {a : Act} {K : Act → World → Prop} {Q : Exit → Act → World → Prop} {d : Option Tmp} {p q : Operand} {ty : TypeId} {pos : String} {after : Array Edge} {gd : Option (Nat × Bool)}
/-- An append as one step of a drawn region. -/
theorem wp_appL {B : Nat} {ao : Option Addr} {n c : Nat} {xs : List Int} {bo : Option Addr} {m e : Nat} {ys : List Int} (hO : Own 5 .u8 B w ao n c xs) (hL : Lst .u8 w bo m e ys) (h0 : bo = none → e = 0) (hB : B ≤ w.heap.size) (hn : n ≤ 1099511627776) (hm : m ≤ 1099511627776)
    (hp : a.eval p = .slice ao n c) (hq : a.eval q = .slice bo m e)
    (h : ∀ ao' c' w', Own 5 .u8 B w' ao' (n + m) c' (xs ++ ys) → Below B w w' → K (a.put d (.slice ao' (n + m) c')) w') :
    Oper.wp Tryd.prog ⟨d, .call { callee := .builtin .append, args := #[p, q], argTypes := #[22, 22] }, ty, pos, after, gd⟩ a w K Q := by
  obtain ⟨i0, hi, hz0, hz1, hz2⟩ := info_parts info5
  cases bo with
  | none =>
    have hm0 : m = 0 := by
      rcases Nat.eq_zero_or_pos m with h1 | h1
      · exact h1
      · obtain ⟨a, ha⟩ := hL.isSome h1; cases ha
    have hc0 := h0 rfl
    subst hm0; subst hc0
    have hx0 : ys = [] := List.eq_nil_of_length_eq_zero hL.len
    subst hx0
    have hrun := run_append_owned_none (P := Tryd.prog) (w := w) B 22 ty 5 i0 1 Tryd.underlying22 hi (.slice ao n c) n _ hO.1
    have h1 := h ao c w (by simpa using hO) (Below.refl _ _)
    unfold Oper.wp
    simp [execOp, resolve, invoke, builtin, hp, hq, hrun, Result.andThen]
    exact h1
  | some ad =>
    refine wp_append_own w p q 22 rfl B 5 i0 (.int .u8 0) 1 1 Tryd.underlying22 hi hz0 hz1 hz2 rfl (by decide) _ n _ hp hO.1 ad m e (ys.map (Value.int .u8)) hq (by simp [hL.len]) hL.cells (ints_one _ _) (by unfold maxLen; omega) (by omega) hB ?_
    intro v' w' ho' hg _
    obtain ⟨av, cv, hv⟩ := own_shape ho'
    subst hv
    refine h av cv w' ⟨by rw [List.map_append]; exact ho', fun x hx => ?_⟩ ((Below.refl _ _).grown hg hB (fun k hk => (World.ownsRow.lt hO.1 k hk).1))
    rcases List.mem_append.1 hx with hx | hx
    · exact hO.2 x hx
    · exact hL.wf x hx
end
/-- 'string(b)'. -/
theorem own_string {B : Nat} {w : World} {ao : Option Addr} {n c : Nat} {xs : List Int} (h : Own 5 .u8 B w ao n c xs) : (convert 22 9 (.slice ao n c)).run Tryd.prog w = .ok (.string (strOf xs)) w := by
  have hl := h.len
  have hcells : xs.map (Value.int .u8) = Lib.byteCells (xs.map fun x => UInt8.ofNat x.toNat) := by
    unfold Lib.byteCells
    rw [List.map_map]
    refine List.map_congr_left fun x hx => ?_
    have hw := h.2 x hx
    have hb : 0 ≤ x ∧ x ≤ 255 := by simpa [Lit.wf, IntKind.min, IntKind.max, IntKind.signed, IntKind.bits] using hw
    simp only [Function.comp]
    congr 1
    rw [UInt8.toNat_ofNat_of_lt' (by show x.toNat < 256; omega)]
    omega
  have h1 := h.1
  rw [hcells] at h1
  rcases h1.2 with ⟨hv, h0⟩ | ⟨g, cap, cur, hv, hg, hh, hn, hc, hs, ht⟩
  · rw [hv]
    obtain rfl : xs = [] := List.eq_nil_of_length_eq_zero (by omega)
    exact Lib.run_convert_nil_bytes w _ _ 5 0 Tryd.underlying22 Tryd.underlying5 Tryd.underlying9
  · rw [hv]
    have hlen : (xs.map fun x => UInt8.ofNat x.toNat).length = n := by simpa using hl
    subst hlen
    exact run_convert_bytes_back w _ _ 5 ⟨g, 0, none⟩ cap (xs.map fun x => UInt8.ofNat x.toNat) Tryd.underlying22 Tryd.underlying5 Tryd.underlying9 (Lib.bytes_of_row hh (by simpa using ht))
end Go.Proofs.YtfmpccfoemgiiaaDoor
