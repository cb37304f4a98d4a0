/-
  Sub and Div for whatever arguments; an append of a Nat that came in.
-/
import Derived.Test.YtmojcnlddfijjaaGreatDoorNatHelp
import Derived.Test.YtmojcnlddfijjaaGreatDoorNatDiv
import Derived.Laws.AppendOwnNone
namespace Go.Proofs.YtmojcnlddfijjaaGreatDoor
open Go.RowKit NatMath

theorem own_nil (e : TypeId) (k : IntKind) (B : Nat) (w : World) : Own e k B w none 0 0 [] := ⟨World.ownsRow_nil _ _ _ _, fun _ hx => by cases hx⟩

theorem sub_c (ao bo : Option Addr) (n c m d : Nat) (xs ys : List Int) (w : World) (h : Lst .u32 w ao n c xs) (k : Lst .u32 w bo m d ys) (hn : n ≤ 1073741824) :
    Calls Tryz.prog 61 #[.slice ao n c, .slice bo m d] w fun e w' => ∃ ao' n' c', e = .returned (.tuple #[.slice ao' n' c', .bool (decide (val ys ≤ val xs))]) ∧ Own 66 .u32 w.heap.size w' ao' n' c' (limbs (val xs - val ys)) ∧ Below w.heap.size w w' := by
  by_cases hlt : val xs < val ys
  · refine (sub_lt_c ao bo n c m d xs ys w h k hlt).mono ?_
    rintro e w' ⟨rfl, q, rfl⟩
    refine ⟨none, 0, 0, ?_, ?_, below_drewN (Below.refl _ _) q⟩
    · rw [decide_eq_false (by omega)]
    · rw [Nat.sub_eq_zero_of_le (by omega), limbs_zero]; exact own_nil _ _ _ _
  · refine (sub_ge_c ao bo n c m d xs ys w h k hn (by omega)).mono ?_
    rintro e w' ⟨a, l, f, _, rfl, o, b⟩
    exact ⟨a, l, f, by rw [decide_eq_true (by omega)], o, b⟩

/-- The rest of a division; nothing where the divisor is 0. -/
def rem0 (x y : Nat) : Nat := if y = 0 then 0 else x % y

theorem divAny_c (ao bo : Option Addr) (n c m d : Nat) (xs ys : List Int) (w : World) (h : Lst .u32 w ao n c xs) (k : Lst .u32 w bo m d ys) (hn : n ≤ 1073741820) :
    Calls Tryz.prog 58 #[.slice ao n c, .slice bo m d] w fun e w' => ∃ ao' n' c' bo' m' d', e = .returned (.tuple #[.slice ao' n' c', .slice bo' m' d', .bool (decide (val ys ≠ 0))]) ∧ Own 66 .u32 w.heap.size w' ao' n' c' (limbs (val xs / val ys)) ∧ Own 66 .u32 w.heap.size w' bo' m' d' (limbs (rem0 (val xs) (val ys))) ∧ Below w.heap.size w w' := by
  by_cases hy : val ys = 0
  · refine (div_zero_c ao bo n c m d ys w k hy).mono ?_
    rintro e w' ⟨rfl, rfl⟩
    refine ⟨none, 0, 0, none, 0, 0, by rw [decide_eq_false (by simpa using hy)], ?_, ?_, Below.refl _ _⟩
    · rw [hy, Nat.div_zero, limbs_zero]; exact own_nil _ _ _ _
    · rw [rem0, if_pos hy, limbs_zero]; exact own_nil _ _ _ _
  · refine (div_c ao bo n c m d xs ys w h k hn hy).mono ?_
    rintro e w' ⟨a1, l1, c1, a2, l2, c2, rfl, o1, o2, b⟩
    exact ⟨a1, l1, c1, a2, l2, c2, by rw [decide_eq_true hy], o1, by rw [rem0, if_neg hy]; exact o2, b⟩

/-- 'zeros & 3' is one of the numbers from 0 to 3. -/
theorem and3 (z : Int) : ∃ m : Nat, m ≤ 3 ∧ bits .and .i64 z 3 = (m : Int) := by
  refine ⟨(BitVec.ofInt 64 z &&& BitVec.ofInt 64 3).toNat, ?_, ?_⟩
  · rw [BitVec.toNat_and]
    refine Nat.le_trans Nat.and_le_right ?_
    decide
  · have h : (BitVec.ofInt 64 z &&& BitVec.ofInt 64 3).toNat ≤ 3 := by
      rw [BitVec.toNat_and]
      exact Nat.le_trans Nat.and_le_right (by decide)
    show IntKind.i64.wrap ((BitVec.ofInt 64 z &&& BitVec.ofInt 64 3).toNat : Int) = _
    rw [IntKind.wrap_i64]
    omega

theorem val_zeros_end (X : List Int) (m : Nat) : val (X ++ List.replicate m 0) = val X := by
  rw [val_append, val_zeros]; simp

section
variable {w : World}
/-- An append of a slice of words that reads, nil included, to an owned row. -/
theorem wpList_append_lst {ops : Array Oper} {rest : List Oper} {o : Oper} {a : Act} {Q : Exit → Act → World → Prop} (hgd : o.guard = none) (s x : Operand)
    (ho : o.op = .call { callee := .builtin .append, args := #[s, x], argTypes := #[23, 23] })
    (base : Nat) (v : Value) (n : Nat) (ys : List Int) (hs : a.eval s = v) (hown : w.ownsRow base 66 1 v n (ys.map (Value.int .u32)))
    (ao : Option Addr) (m c : Nat) (xs : List Int) (hx : a.eval x = .slice ao m c) (hl : Lst .u32 w ao m c xs) (h0 : ao = none → c = 0)
    (hn : n ≤ 1073741824) (hm : m ≤ 1073741824) (hbase : base ≤ w.heap.size)
    (h : ∀ ao' c' w', w'.ownsRow base 66 1 (.slice ao' (n + m) c') (n + m) ((ys ++ xs).map (Value.int .u32)) → w.grownBy w' v.ownBlock → wpList Tryz.prog ops Q rest (a.put o.dst (.slice ao' (n + m) c')) w') : wpList Tryz.prog ops Q (o :: rest) a w := by
  obtain ⟨i0, hi, hz0, hz1, hz2⟩ := info_parts info60
  cases ao with
  | none =>
    have hm0 : m = 0 := by
      rcases Nat.eq_zero_or_pos m with h1 | h1
      · exact h1
      · obtain ⟨a, ha⟩ := hl.isSome h1; cases ha
    have hc0 := h0 rfl
    subst hm0
    subst hc0
    have hx0 : xs = [] := List.eq_nil_of_length_eq_zero hl.len
    subst hx0
    obtain ⟨av, cv, hv⟩ := own_shape hown
    refine wpList_append_own_none hgd s x 23 ho base 66 i0 1 Tryz.underlying23 hi v n _ hs hown hx ?_
    subst hv
    refine h av cv w ?_ (World.grownBy.refl _ _)
    simpa using hown
  | some ad =>
    refine wpList_append_own w hgd s x 23 ho base 66 i0 (.int .u32 0) 1 4 Tryz.underlying23 hi hz0 hz1 hz2 rfl (by decide) v n _ hs hown ad m c (xs.map (Value.int .u32)) hx (by simp [hl.len]) hl.cells (ints_oneCell _ _) (by unfold maxLen; omega) (by omega) hbase ?_
    intro v' w' ho' hg _
    obtain ⟨av, cv, hv⟩ := own_shape ho'
    subst hv
    refine h av cv w' ?_ hg
    rw [List.map_append]
    exact ho'
end
end Go.Proofs.YtmojcnlddfijjaaGreatDoor
