/-
  Two digests compared.
-/
import Derived.Test.YtfmpccfoemgiiaaDoorDigBytes
import Derived.ChangeKeysEq
import Derived.Laws.StructEq
namespace Go.Proofs.YtfmpccfoemgiiaaDoor
open Go.RowKit Dig

theorem eq_items (d : Nat) (cs : List Value) (h : ∀ i, i < cs.length → ∃ z, cs[i]? = some (.int .u8 z)) (W : World) : ∀ is : List Nat, (∀ i ∈ is, i < cs.length) → (Op.eqItems (d + 1) 5 1 cs.toArray cs.toArray is).run Tryd.prog W = .ok true W
  | [], _ => by simp [Op.eqItems]
  | i :: is, hi => by
    obtain ⟨z, hz⟩ := h i (hi i (List.mem_cons_self ..))
    have ih := eq_items d cs h W is (fun j hj => hi j (List.mem_cons_of_mem _ hj))
    have hp : (part 5 cs.toArray (i * 1)).run Tryd.prog W = .ok (.int .u8 z) W := by
      simp [part, agg_u8, hz]
    have he : (Op.equalIn (d + 1) 5 (.int .u8 z) (.int .u8 z)).run Tryd.prog W = .ok true W := by
      simp [Op.equalIn, run_underlying Tryd.underlying5]
    simp only [Op.eqItems, Sem.run_bind, hp, Result.andThen_ok, he, Bool.not_true, Bool.false_eq_true, if_false]
    exact ih
theorem cells5 : Tryd.prog.cellsOf 5 = 1 := by kernel_rfl
/-- A digest is equal to itself. -/
theorem eq_bytes (D : List Int) (hD : D.length = 32) (W : World) : (binOp .eql 25 (.agg (bcells D).toArray) (.agg (bcells D).toArray)).run Tryd.prog W = .ok (.bool true) W := by
  obtain ⟨i0, hi, _, _, _⟩ := info_parts info5
  rw [run_eql_struct, run_equalIn_array W 9999 _ _ Tryd.underlying25 hi, cells5, eq_items 9998 (bcells D) (fun i hi => ?_) W (List.range 32) (fun i hi => ?_)]
  · rfl
  · rw [bcells_len (Nat.le_of_eq hD)] at hi
    exact ⟨_, bcells_at (by rw [hD]; exact hi)⟩
  · rw [bcells_len (Nat.le_of_eq hD)]
    simpa using hi
end Go.Proofs.YtfmpccfoemgiiaaDoor
