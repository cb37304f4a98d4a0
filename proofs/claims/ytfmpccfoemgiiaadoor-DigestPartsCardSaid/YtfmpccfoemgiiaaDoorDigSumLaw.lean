/-
  The walk of DigestSum.
-/
import Derived.Test.YtfmpccfoemgiiaaDoorDigAwake
import Derived.ChangeKeysEq
import Derived.Laws.StructEq
namespace Go.Proofs.YtfmpccfoemgiiaaDoor
open Go.RowKit Dig

theorem eq_items (d : Nat) (cs : List Value) (h : ∀ i, i < cs.length → ∃ z, cs[i]? = some (.int .u8 z)) (W : World) : ∀ is : List Nat, (∀ i ∈ is, i < cs.length) → (Op.eqItems (d + 1) 5 1 cs.toArray cs.toArray is).run Tryd.prog W = .ok true W
  | [], _ => by simp [Op.eqItems]
  | i :: is, hi => by
    obtain ⟨z, hz⟩ := h i (hi i (List.mem_cons_self ..))
    have ih := eq_items d cs h W is (fun j hj => hi j (List.mem_cons_of_mem _ hj))
    have hp : (part 5 cs.toArray (i * 1)).run Tryd.prog W = .ok (.int .u8 z) W := by
      simp [part, agg_u8, hz]
    have he : (Op.equalIn (d + 1) 5 (.int .u8 z) (.int .u8 z)).run Tryd.prog W = .ok true W := by
      simp [Op.equalIn, run_underlying Tryd.underlying5]
    simp only [Op.eqItems, Sem.run_bind, hp, Result.andThen_ok, he, Bool.not_true, Bool.false_eq_true, if_false]
    exact ih
theorem cells5 : Tryd.prog.cellsOf 5 = 1 := by kernel_rfl
/-- A digest is equal to itself. -/
theorem eq_bytes (D : List Int) (hD : D.length = 32) (W : World) : (binOp .eql 25 (.agg (bcells D).toArray) (.agg (bcells D).toArray)).run Tryd.prog W = .ok (.bool true) W := by
  obtain ⟨i0, hi, _, _, _⟩ := info_parts info5
  rw [run_eql_struct, run_equalIn_array W 9999 _ _ Tryd.underlying25 hi, cells5, eq_items 9998 (bcells D) (fun i hi => ?_) W (List.range 32) (fun i hi => ?_)]
  · rfl
  · rw [bcells_len (Nat.le_of_eq hD)] at hi
    exact ⟨_, bcells_at (by rw [hD]; exact hi)⟩
  · rw [bcells_len (Nat.le_of_eq hD)]
    simpa using hi

set_option maxHeartbeats 1600000 in
set_option maxRecDepth 100000 in
theorem sumLaw_c (ao : Option Addr) (n c : Nat) (xs : List Int) (w : World) (h : Lst .u8 w ao n c xs) (hnil : ao = none → c = 0) (hK : KTab 1 w) (hK0 : KTab 0 w) :
    Calls Tryd.prog 3 #[.slice ao n c] w fun e w' => e = .returned (.bool true) ∧ Below w.heap.size w w' := by
  have hcap := h.cap
  have hroom := h.room
  have HN := Lib.hid hnil
  clear hnil
  rcases Nat.lt_or_ge 300 n with hlt | hle
  · have hlti : (300 : Int) < n := by omega
    have hmc : (300 : Int) ≤ c := by omega
    have L := h.take (show 300 ≤ n by omega)
    obtain ⟨F, hF⟩ : ∃ F, Hid (F = sumL (xs.take 300)) := ⟨_, rfl⟩
    have hFl : F.length = 32 := by rw [hF.out]; rfl
    have heq := eq_bytes F hFl
    have HA := Lib.hid (awake_c w hK)
    clear hFl h
    go_enter Tryd.func3, Tryd.ntmps3
    go_wp2_with fail
    refine HA.out.mono ?_
    rintro e w1 ⟨rfl, b1⟩
    have H1 := Lib.hid (sum_c ao 300 c (xs.take 300) w1 (L.below b1) HN.out (by omega) (hK.below b1))
    rw [← hF.out] at H1
    clear HA
    go_wp2_with fail
    refine H1.out.mono ?_
    rintro e w2 ⟨rfl, b2⟩
    have b12 : Below w.heap.size w w2 := b1.trans (b2.mono b1.size)
    have H2 := Lib.hid (refsum_c ao 300 c (xs.take 300) w2 (L.below b12) HN.out (by omega) (hK0.below b12))
    rw [← hF.out] at H2
    clear H1 b1 b2
    go_wp2_with fail
    refine H2.out.mono ?_
    rintro e w3 ⟨rfl, b3⟩
    have b13 : Below w.heap.size w w3 := b12.trans (b3.mono b12.size)
    clear H2 b12 b3
    go_wp2_with fail
    go_ret
    exact ⟨rfl, b13⟩
  · have hlei : (n : Int) ≤ 300 := by omega
    have L := h.take (show n ≤ n by omega)
    obtain ⟨F, hF⟩ : ∃ F, Hid (F = sumL (xs.take n)) := ⟨_, rfl⟩
    have hFl : F.length = 32 := by rw [hF.out]; rfl
    have heq := eq_bytes F hFl
    have HA := Lib.hid (awake_c w hK)
    clear hFl h
    go_enter Tryd.func3, Tryd.ntmps3
    go_wp2_with fail
    refine HA.out.mono ?_
    rintro e w1 ⟨rfl, b1⟩
    have H1 := Lib.hid (sum_c ao n c (xs.take n) w1 (L.below b1) HN.out (by omega) (hK.below b1))
    rw [← hF.out] at H1
    clear HA
    go_wp2_with fail
    refine H1.out.mono ?_
    rintro e w2 ⟨rfl, b2⟩
    have b12 : Below w.heap.size w w2 := b1.trans (b2.mono b1.size)
    have H2 := Lib.hid (refsum_c ao n c (xs.take n) w2 (L.below b12) HN.out (by omega) (hK0.below b12))
    rw [← hF.out] at H2
    clear H1 b1 b2
    go_wp2_with fail
    refine H2.out.mono ?_
    rintro e w3 ⟨rfl, b3⟩
    have b13 : Below w.heap.size w w3 := b12.trans (b3.mono b12.size)
    clear H2 b12 b3
    go_wp2_with fail
    go_ret
    exact ⟨rfl, b13⟩
end Go.Proofs.YtfmpccfoemgiiaaDoor
