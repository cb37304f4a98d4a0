/-
  Lists of strings in memory; electionref07.Strings of equal lists.
-/
import Derived.Test.YtfknckbclddnmaaSynPrF
import Derived.Deep.QuietTactic
import Derived.BigQuiet
namespace Go.Proofs.Ytfknckbclddnmaa
open Go.RowKit Lx

set_option maxHeartbeats 1600000 in
set_option maxRecDepth 100000 in
theorem strings_c (ao bo : Option Addr) (n m c d : Nat) (vs : List (List UInt8)) (w : World) (h1 : StrL anyF w ao n c vs) (h2 : StrL anyF w bo m d vs) :
    Calls Try.prog 22 #[.slice ao n c, .slice bo m d] w fun e w' => e = .returned (.bool true) ∧ Below w.heap.size w w' := by
  obtain rfl : n = m := by rw [← h1.len, ← h2.len]
  have hcap := Row.cap h1
  have hroom := Row.room h1
  have HH : Hid (StrL anyF w ao n c vs) := h1
  have HH2 : Hid (StrL anyF w bo n d vs) := h2
  have hnn : ((n : Int) != (n : Int)) = false := by simp
  clear h1 h2
  go_enter Try.func22, Try.ntmps22
  go_wp2_with fail
  go_loopw [5] (fun i wr => ∃ j : Nat, j ≤ n ∧ i = .int .i64 j ∧ Below w.heap.size w wr) (fun i _ => n - (intOf i).toNat)
  case atStart => exact ⟨0, by omega, rfl, Below.refl _ _⟩
  case round =>
    obtain ⟨j, hj, rfl, B⟩ := hrel
    by_cases hlt : j < n
    · have hlt' : (j : Int) < (n : Int) := by omega
      have L1 : StrL anyF wr ao n c vs := Row.keep HH.out stable_any (keeps_below _ (Below.mono B (Nat.le_refl _)))
      have L2 : StrL anyF wr bo n d vs := Row.keep HH2.out stable_any (keeps_below _ (Below.mono B (Nat.le_refl _)))
      have x1 := L1.ix' j hlt
      have x2 := L2.ix' j hlt
      obtain ⟨v, hv⟩ : ∃ v, vs[j]? = some v := ⟨_, List.getElem?_eq_getElem (by rw [L1.len]; exact hlt)⟩
      have a1 := L1.at j v hv
      have a2 := L2.at j v hv
      obtain ⟨T, hT⟩ : ∃ T, Hid (stg v = T) := ⟨_, rfl⟩
      rw [hT.out] at a1 a2
      have f2 : (T.toList != T.toList) = false := by simp
      have HB := Lib.hid B
      clear L1 L2 B hv
      go_wp2_with fail
      go_quiet (fail)
      go_wp2_with fail
      go_roundw
      case rel => exact ⟨j + 1, by omega, by go_num, below_drewN HB.out _⟩
      case measure => simp [intOf]; omega
    · obtain rfl : j = n := by omega
      go_wp2_with fail
      go_ret
      exact ⟨rfl, B⟩
end Go.Proofs.Ytfknckbclddnmaa
