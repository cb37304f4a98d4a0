/-
  random.toBytes.
-/
import Derived.Test.YtgomconcfjllcaaDoorRndBase
import Derived.OwnWalk
namespace Go.Proofs.YtgomconcfjllcaaDoor
open Go.RowKit Dig Rnd

namespace Rnd
theorem beN_at (n : Nat) : ∀ k i, i < k → (beN n k).getD i 0 = ((n / 256 ^ (k - 1 - i) % 256 : Nat) : Int)
  | 0, i, h => absurd h (by omega)
  | k + 1, 0, _ => by simp [beN]
  | k + 1, i + 1, h => by
    rw [beN, List.getD_cons_succ, beN_at n k i (by omega), show k + 1 - 1 - (i + 1) = k - 1 - i by omega]
/-- The first i bytes, zeros behind them. -/
def tbN (n i : Nat) : List Int := (beN n 8).take i ++ List.replicate (8 - i) 0
theorem tbN_len (n i : Nat) (h : i ≤ 8) : (tbN n i).length = 8 := by simp [tbN, beN_len]; omega
theorem tbN_zero (n : Nat) : tbN n 0 = List.replicate 8 0 := rfl
theorem tbN_full (n : Nat) : tbN n 8 = beN n 8 := by
  unfold tbN
  rw [List.take_of_length_le (by rw [beN_len]; omega)]
  simp
theorem tbN_set (n i : Nat) (h : i < 8) : (tbN n i).set i ((n / 256 ^ (7 - i) % 256 : Nat) : Int) = tbN n (i + 1) := by
  have hl : ((beN n 8).take i).length = i := by simp [beN_len]; omega
  have e : 8 - i = (8 - (i + 1)) + 1 := by omega
  have ht : (beN n 8).take (i + 1) = (beN n 8).take i ++ [((n / 256 ^ (7 - i) % 256 : Nat) : Int)] := by
    rw [List.take_succ_eq_append_getElem (by rw [beN_len]; exact h)]
    congr 2
    have := beN_at n 8 i h
    rw [List.getD_eq_getElem?_getD, List.getElem?_eq_getElem (by rw [beN_len]; exact h)] at this
    exact this
  unfold tbN
  rw [List.set_append_right _ _ (by rw [hl]; exact Nat.le_refl _), hl, Nat.sub_self, e, List.replicate_succ, List.set_cons_zero, ht, List.append_assoc]
  rfl
end Rnd
theorem Own.madeK {e : TypeId} {k : IntKind} {B : Nat} {w : World} {ao : Option Addr} {n c : Nat} (h0 : (Lit.int k 0).wf = true) (hown : w.ownsRow B e 1 (.slice ao n c) n (madeCells (Value.int k 0).cells (n * 1)).toList) : Own e k B w ao n c (List.replicate n 0) := by
  have ez : (madeCells (Value.int k 0).cells (n * 1)).toList = (List.replicate n (0 : Int)).map (Value.int k) := by
    apply List.ext_getElem
    · simp [madeCells, Value.cells]
    · intro i h1 h2
      simp [madeCells, Value.cells, Nat.mod_one]
  rw [ez] at hown
  exact ⟨hown, fun x hx => by rw [List.eq_of_mem_replicate hx]; exact h0⟩

set_option maxHeartbeats 1600000 in
set_option maxRecDepth 100000 in
theorem toBytes_c (n : Nat) (w : World) (_ : n ≤ 18446744073709551615) :
    Calls Tryd.prog 22 #[.int .u64 (n : Int)] w fun e w' => ∃ g, e = .returned (.slice (some ⟨g, 0, none⟩) 8 8) ∧ w.heap.size ≤ g ∧ Own 5 .u8 w.heap.size w' (some ⟨g, 0, none⟩) 8 8 (beN n 8) ∧ Below w.heap.size w w' := by
  obtain ⟨i0, hi, hz0, hz1, hz2⟩ := info_parts info5
  go_enter Tryd.func22, Tryd.ntmps22
  go_wp2_with (at_make; refine wpList_make_full _ rfl _ _ 48 rfl w.heap.size 5 i0 (.int .u8 0) 1 Tryd.underlying48 hi hz0 hz1 _ _ _ _ 8 rfl rfl (by omega) (by omega) ?b2 ?b3 (Nat.le_refl _) ?_)
  case b2 => rw [hz2]; omega
  case b3 => unfold maxLen; omega
  intro w1 hown hgr
  have O1 : Own 5 .u8 w.heap.size w1 (some ⟨w.heap.size, 0, none⟩) 8 8 (tbN n 0) := Own.madeK (wf_u8 (by omega) (by omega)) hown
  have b1 : Below w.heap.size w w1 := (Below.refl _ _).grown hgr (Nat.le_refl _) (fun k hk => by cases hk)
  clear hown hgr
  go_wp2_with fail
  go_loopw [8] (fun i wr => ∃ j : Nat, j ≤ 8 ∧ i = .int .i64 j ∧ Own 5 .u8 w.heap.size wr (some ⟨w.heap.size, 0, none⟩) 8 8 (tbN n j) ∧ Below w.heap.size w wr)
    (fun i _ => 8 - (intOf i).toNat)
  case atStart => exact ⟨0, by omega, rfl, O1, b1⟩
  case round =>
    clear O1 b1
    obtain ⟨j, hj, rfl, O, B⟩ := hrel
    by_cases hlt : j < 8
    · have hlt' : (j : Int) < 8 := by omega
      have hix := ix8 O.lst j j rfl hlt
      have hfz := O.frozen hlt
      obtain ⟨old, _, _, hc⟩ := O.lst.at8 j hlt
      have hx := byte_shift n (7 - j)
      have hbase := O.base hlt
      have hst := tbN_set n j hlt
      have hwf : (Lit.int .u8 ((n / 256 ^ (7 - j) % 256 : Nat) : Int)).wf = true := wf_u8 (by omega) (by omega)
      have O2 := O.set hlt hwf
      rw [hst] at O2
      have HO2 := Lib.hid O2
      have HB2 := Lib.hid (B.setCell hbase (.int .u8 ((n / 256 ^ (7 - j) % 256 : Nat) : Int)))
      have HX := Lib.hid hx
      clear hx hst hwf O2 O
      go_wp2_with fail
      rw [HX.out]
      go_roundw
      case rel => exact ⟨j + 1, by omega, by go_num, HO2.out, HB2.out⟩
      case measure => simp [intOf]; omega
    · obtain rfl : j = 8 := by omega
      rw [tbN_full] at O
      go_wp2_with fail
      go_ret
      exact ⟨_, rfl, Nat.le_refl _, O, B⟩
end Go.Proofs.YtgomconcfjllcaaDoor
