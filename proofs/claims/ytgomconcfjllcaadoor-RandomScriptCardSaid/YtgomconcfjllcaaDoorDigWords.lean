/-
  The schedule of the words: electionref04.words.
-/
import Derived.Test.YtgomconcfjllcaaDoorDigSched
namespace Go.Proofs.YtgomconcfjllcaaDoor
open Go.RowKit Dig

namespace Dig
theorem ss1_eq (x : Nat) (hx : x < 4294967296) : bits .xor .u32 (bits .xor .u32 (rotN x 17 : Nat) (rotN x 19 : Nat)) ((x : Int) / 1024) = (ss1 x : Nat) := by
  rw [u32_xor_nat _ _ (rotN_lt hx) (rotN_lt hx), show (x : Int) / 1024 = ((x / 1024 : Nat) : Int) by simp, u32_xor_nat _ _ (lt_xor (rotN_lt hx) (rotN_lt hx)) (by omega)]
  rfl
theorem ss0_eq (x : Nat) (hx : x < 4294967296) : bits .xor .u32 (bits .xor .u32 (rotN x 7 : Nat) (rotN x 18 : Nat)) ((x : Int) / 8) = (ss0 x : Nat) := by
  rw [u32_xor_nat _ _ (rotN_lt hx) (rotN_lt hx), show (x : Int) / 8 = ((x / 8 : Nat) : Int) by simp, u32_xor_nat _ _ (lt_xor (rotN_lt hx) (rotN_lt hx)) (by omega)]
  rfl
end Dig

set_option maxHeartbeats 1600000 in
set_option maxRecDepth 100000 in
theorem words_c (ao : Option Addr) (n c : Nat) (xs : List Int) (w : World) (h : Lst .u8 w ao n c xs) (hn : 64 ≤ n) :
    Calls Tryd.prog 37 #[.slice ao n c] w fun e w' => e = .returned (.agg (wcells (sch xs 64)).toArray) ∧ Below w.heap.size w w' := by
  have hlow := Lib.hid (h.block)
  obtain ⟨S, hS⟩ : ∃ S, Hid (S = sch xs 64) := ⟨_, rfl⟩
  rw [← hS.out]
  go_enter Tryd.func37, Tryd.ntmps37
  go_wp2
  go_loopw [4] (fun i wr => ∃ t : Nat, t ≤ 64 ∧ i = .int .i64 t ∧ Arr wr (w.heap.size + 1) 67 (wcells (sch xs t)) ∧ Arr wr w.heap.size 67 (wcells []) ∧ Lst .u8 wr ao n c xs ∧ Below w.heap.size w wr)
    (fun i _ => 64 - (intOf i).toNat)
  case atStart =>
    have b1 : Below w.heap.size w (w.alloc (.cells (List.replicate 64 (Value.int .u32 0)).toArray 67)) := (Below.refl _ _).alloc (Nat.le_refl _) _
    have b2 := b1.alloc b1.size (.cells (List.replicate 64 (Value.int .u32 0)).toArray 67)
    have a2 := Arr.new (w.alloc (.cells (List.replicate 64 (Value.int .u32 0)).toArray 67)) 67 (List.replicate 64 (Value.int .u32 0))
    have a1 := (Arr.new w 67 (List.replicate 64 (Value.int .u32 0))).alloc (.cells (List.replicate 64 (Value.int .u32 0)).toArray 67)
    refine ⟨0, by omega, rfl, ?_, ?_, h.below ?_, ?_⟩
    · rw [show (w.alloc (.cells (List.replicate 64 (Value.int .u32 0)).toArray 67)).heap.size = w.heap.size + 1 by simp] at a2
      exact a2
    · exact a1
    · exact b2
    · exact b2
  case round =>
    obtain ⟨t, ht, rfl, ha, hr, hl, hb⟩ := hrel
    by_cases hlt64 : t < 64
    · by_cases hlt : t < 16
      · have h16 : (t : Int) < 16 := by omega
        have hcap := hl.cap
        have hroom := hl.room
        have i0 := ix8 hl (4 * t) (4 * (t : Int)) (by omega) (by omega)
        have i1 := ix8 hl (4 * t + 1) (4 * (t : Int) + 1) (by omega) (by omega)
        have i2 := ix8 hl (4 * t + 2) (4 * (t : Int) + 2) (by omega) (by omega)
        have i3 := ix8 hl (4 * t + 3) (4 * (t : Int) + 3) (by omega) (by omega)
        obtain ⟨x0, hx0, b0, c0⟩ := hl.at8 (4 * t) (by omega)
        obtain ⟨x1, hx1, b1, c1⟩ := hl.at8 (4 * t + 1) (by omega)
        obtain ⟨x2, hx2, b2, c2⟩ := hl.at8 (4 * t + 2) (by omega)
        obtain ⟨x3, hx3, b3, c3⟩ := hl.at8 (4 * t + 3) (by omega)
        have w0 := i64w (4 * (t : Int)) (by omega) (by omega)
        have w1 := i64w (4 * (t : Int) + 1) (by omega) (by omega)
        have w2 := i64w (4 * (t : Int) + 2) (by omega) (by omega)
        have w3 := i64w (4 * (t : Int) + 3) (by omega) (by omega)
        have q64 : (t : Int) < 64 := by omega
        have hor := wd_or x0 x1 x2 x3 b0 b1 b2 b3
        obtain ⟨X, hX⟩ : ∃ X : Nat, Hid (X = x0 * 16777216 + x1 * 65536 + x2 * 256 + x3) := ⟨_, rfl⟩
        rw [← hX.out] at hor
        have hwd : Hid (X = wd xs (4 * t)) := by
          show _ = _
          rw [hX.out, wd, hx0.out, hx1.out, hx2.out, hx3.out]
        have hf := ha.frozen t
        have hc : wr.cell? ⟨w.heap.size + 1, t, none⟩ = some (.int .u32 0) := by
          rw [ha.cell t]; exact wcells_new (sch_len xs t) (by omega)
        have hA : Hid (Arr (wr.setCell ⟨w.heap.size + 1, t, none⟩ (.int .u32 (X : Int))) (w.heap.size + 1) 67 (wcells (sch xs (t + 1)))) := by
          have := ha.set t (.int .u32 (X : Int))
          rw [wcells_set (sch_len xs t) (by omega)] at this
          rw [sch, if_pos hlt, ← hwd.out]
          exact this
        have hL := Lib.hid (hl.set' (fun i hi => hlow.out i hi) (p := ⟨w.heap.size + 1, t, none⟩) (by simp) (.int .u32 (X : Int)))
        have hB := Lib.hid (hb.setCell (p := ⟨w.heap.size + 1, t, none⟩) (by simp) (.int .u32 (X : Int)))
        have hR := Lib.hid (hr.far (p := ⟨w.heap.size + 1, t, none⟩) (by simp) (.int .u32 (X : Int)))
        clear ha hr hl hb
        go_wp2
        go_still_tail 35, (by kernel_rfl)
        go_wp2
        go_roundw
        case rel => exact ⟨t + 1, by omega, by go_num, hA.out.drew, hR.out.drew, hL.out.drew, below_drew hB.out⟩
        case measure => simp [intOf]; omega
      · have h16 : decide ((t : Int) < 16) = false := by simp; omega
        have hlt32 := sch_lt xs (byte_of_lst h) t
        obtain ⟨x2, hx2⟩ : ∃ x, Hid ((sch xs t).getD (t - 2) 0 = x) := ⟨_, rfl⟩
        obtain ⟨x7, hx7⟩ : ∃ x, Hid ((sch xs t).getD (t - 7) 0 = x) := ⟨_, rfl⟩
        obtain ⟨x15, hx15⟩ : ∃ x, Hid ((sch xs t).getD (t - 15) 0 = x) := ⟨_, rfl⟩
        obtain ⟨x16, hx16⟩ : ∃ x, Hid ((sch xs t).getD (t - 16) 0 = x) := ⟨_, rfl⟩
        have c2 := (ha.cell (t - 2)).trans (wcells_at (by rw [sch_len]; omega))
        rw [hx2.out] at c2
        rw [← show ((t : Int) - 2).toNat = t - 2 by omega] at c2
        have c7 := (ha.cell (t - 7)).trans (wcells_at (by rw [sch_len]; omega))
        rw [hx7.out] at c7
        rw [← show ((t : Int) - 7).toNat = t - 7 by omega] at c7
        have c15 := (ha.cell (t - 15)).trans (wcells_at (by rw [sch_len]; omega))
        rw [hx15.out] at c15
        rw [← show ((t : Int) - 15).toNat = t - 15 by omega] at c15
        have c16 := (ha.cell (t - 16)).trans (wcells_at (by rw [sch_len]; omega))
        rw [hx16.out] at c16
        rw [← show ((t : Int) - 16).toNat = t - 16 by omega] at c16
        have l2 : x2 ≤ 4294967295 := by have := hlt32 (t - 2); rw [hx2.out] at this; omega
        have l7 : x7 ≤ 4294967295 := by have := hlt32 (t - 7); rw [hx7.out] at this; omega
        have l15 : x15 ≤ 4294967295 := by have := hlt32 (t - 15); rw [hx15.out] at this; omega
        have l16 : x16 ≤ 4294967295 := by have := hlt32 (t - 16); rw [hx16.out] at this; omega
        have m2 := i64w ((t : Int) - 2) (by omega) (by omega)
        have m7 := i64w ((t : Int) - 7) (by omega) (by omega)
        have m15 := i64w ((t : Int) - 15) (by omega) (by omega)
        have m16 := i64w ((t : Int) - 16) (by omega) (by omega)
        have p2 : (2 : Int) ≤ t := by omega
        have p7 : (7 : Int) ≤ t := by omega
        have p15 : (15 : Int) ≤ t := by omega
        have p16 : (16 : Int) ≤ t := by omega
        have q64 : (t : Int) < 64 := by omega
        have q2 : (t : Int) - 2 < 64 := by omega
        have q7 : (t : Int) - 7 < 64 := by omega
        have q15 : (t : Int) - 15 < 64 := by omega
        have q16 : (t : Int) - 16 < 64 := by omega
        go_wp2
        go_still (by kernel_rfl)
        obtain ⟨wq, hwq⟩ : ∃ wq, Hid (wq = wr.drew) := ⟨_, rfl⟩
        rw [show ({ wr with drawn := wr.drawn + 1 } : World) = wr.drew from rfl, ← hwq.out]
        replace ha : Arr wq (w.heap.size + 1) 67 (wcells (sch xs t)) := by rw [hwq.out]; exact ha.drew
        replace hr : Arr wq w.heap.size 67 (wcells []) := by rw [hwq.out]; exact hr.drew
        replace hl : Lst .u8 wq ao n c xs := by rw [hwq.out]; exact hl.drew
        replace hb : Below w.heap.size w wq := by rw [hwq.out]; exact below_drew hb
        replace c7 : wq.cell? ⟨w.heap.size + 1, ((t : Int) - 7).toNat, none⟩ = some (.int .u32 (x7 : Int)) := by rw [hwq.out]; exact c7
        replace c16 : wq.cell? ⟨w.heap.size + 1, ((t : Int) - 16).toNat, none⟩ = some (.int .u32 (x16 : Int)) := by rw [hwq.out]; exact c16
        clear hwq c2 c15
        have hs1 := ss1_eq x2 (by omega)
        have hs0 := ss0_eq x15 (by omega)
        have hsum := nxt_sum (ss1 x2) x7 (ss0 x15) x16
        obtain ⟨X, hX⟩ : ∃ X : Nat, Hid (X = (ss1 x2 + x7 + ss0 x15 + x16) % 4294967296) := ⟨_, rfl⟩
        rw [← hX.out] at hsum
        have hnx : Hid (X = nxt (sch xs t) t) := by
          show _ = _
          rw [hX.out, nxt, hx2.out, hx7.out, hx15.out, hx16.out]
        have hf := ha.frozen t
        have hc : wq.cell? ⟨w.heap.size + 1, t, none⟩ = some (.int .u32 0) := by
          rw [ha.cell t]; exact wcells_new (sch_len xs t) (by omega)
        have hA : Hid (Arr (wq.setCell ⟨w.heap.size + 1, t, none⟩ (.int .u32 (X : Int))) (w.heap.size + 1) 67 (wcells (sch xs (t + 1)))) := by
          have := ha.set t (.int .u32 (X : Int))
          rw [wcells_set (sch_len xs t) (by omega)] at this
          rw [sch, if_neg (by omega), ← hnx.out]
          exact this
        have hR := Lib.hid (hr.far (p := ⟨w.heap.size + 1, t, none⟩) (by simp) (.int .u32 (X : Int)))
        have hB := Lib.hid (hb.setCell (p := ⟨w.heap.size + 1, t, none⟩) (by simp) (.int .u32 (X : Int)))
        have hL := Lib.hid (hl.set' (fun i hi => hlow.out i hi) (p := ⟨w.heap.size + 1, t, none⟩) (by simp) (.int .u32 (X : Int)))
        clear hlt32 ha hr hl hb
        go_wp2
        go_still_tail 29, (by kernel_rfl)
        still_call (still_of (rot_c x2 17 17 rfl _ l2 (by omega) (by omega)))
        repeat still_step
        still_call (still_of (rot_c x2 19 19 rfl _ l2 (by omega) (by omega)))
        repeat still_step
        still_call (still_of (rot_c x15 7 7 rfl _ l15 (by omega) (by omega)))
        repeat still_step
        still_call (still_of (rot_c x15 18 18 rfl _ l15 (by omega) (by omega)))
        repeat still_step
        refine wpStill_nil ?_
        go_wp2
        go_roundw
        case rel => exact ⟨t + 1, by omega, by go_num, hA.out.drew, hR.out.drew, hL.out.drew, below_drew hB.out⟩
        case measure => simp [intOf]; omega
    · obtain rfl : t = 64 := by omega
      have hlen := sch_len xs 64
      rw [← hS.out] at ha hlen
      have HL := Lib.hid hlen
      have hsz := ha.lt
      clear hlen
      go_wp2_with (first
        | ((with_reducible refine wpList_load_arr (d := some 85) arr54 ha ?e1 ?e2 ?_); (case e1 => rfl); (case e2 => exact wcells_len (Nat.le_of_eq HL.out)))
        | ((with_reducible refine wpList_store_arr (x := .tmp 2) (y := .tmp 85) (cs := wcells S) arr54 hr ?e1 ?e2 ?e3 ?e4 ?e5 ?_); (case e1 => rfl); (case e2 => rfl); (case e3 => exact wcells_len (Nat.zero_le _)); (case e4 => exact wcells_len (Nat.le_of_eq HL.out)); (case e5 => exact wcells_one S); intro w2 hA2 hO2))
      refine bodyPost_ret (results_arr arr54 rfl _ rfl hA2 (wcells_len (Nat.le_of_eq HL.out))) rfl ⟨rfl, hO2.below hb (by omega) (Nat.le_refl _)⟩
end Go.Proofs.YtgomconcfjllcaaDoor
