/-
  digest.Sum.
-/
import Derived.Test.YtgomconcfjllcaaDoorDigTail
namespace Go.Proofs.YtgomconcfjllcaaDoor
open Go.RowKit Dig

namespace Dig
theorem sch_congr {b b' : List Int} (h : ∀ i, i < 64 → b.getD i 0 = b'.getD i 0) (t : Nat) : sch b t = sch b' t := by
  induction t with
  | zero => rfl
  | succ t ih =>
    rw [sch, sch, ih]
    by_cases ht : t < 16
    · rw [if_pos ht, if_pos ht, wd, wd, h _ (by omega), h _ (by omega), h _ (by omega), h _ (by omega)]
    · rw [if_neg ht, if_neg ht]
theorem blkS_congr {b b' : List Int} (s : St) (h : ∀ i, i < 64 → b.getD i 0 = b'.getD i 0) : blkS s b = blkS s b' := by rw [blkS, blkS, sch_congr h]
theorem cmpS_front (s : St) (a b : List Int) (k : Nat) (h : 64 * k ≤ a.length) : cmpS s (a ++ b) k = cmpS s a k := by
  induction k with
  | zero => rfl
  | succ k ih =>
    rw [cmpS, cmpS, ih (by omega)]
    refine blkS_congr _ fun i hi => ?_
    rw [List.drop_append_of_le_length (by omega), List.getD_eq_getElem?_getD, List.getElem?_append_left (by simp; omega), ← List.getD_eq_getElem?_getD]
theorem cmpS_append (s : St) (a b : List Int) (k j : Nat) (h : a.length = 64 * k) : cmpS s (a ++ b) (k + j) = cmpS (cmpS s a k) b j := by
  induction j with
  | zero => rw [Nat.add_zero, cmpS_front s a b k (by omega)]; rfl
  | succ j ih =>
    rw [← Nat.add_assoc, cmpS, cmpS, ih, show 64 * (k + j) = a.length + 64 * j by omega, List.drop_append, List.drop_eq_nil_of_le (by omega)]
    simp
theorem tailL_len (xs : List Int) (N : Nat) : (tailL xs N).length = xs.length + 1 + zer xs.length + 8 := by
  simp [tailL, beN_len]; omega
theorem tailL_mod (xs : List Int) (N : Nat) : (tailL xs N).length % 64 = 0 := by
  rw [tailL_len]; have := zer_end xs.length; omega
theorem tailL_split (xs : List Int) (N W : Nat) (hW : W % 64 = 0) (h : W ≤ xs.length) : tailL xs N = xs.take W ++ tailL (xs.drop W) N := by
  have hz : zer (xs.drop W).length = zer xs.length := by unfold zer; rw [List.length_drop]; congr 2; omega
  rw [tailL, tailL, hz, ← List.append_assoc, ← List.append_assoc, ← List.append_assoc, List.take_append_drop]
/-- The digest, block by block: whole blocks of the message first, then what is left over with the padding. -/
theorem sumL_split (xs : List Int) (W K1 K2 : Nat) (hW : W = 64 * K1) (h : W ≤ xs.length) (h2 : (tailL (xs.drop W) xs.length).length = 64 * K2) : sumL xs = outL (cmpS (cmpS h0 (xs.take W) K1) (tailL (xs.drop W) xs.length) K2) := by
  have hl : (xs.take W).length = 64 * K1 := by rw [List.length_take, Nat.min_eq_left h, hW]
  rw [sumL, tailL_split xs xs.length W (by omega) h, List.length_append, hl, h2, show (64 * K1 + 64 * K2) / 64 = K1 + K2 by omega, cmpS_append _ _ _ _ _ hl]
end Dig

/-- A cut from the front, under one name whatever the capacity. -/
theorem slice_from (ao : Option Addr) (n c l : Nat) (hl : l ≤ n) (W : World) :
    (Instr.slice 48 (.slice ao n c) (some (.int .i64 (l : Int))) none none).run Tryd.prog W = .ok (.slice (cutA ao c l) (n - l) (c - l)) W := by
  obtain ⟨inf, hinf, hs⟩ := Option.map_eq_some_iff.1 size5
  rw [run_slice_l (P := Tryd.prog) (w := W) 48 ao n c Tryd.underlying48 .i64 (l : Int) (by omega) (by omega)]
  have e : (sizeOf (Tryd.prog.elem 48)).run Tryd.prog W = .ok 1 W := by
    show (sizeOf 5).run Tryd.prog W = .ok 1 W
    simp [sizeOf, typeInfo, hinf, hs]
  rw [e]
  simp [sliced, cutA]

set_option maxHeartbeats 1600000 in
set_option maxRecDepth 100000 in
theorem sum_c (ao : Option Addr) (n c : Nat) (xs : List Int) (w : World) (h : Lst .u8 w ao n c xs) (hnil : ao = none → c = 0) (hn : n ≤ 274877906944) (hK : KTab 1 w) :
    Calls Tryd.prog 26 #[.slice ao n c] w fun e w' => e = .returned (.agg (bcells (sumL xs)).toArray) ∧ Below w.heap.size w w' := by
  have hcap := h.cap
  have hroom := h.room
  obtain ⟨F, hF⟩ : ∃ F, Hid (F = sumL xs) := ⟨_, rfl⟩
  have hFl : Hid (F.length = 32) := by show _ = _; rw [hF.out]; rfl
  rw [← hF.out]
  obtain ⟨m, hm⟩ : ∃ m, Hid (m = n % 64) := ⟨_, rfl⟩
  have em : (n : Int) % 64 = (m : Int) := by rw [hm.out]; omega
  have hmn : m ≤ n := by rw [hm.out]; omega
  obtain ⟨W, hW⟩ : ∃ W, Hid (W = n - m) := ⟨_, rfl⟩
  have eW : (n : Int) - (m : Int) = (W : Int) := by rw [hW.out]; omega
  have hWn : W ≤ n := by rw [hW.out]; omega
  have hWi : (W : Int) ≤ n := by omega
  have hWc : (W : Int) ≤ c := by omega
  go_enter Tryd.func26, Tryd.ntmps26
  go_wp2_with (first
    | (go_at_call 30; refine (start_c _).mono ?_; rintro e w2 ⟨rfl, b2⟩; have z2 := b2.size))
  have b1 : Below w.heap.size w (w.alloc (.cells (List.replicate 32 (Value.int .u8 0)).toArray 46)) := (Below.refl _ _).alloc (Nat.le_refl _) _
  have B2 : Below w.heap.size w w2 := b1.trans (Below.mono b2 (by simp))
  have R2 : Arr w2 w.heap.size 46 (bcells []) := (Arr.new w 46 (List.replicate 32 (Value.int .u8 0))).kept b2
  have hz2 : w.heap.size < w2.heap.size := R2.lt
  obtain ⟨g, hg⟩ : ∃ g, Hid (g = w2.heap.size) := ⟨_, rfl⟩
  obtain ⟨w3, hw3⟩ : ∃ w3, Hid (w3 = w2.alloc (.cells (stv h0).toArray 59)) := ⟨_, rfl⟩
  have b3 : Below w2.heap.size w2 w3 := by rw [hw3.out]; exact (Below.refl _ _).alloc (Nat.le_refl _) _
  have A3 : Arr w3 g 59 (stv h0) := by rw [hw3.out, hg.out]; exact Arr.new _ _ _
  have B3 : Below w.heap.size w w3 := B2.trans (b3.mono (by omega))
  have R3 := R2.kept b3
  have L3 := h.below B3
  have K3 := hK.below B3
  have hgw : w.heap.size < g := by rw [hg.out]; exact hz2
  have hlow : ∀ i, i < n → (pt ao i).block ≠ g := fun i hi e => by have := h.block i hi; omega
  have hkg : 1 ≠ g := fun e => by have := hK.lt; omega
  obtain ⟨K1, hK1⟩ : ∃ K, Hid (W = 64 * K) := ⟨W / 64, by show _ = _; rw [hW.out, hm.out]; omega⟩
  have hWm : W % 64 = 0 := by rw [hK1.out]; omega
  have hxl := h.len
  have hlen2 : (xs.drop W).length = m := by rw [List.length_drop, hxl, hW.out]; omega
  obtain ⟨K2, hK2⟩ : ∃ K, Hid ((tailL (xs.drop W) n).length = 64 * K) := ⟨(tailL (xs.drop W) n).length / 64, by show _ = _; have := tailL_mod (xs.drop W) n; omega⟩
  obtain ⟨s1, hs1⟩ : ∃ s, Hid (s = cmpS h0 (xs.take W) K1) := ⟨_, rfl⟩
  have ok1 : s1.Ok := by rw [hs1.out]; exact cmpS_ok h0_ok _ _
  obtain ⟨s2, hs2⟩ : ∃ s, Hid (s = cmpS s1 (tailL (xs.drop W) n) K2) := ⟨_, rfl⟩
  have ok2 : s2.Ok := by rw [hs2.out]; exact cmpS_ok ok1 _ _
  have hfin : Hid (sumL xs = outL s2) := by
    show _ = _
    rw [hs2.out, hs1.out, ← hxl]
    exact sumL_split xs W K1 K2 hK1.out (by omega) (by rw [hxl]; exact hK2.out)
  have HC := Lib.hid (compress_c g h0 h0_ok ao W c (xs.take W) w3 A3 (L3.take hWn) K1 hK1.out (fun i hi => hlow i (by omega)) K3 hkg)
  rw [← hs1.out] at HC
  rw [show (w2.alloc (.cells #[.int .u32 (h0.a : Int), .int .u32 (h0.b : Int), .int .u32 (h0.c : Int), .int .u32 (h0.d : Int), .int .u32 (h0.e : Int), .int .u32 (h0.f : Int), .int .u32 (h0.g : Int), .int .u32 (h0.h : Int)] 59)) = w3 from hw3.out.symm, ← hg.out]
  clear b1 b2 z2 B2 R2 hz2 b3 A3 hw3
  refine HC.out.mono ?_
  rintro e w4 ⟨rfl, A4, G4⟩
  have hcut := slice_from ao n c W hWn
  have L4 := L3.grownBy G4 hlow
  have K4 := K3.grown G4 hkg
  have B4 : Below w.heap.size w w4 := B3.grown G4 B3.size (fun k hk => by injection hk with hk; omega)
  have R4 : Arr w4 w.heap.size 46 (bcells []) := (G4.block _ R3.lt (fun e => by injection e with e; omega)).trans R3
  have hnilc : cutA ao c W = none → c - W = 0 := fun e => by
    cases ao with
    | none => rw [hnil rfl]; omega
    | some a => unfold cutA at e; split at e <;> cases e
  have HT := Lib.hid (tail_c (cutA ao c W) (n - W) (c - W) (xs.drop W) n w4 (L4.cut hWn) hnilc (by omega) (by omega))
  have hgl := A4.lt
  clear L3 K3 L4 B3 R3 HC G4 hnilc h hK
  go_wp2_with fail
  refine HT.out.mono ?_
  rintro e w5 ⟨a5, m5, c5, rfl, O5, b5⟩
  have hm5 : Hid (m5 = 64 * K2) := by show _ = _; rw [← O5.len]; exact hK2.out
  have HC2 := Lib.hid (compress_c g s1 ok1 a5 m5 c5 (tailL (xs.drop W) n) w5 (A4.kept b5) O5.lst K2 hm5.out (fun i hi e => by have := O5.base hi; omega) (K4.below b5) hkg)
  rw [← hs2.out] at HC2
  have B5 : Below w.heap.size w w5 := B4.trans (b5.mono B4.size)
  have R5 := R4.kept b5
  clear HT A4 K4 B4 R4 O5 b5 hcut
  go_wp2_with fail
  refine HC2.out.mono ?_
  rintro e w6 ⟨rfl, A6, G6⟩
  have HA6 := Lib.hid A6
  have HB6 := Lib.hid (B5.grown G6 B5.size (fun k hk => by injection hk with hk; omega))
  have HR6 : Hid (Arr w6 w.heap.size 46 (bcells [])) := (G6.block _ R5.lt (fun e => by injection e with e; omega)).trans R5
  have HO := Lib.hid (output_c s2 ok2 w6)
  rw [← hfin.out, ← hF.out] at HO
  clear HC2 A6 G6 B5 R5
  go_wp2_with (first
    | ((with_reducible refine wpList_load_arr (d := some 24) arr43 HA6.out ?e1 ?e2 ?_); (case e1 => rfl); (case e2 => rfl))
    | (go_at_call 33; refine HO.out.mono ?_; rintro e w7 ⟨rfl, b7⟩; have HB7 := Lib.hid b7; clear b7)
    | ((with_reducible refine wpList_store_arr (x := .tmp 2) (y := .tmp 25) (cs := bcells F) arr25 (HR6.out.kept HB7.out) ?e1 ?e2 ?e3 ?e4 ?e5 ?_); (case e1 => rfl); (case e2 => rfl); (case e3 => exact bcells_len (Nat.zero_le _)); (case e4 => exact bcells_len (Nat.le_of_eq hFl.out)); (case e5 => exact bcells_one F); intro w9 hA9 hO9))
  have hz7 := HB7.out.size
  have hz6 := HB6.out.size
  refine bodyPost_ret (results_arr arr25 rfl _ rfl hA9 (bcells_len (Nat.le_of_eq hFl.out))) rfl ⟨rfl, hO9.below (HB6.out.trans (HB7.out.mono hz6)) (by omega) (Nat.le_refl _)⟩
end Go.Proofs.YtgomconcfjllcaaDoor
