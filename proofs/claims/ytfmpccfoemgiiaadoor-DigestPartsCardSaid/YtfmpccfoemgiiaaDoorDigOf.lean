/-
  digest.Of, electionref04.Of.
-/
import Derived.Test.YtfmpccfoemgiiaaDoorDigRefJoin
namespace Go.Proofs.YtfmpccfoemgiiaaDoor
open Go.RowKit Dig

theorem Own.nilcap {e : TypeId} {k : IntKind} {B : Nat} {w : World} {ao : Option Addr} {n c : Nat} {xs : List Int} (h : Own e k B w ao n c xs) : ao = none → c = 0 := by
  intro ha
  rcases h.cases with ⟨_, _, hc, _⟩ | ⟨g, hg, _⟩
  · exact hc
  · rw [ha] at hg; cases hg
theorem join_le (ps : List (List Int)) (hn : ps.length ≤ 1000) (hB : ∀ p ∈ ps, p.length ≤ 1000) : (joinL ps).length ≤ 1004000 := by
  have := take_len_le ps 1000 ps.length hB hn (by omega)
  rwa [List.take_of_length_le (Nat.le_refl _)] at this

set_option maxHeartbeats 1600000 in
set_option maxRecDepth 100000 in
theorem of_c (ao : Option Addr) (n c : Nat) (ps : List (List Int)) (w : World) (h : Parts w ao n c ps) (hn : n ≤ 1000) (hB : ∀ p ∈ ps, p.length ≤ 1000) (hK : KTab 1 w) :
    Calls Tryd.prog 16 #[.slice ao n c] w fun e w' => e = .returned (.agg (bcells (sumL (joinL ps))).toArray) ∧ Below w.heap.size w w' := by
  obtain ⟨F, hF⟩ : ∃ F, Hid (F = sumL (joinL ps)) := ⟨_, rfl⟩
  have hFl : Hid (F.length = 32) := by show _ = _; rw [hF.out]; rfl
  rw [← hF.out]
  have b1 : Below w.heap.size w (w.alloc (.cells (List.replicate 32 (Value.int .u8 0)).toArray 25)) := (Below.refl _ _).alloc (Nat.le_refl _) _
  have R1 : Arr (w.alloc (.cells (List.replicate 32 (Value.int .u8 0)).toArray 25)) w.heap.size 25 (bcells []) := Arr.new w 25 (List.replicate 32 (Value.int .u8 0))
  obtain ⟨V, hV⟩ : ∃ V, Hid (V = w.alloc (.cells (List.replicate 32 (Value.int .u8 0)).toArray 25)) := ⟨_, rfl⟩
  rw [← hV.out] at b1 R1
  have HR := Lib.hid R1
  have HB := Lib.hid b1
  have HJ := Lib.hid (join_c ao n c ps V (h.below b1) hn hB)
  have HJL := Lib.hid (join_le ps (by rw [h.len]; exact hn) hB)
  clear R1 b1 h
  go_enter Tryd.func16, Tryd.ntmps16
  go_upto_region 1 with (fail)
  rw [show (w.alloc (.cells #[.int .u8 0, .int .u8 0, .int .u8 0, .int .u8 0, .int .u8 0, .int .u8 0, .int .u8 0, .int .u8 0, .int .u8 0, .int .u8 0, .int .u8 0, .int .u8 0, .int .u8 0, .int .u8 0, .int .u8 0, .int .u8 0, .int .u8 0, .int .u8 0, .int .u8 0, .int .u8 0, .int .u8 0, .int .u8 0, .int .u8 0, .int .u8 0, .int .u8 0, .int .u8 0, .int .u8 0, .int .u8 0, .int .u8 0, .int .u8 0, .int .u8 0, .int .u8 0] 25)) = V from hV.out.symm]
  go_wp2_with fail
  refine HJ.out.mono ?_
  rintro e w1 ⟨a1, m1, c1, rfl, O1, b1⟩
  have hm1 : m1 ≤ 1004000 := by rw [← O1.len]; exact HJL.out
  have B1 := HB.out.trans (b1.mono HB.out.size)
  have HS := Lib.hid (sum_c a1 m1 c1 (joinL ps) w1 O1.lst O1.nilcap (by omega) (hK.below B1))
  rw [← hF.out] at HS
  have HB1 := Lib.hid B1
  have HR1 := Lib.hid (HR.out.kept b1)
  clear O1 b1 B1 HJ HR HB
  go_wp2_with (first
    | (go_at_call 10; refine HS.out.mono ?_; rintro e w2 ⟨rfl, b2⟩; have HB2 := Lib.hid b2; clear b2)
    | ((with_reducible refine wpList_store_arr (x := .tmp 2) (y := .tmp 5) (cs := bcells F) arr25 (HR1.out.kept HB2.out) ?e1 ?e2 ?e3 ?e4 ?e5 ?_); (case e1 => rfl); (case e2 => rfl); (case e3 => exact bcells_len (Nat.zero_le _)); (case e4 => exact bcells_len (Nat.le_of_eq hFl.out)); (case e5 => exact bcells_one F); intro w9 hA9 hO9))
  have hz2 := HB2.out.size
  have hz1 := HB1.out.size
  refine bodyPost_ret (results_arr arr25 rfl _ rfl hA9 (bcells_len (Nat.le_of_eq hFl.out))) rfl ⟨rfl, hO9.below (HB1.out.trans (HB2.out.mono hz1)) (by omega) (Nat.le_refl _)⟩
set_option maxHeartbeats 1600000 in
set_option maxRecDepth 100000 in
theorem refof_c (ao : Option Addr) (n c : Nat) (ps : List (List Int)) (w : World) (h : Parts w ao n c ps) (hn : n ≤ 1000) (hB : ∀ p ∈ ps, p.length ≤ 1000) (hK : KTab 0 w) :
    Calls Tryd.prog 17 #[.slice ao n c] w fun e w' => e = .returned (.agg (bcells (sumL (joinL ps))).toArray) ∧ Below w.heap.size w w' := by
  obtain ⟨F, hF⟩ : ∃ F, Hid (F = sumL (joinL ps)) := ⟨_, rfl⟩
  have hFl : Hid (F.length = 32) := by show _ = _; rw [hF.out]; rfl
  rw [← hF.out]
  have b1 : Below w.heap.size w (w.alloc (.cells (List.replicate 32 (Value.int .u8 0)).toArray 25)) := (Below.refl _ _).alloc (Nat.le_refl _) _
  have R1 : Arr (w.alloc (.cells (List.replicate 32 (Value.int .u8 0)).toArray 25)) w.heap.size 25 (bcells []) := Arr.new w 25 (List.replicate 32 (Value.int .u8 0))
  obtain ⟨V, hV⟩ : ∃ V, Hid (V = w.alloc (.cells (List.replicate 32 (Value.int .u8 0)).toArray 25)) := ⟨_, rfl⟩
  rw [← hV.out] at b1 R1
  have HR := Lib.hid R1
  have HB := Lib.hid b1
  have HJ := Lib.hid (refjoin_c ao n c ps V (h.below b1) hn hB)
  have HJL := Lib.hid (join_le ps (by rw [h.len]; exact hn) hB)
  clear R1 b1 h
  go_enter Tryd.func17, Tryd.ntmps17
  go_upto_region 1 with (fail)
  rw [show (w.alloc (.cells #[.int .u8 0, .int .u8 0, .int .u8 0, .int .u8 0, .int .u8 0, .int .u8 0, .int .u8 0, .int .u8 0, .int .u8 0, .int .u8 0, .int .u8 0, .int .u8 0, .int .u8 0, .int .u8 0, .int .u8 0, .int .u8 0, .int .u8 0, .int .u8 0, .int .u8 0, .int .u8 0, .int .u8 0, .int .u8 0, .int .u8 0, .int .u8 0, .int .u8 0, .int .u8 0, .int .u8 0, .int .u8 0, .int .u8 0, .int .u8 0, .int .u8 0, .int .u8 0] 25)) = V from hV.out.symm]
  go_wp2_with fail
  refine HJ.out.mono ?_
  rintro e w1 ⟨a1, m1, c1, rfl, O1, b1⟩
  have hm1 : m1 ≤ 1004000 := by rw [← O1.len]; exact HJL.out
  have B1 := HB.out.trans (b1.mono HB.out.size)
  have HS := Lib.hid (refsum_c a1 m1 c1 (joinL ps) w1 O1.lst O1.nilcap (by omega) (hK.below B1))
  rw [← hF.out] at HS
  have HB1 := Lib.hid B1
  have HR1 := Lib.hid (HR.out.kept b1)
  clear O1 b1 B1 HJ HR HB
  go_wp2_with (first
    | (go_at_call 11; refine HS.out.mono ?_; rintro e w2 ⟨rfl, b2⟩; have HB2 := Lib.hid b2; clear b2)
    | ((with_reducible refine wpList_store_arr (x := .tmp 2) (y := .tmp 5) (cs := bcells F) arr25 (HR1.out.kept HB2.out) ?e1 ?e2 ?e3 ?e4 ?e5 ?_); (case e1 => rfl); (case e2 => rfl); (case e3 => exact bcells_len (Nat.zero_le _)); (case e4 => exact bcells_len (Nat.le_of_eq hFl.out)); (case e5 => exact bcells_one F); intro w9 hA9 hO9))
  have hz2 := HB2.out.size
  have hz1 := HB1.out.size
  refine bodyPost_ret (results_arr arr25 rfl _ rfl hA9 (bcells_len (Nat.le_of_eq hFl.out))) rfl ⟨rfl, hO9.below (HB1.out.trans (HB2.out.mono hz1)) (by omega) (Nat.le_refl _)⟩

end Go.Proofs.YtfmpccfoemgiiaaDoor

