/-
  digest.Join.
-/
import Derived.Test.YtfmpccfoemgiiaaDoorDigBytes
namespace Go.Proofs.YtfmpccfoemgiiaaDoor
open Go.RowKit Dig

namespace Dig
def joinL (ps : List (List Int)) : List Int := ps.flatMap fun p => beN p.length 4 ++ p
theorem joinL_next (ps : List (List Int)) (i : Nat) (hi : i < ps.length) : joinL (ps.take (i + 1)) = joinL (ps.take i) ++ (beN (ps.getD i []).length 4 ++ ps.getD i []) := by
  have e : ps.take (i + 1) = ps.take i ++ [ps.getD i []] := by
    rw [List.take_succ_eq_append_getElem hi]
    simp [List.getD, hi]
  rw [e, joinL, joinL, List.flatMap_append]
  simp
theorem joinL_len (ps : List (List Int)) (B : Nat) (h : ∀ p ∈ ps, p.length ≤ B) : (joinL ps).length ≤ ps.length * (B + 4) := by
  induction ps with
  | nil => exact Nat.zero_le _
  | cons p ps ih =>
    have e : joinL (p :: ps) = (beN p.length 4 ++ p) ++ joinL ps := rfl
    have h1 := ih (fun q hq => h q (List.mem_cons_of_mem _ hq))
    have h2 := h p (List.mem_cons_self ..)
    rw [e, List.length_append, List.length_append, beN_len, List.length_cons, Nat.add_mul]
    omega
theorem take_len_le (ps : List (List Int)) (B i : Nat) (h : ∀ p ∈ ps, p.length ≤ B) (hn : ps.length ≤ 1000) (hB : B ≤ 1000) : (joinL (ps.take i)).length ≤ 1004000 := by
  have h1 := joinL_len (ps.take i) B (fun p hp => h p (List.mem_of_mem_take hp))
  have h2 : (ps.take i).length ≤ 1000 := by rw [List.length_take]; omega
  have h3 : (ps.take i).length * (B + 4) ≤ 1000 * 1004 := Nat.mul_le_mul h2 (by omega)
  omega
end Dig

theorem size22 : (Tryd.prog.info? 22).map (·.size) = some 1 := by kernel_rfl

/-- A slice of slices of bytes. -/
structure Parts (w : World) (ao : Option Addr) (n c : Nat) (ps : List (List Int)) : Prop where
  len : ps.length = n
  cap : n ≤ c
  room : c ≤ 9223372036854775807
  isSome : 0 < n → ∃ a, ao = some a
  part : ∀ i, i < n → ∃ a l d, w.cell? (pt ao i) = some (.slice a l d) ∧ Lst .u8 w a l d (ps.getD i []) ∧ (a = none → d = 0)
theorem Parts.below {w w' : World} {ao : Option Addr} {n c : Nat} {ps : List (List Int)} (h : Parts w ao n c ps) (hb : Below w.heap.size w w') : Parts w' ao n c ps :=
  ⟨h.len, h.cap, h.room, h.isSome, fun i hi => by
    obtain ⟨a, l, d, hc, hl, h0⟩ := h.part i hi
    exact ⟨a, l, d, (hb.cell (World.block_lt_of_cell? w _ hc)).trans hc, hl.below hb, h0⟩⟩
theorem Parts.drew {w : World} {ao : Option Addr} {n c : Nat} {ps : List (List Int)} (h : Parts w ao n c ps) : Parts w.drew ao n c ps :=
  ⟨h.len, h.cap, h.room, h.isSome, fun i hi => by
    obtain ⟨a, l, d, hc, hl, h0⟩ := h.part i hi
    exact ⟨a, l, d, hc, hl.drew, h0⟩⟩
theorem ix28 {w : World} {ao : Option Addr} {n c : Nat} {ps : List (List Int)} (h : Parts w ao n c ps) (i : Nat) (hi : i < n) (W : World) :
    (Instr.indexAt 28 (.slice ao n c) (.int .i64 (i : Int))).run Tryd.prog W = .ok (.pointer (some (pt ao i))) W := by
  obtain ⟨a, rfl⟩ := h.isSome (by omega)
  obtain ⟨inf, hinf, hs⟩ := Option.map_eq_some_iff.1 size22
  have h1 : (0 : Int) ≤ (i : Int) ∧ (i : Int) < (n : Int) := by omega
  simp [Instr.indexAt, run_underlying Tryd.underlying28, asIntOf, sizeOf, typeInfo, hinf, hs, pt, hi]
theorem getD_mem {ps : List (List Int)} {i : Nat} (hi : i < ps.length) : ps.getD i [] ∈ ps := by
  rw [List.getD_eq_getElem?_getD, List.getElem?_eq_getElem hi]
  exact List.getElem_mem _

set_option maxHeartbeats 1600000 in
set_option maxRecDepth 100000 in
theorem join_c (ao : Option Addr) (n c : Nat) (ps : List (List Int)) (w : World) (h : Parts w ao n c ps) (hn : n ≤ 1000) (hB : ∀ p ∈ ps, p.length ≤ 1000) :
    Calls Tryd.prog 14 #[.slice ao n c] w fun e w' => ∃ ao' m' c', e = .returned (.slice ao' m' c') ∧ Own 5 .u8 w.heap.size w' ao' m' c' (joinL ps) ∧ Below w.heap.size w w' := by
  obtain ⟨i0, hi, hz0, hz1, hz2⟩ := info_parts info5
  have HPL := Lib.hid h.len
  have hcap := h.cap
  have hroom := h.room
  have HTL : Hid (∀ i, (joinL (ps.take i)).length ≤ 1004000) := fun i => take_len_le ps 1000 i hB (by rw [h.len]; exact hn) (by omega)
  have HH := Lib.hid h
  clear h
  go_enter Tryd.func14, Tryd.ntmps14
  go_wp2
  go_loop [3, 11] (fun v i => ∃ (k z : Nat), k ≤ n ∧ i = .int .i64 k ∧ v = .int .i64 z ∧ Hid (z = (joinL (ps.take k)).length)) (fun _ i => n - (intOf i).toNat)
  case atStart => exact ⟨0, 0, by omega, rfl, rfl, rfl⟩
  case round =>
    obtain ⟨k, z, hk, rfl, rfl, hz⟩ := hrel
    have hz' : z ≤ 1004000 := by rw [hz.out]; exact HTL.out k
    by_cases hlt : k < n
    · obtain ⟨a, l, d, hc, hL, h0⟩ := HH.out.part k hlt
      have hix := ix28 HH.out k hlt
      have hlt' : (k : Int) < (n : Int) := by omega
      have hl1 : l ≤ 1000 := by rw [← hL.len]; exact hB _ (getD_mem (by rw [HPL.out]; exact hlt))
      have hz2 : Hid (z + (4 + l) = (joinL (ps.take (k + 1))).length) := by
        show _ = _
        rw [joinL_next ps k (by rw [HPL.out]; exact hlt), List.length_append, List.length_append, beN_len, hL.len, ← hz.out]
      clear hL h0
      go_wp2
      go_round
      case rel => exact ⟨k + 1, z + (4 + l), by omega, by go_num, by go_num, hz2⟩
      case measure => simp [intOf]; omega
    · obtain rfl : k = n := by omega
      go_wp2_with (at_make; refine wpList_make_own _ rfl _ _ 22 rfl w.heap.size 5 i0 (.int .u8 0) 1 Tryd.underlying22 hi hz0 hz1 _ _ _ z rfl rfl rfl (by rw [hz2]; omega) (by unfold maxLen; omega) (Nat.le_refl _) ?_)
      intro w1 hown hgr
      have O1 : Own 5 .u8 w.heap.size w1 (some ⟨w.heap.size, 0, none⟩) 0 z (joinL (ps.take 0)) := ⟨hown, fun x hx => by cases hx⟩
      have b1 : Below w.heap.size w w1 := (Below.refl _ _).grown hgr (Nat.le_refl _) (fun k hk => by cases hk)
      clear hown hgr
      go_wp2
      go_loopw [6, 25] (fun v i wr => ∃ (j l : Nat) (a : Option Addr) (d : Nat), j ≤ k ∧ i = .int .i64 j ∧ v = .slice a l d ∧ Own 5 .u8 w.heap.size wr a l d (joinL (ps.take j)) ∧ Below w.heap.size w wr)
        (fun _ i _ => k - (intOf i).toNat)
      case atStart => exact ⟨0, 0, _, _, by omega, rfl, rfl, O1, b1⟩
      case round =>
        clear O1 b1
        obtain ⟨j, l, a, d, hj, rfl, rfl, O, B⟩ := hrel
        have hll : l ≤ 1004000 := by rw [← O.len]; exact HTL.out j
        have zB := B.size
        by_cases hlt : j < k
        · obtain ⟨a1, l1, d1, hc0, hL, h0⟩ := HH.out.part j hlt
          have hix := ix28 HH.out j hlt
          have hc : wr.cell? (pt ao j) = some (.slice a1 l1 d1) := (B.cell (World.block_lt_of_cell? w _ hc0)).trans hc0
          have hlt' : (j : Int) < (k : Int) := by omega
          have hl1 : l1 ≤ 1000 := by rw [← hL.len]; exact hB _ (getD_mem (by rw [HPL.out]; exact hlt))
          have HC := Lib.hid (appendNumber_c w.heap.size a l d _ l1 4 wr O zB (by omega) (by omega) (by omega))
          have hnx : Hid (joinL (ps.take j) ++ beN l1 4 ++ ps.getD j [] = joinL (ps.take (j + 1))) := by
            show _ = _
            rw [joinL_next ps j (by rw [HPL.out]; exact hlt), hL.len, List.append_assoc]
          have HLs := Lib.hid hL
          have H0 := Lib.hid h0
          clear O hL h0 hc0
          go_wp2_with fail
          refine HC.out.mono ?_
          rintro e w2 ⟨a2, m2, d2, rfl, O2, b2⟩
          have hm2 : m2 ≤ 1004010 := by rw [← O2.len, List.length_append, beN_len]; have := HTL.out j; omega
          have B2 := B.trans b2
          have z2 := B2.size
          go_wp2_with (at_builtin; refine wpList_appL (p := .tmp 34) (q := .tmp 35) (B := w.heap.size) O2 (HLs.out.below B2) H0.out z2 (by omega) (by omega) rfl rfl ?_)
          intro a3 d3 w3 O3 b3
          rw [hnx.out] at O3
          have B3 := B2.trans b3
          go_wp2
          go_roundw
          case rel => exact ⟨j + 1, m2 + l1, a3, d3, by omega, by go_num, rfl, O3, B3⟩
          case measure => simp [intOf]; omega
        · obtain rfl : j = k := by omega
          rw [List.take_of_length_le (by rw [HPL.out]; omega)] at O
          go_wp2
          go_ret
          exact ⟨_, _, _, rfl, O, B⟩
end Go.Proofs.YtfmpccfoemgiiaaDoor
