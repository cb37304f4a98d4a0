/-
  A block of the reference: electionref04.block.
-/
import Derived.Test.YtfmpccfoemgiiaaDoorDigWords
import Derived.Test.YtfmpccfoemgiiaaDoorDigMix
import Derived.Test.YtfmpccfoemgiiaaDoorDigReg
import Derived.Deep.DeepCutAuto
namespace Go.Proofs.YtfmpccfoemgiiaaDoor
open Go.RowKit Dig

theorem stv_one (s : St) : ∀ v ∈ stv s, v.oneCell' = true := by
  intro v hv; simp only [stv, List.mem_cons, List.not_mem_nil, or_false] at hv; rcases hv with rfl | rfl | rfl | rfl | rfl | rfl | rfl | rfl <;> rfl

namespace Dig
/-- The sums of the first i words, the words of s behind them. -/
def partS (s u : St) (i : Nat) : List Nat := (s.add u).l.take i ++ s.l.drop i
theorem partS_len (s u : St) (i : Nat) (hi : i ≤ 8) : (partS s u i).length = 8 := by simp [partS, St.l]; omega
theorem partS_at (s u : St) (i : Nat) (hi : i < 8) : (partS s u i).getD i 0 = s.l.getD i 0 := by
  match i, hi with
  | 0, _ => rfl | 1, _ => rfl | 2, _ => rfl | 3, _ => rfl | 4, _ => rfl | 5, _ => rfl | 6, _ => rfl | 7, _ => rfl
theorem partS_set (s u : St) (i : Nat) (hi : i < 8) : (partS s u i).set i ((s.l.getD i 0 + u.l.getD i 0) % 4294967296) = partS s u (i + 1) := by
  match i, hi with
  | 0, _ => rfl | 1, _ => rfl | 2, _ => rfl | 3, _ => rfl | 4, _ => rfl | 5, _ => rfl | 6, _ => rfl | 7, _ => rfl
theorem l_lt {s : St} (h : s.Ok) (i : Nat) : s.l.getD i 0 ≤ 4294967295 := by
  match i with
  | 0 => exact h.a | 1 => exact h.b | 2 => exact h.c | 3 => exact h.d | 4 => exact h.e | 5 => exact h.f | 6 => exact h.g | 7 => exact h.h
  | j + 8 => exact Nat.zero_le _
theorem bs1_eq (x : Nat) (hx : x < 4294967296) : bits .xor .u32 (bits .xor .u32 (rotN x 6 : Nat) (rotN x 11 : Nat)) (rotN x 25 : Nat) = (bs1 x : Nat) := by
  rw [u32_xor_nat _ _ (rotN_lt hx) (rotN_lt hx), u32_xor_nat _ _ (lt_xor (rotN_lt hx) (rotN_lt hx)) (rotN_lt hx)]
  rfl
theorem bs0_eq (x : Nat) (hx : x < 4294967296) : bits .xor .u32 (bits .xor .u32 (rotN x 2 : Nat) (rotN x 13 : Nat)) (rotN x 22 : Nat) = (bs0 x : Nat) := by
  rw [u32_xor_nat _ _ (rotN_lt hx) (rotN_lt hx), u32_xor_nat _ _ (lt_xor (rotN_lt hx) (rotN_lt hx)) (rotN_lt hx)]
  rfl
theorem ch_eq (x y z : Nat) (hx : x < 4294967296) (hy : y < 4294967296) (hz : z < 4294967296) : bits .xor .u32 (bits .and .u32 (x : Int) (y : Int)) (bits .and .u32 (bits .xor .u32 IntKind.u32.max (x : Int)) (z : Int)) = (chN x y z : Nat) := by
  rw [not_eq x hx, u32_and_nat _ _ (by omega) (by omega), u32_and_nat _ _ (by omega) (by omega), u32_xor_nat _ _ (lt_and (by omega)) (lt_and (by omega))]
  rfl
theorem maj_eq (x y z : Nat) (hx : x < 4294967296) (hy : y < 4294967296) (hz : z < 4294967296) : bits .xor .u32 (bits .xor .u32 (bits .and .u32 (x : Int) (y : Int)) (bits .and .u32 (x : Int) (z : Int))) (bits .and .u32 (y : Int) (z : Int)) = (majN x y z : Nat) := by
  rw [u32_and_nat _ _ (by omega) (by omega), u32_and_nat _ _ (by omega) (by omega), u32_and_nat _ _ (by omega) (by omega), u32_xor_nat _ _ (lt_and (by omega)) (lt_and (by omega)), u32_xor_nat _ _ (lt_xor (lt_and (by omega)) (lt_and (by omega))) (lt_and (by omega))]
  rfl
end Dig
theorem u32s_at {ws : List Nat} {i : Nat} (h : i < ws.length) : (u32s ws)[i]? = some (.int .u32 ((ws.getD i 0 : Nat) : Int)) := by
  simp [u32s, List.getD, h]
theorem u32s_set (ws : List Nat) (i x : Nat) : (u32s ws).set i (.int .u32 (x : Int)) = u32s (ws.set i x) := by simp [u32s, List.map_set]

/-- What lies in memory while a block is reckoned: from block B on the words in g5, the state in g6; the caller's state in the box. -/
structure RB (w : World) (B g5 g6 : Nat) (S : List Nat) (us : List Value) (s : St) (wr : World) : Prop where
  words : Arr wr g5 54 (wcells S)
  state : Arr wr g6 43 us
  tab : KTab 0 wr
  box : Arr wr w.heap.size 43 (stv s)
  res : Arr wr (w.heap.size + 1) 43 (List.replicate 8 (.int .u32 0))
  below : Below w.heap.size w wr
  lo5 : w.heap.size + 2 ≤ g5
  lo6 : w.heap.size + 2 ≤ g6
  ne : g6 ≠ g5
theorem RB.drew {w wr : World} {B g5 g6 : Nat} {S : List Nat} {us : List Value} {s : St} (h : RB w B g5 g6 S us s wr) : RB w B g5 g6 S us s wr.drew :=
  ⟨h.words.drew, h.state.drew, h.tab, h.box.drew, h.res.drew, below_drew h.below, h.lo5, h.lo6, h.ne⟩
theorem RB.only {w wr w' : World} {B g5 g6 : Nat} {S : List Nat} {us us' : List Value} {s : St} (h : RB w B g5 g6 S us s wr) (hT : 0 < w.heap.size) (hA : Arr w' g6 43 us') (hO : Only g6 wr w') : RB w B g5 g6 S us' s w' := by
  have l5 := h.lo5; have l6 := h.lo6
  exact ⟨hO.arr h.words h.ne.symm, hA, h.tab.only hO (by omega), hO.arr h.box (by omega), hO.arr h.res (by omega), hO.below h.below h.below.size (by omega), l5, l6, h.ne⟩
theorem RB.set {w wr : World} {B g5 g6 : Nat} {S : List Nat} {us : List Value} {s : St} (h : RB w B g5 g6 S us s wr) (hT : 0 < w.heap.size) (i : Nat) (v : Value) : RB w B g5 g6 S (us.set i v) s (wr.setCell ⟨g6, i, none⟩ v) := by
  have l5 := h.lo5; have l6 := h.lo6
  refine ⟨h.words.far (p := ⟨g6, i, none⟩) h.ne.symm v, h.state.set i v, fun j hj => ?_, h.box.far (p := ⟨g6, i, none⟩) (show w.heap.size ≠ g6 by omega) v, h.res.far (p := ⟨g6, i, none⟩) (show w.heap.size + 1 ≠ g6 by omega) v, h.below.setCell (p := ⟨g6, i, none⟩) (show w.heap.size ≤ g6 by omega) v, l5, l6, h.ne⟩
  rw [World.cell?_setCell_other _ _ _ _ (fun e => by have := congrArg Addr.block e; simp only at this; omega)]
  exact h.tab j hj

set_option maxHeartbeats 3200000 in
set_option maxRecDepth 100000 in
theorem refblock_c (s : St) (hs : s.Ok) (ao : Option Addr) (n c : Nat) (xs : List Int) (w : World) (h : Lst .u8 w ao n c xs) (hn : 64 ≤ n) (hK : KTab 0 w) :
    Calls Tryd.prog 25 #[.agg (stv s).toArray, .slice ao n c] w fun e w' => e = .returned (.agg (stv (blkS s xs)).toArray) ∧ Below w.heap.size w w' := by
  have HG0 := hK.lt
  obtain ⟨S, hS⟩ : ∃ S, Hid (S = sch xs 64) := ⟨_, rfl⟩
  have HL : Hid (S.length = 64) := by show _ = _; rw [hS.out]; exact sch_len xs 64
  have HLT : Hid (∀ i, S.getD i 0 < 4294967296) := by show ∀ i, _; rw [hS.out]; exact sch_lt xs (byte_of_lst h) 64
  obtain ⟨R0, hR0⟩ : ∃ R, Hid (R = rnds S s 64) := ⟨_, rfl⟩
  have HR : Hid (blkS s xs = R0.add s) := by show _ = _; rw [blkS, ← hS.out, ← hR0.out]
  obtain ⟨F, hF⟩ : ∃ F, Hid (F = R0.add s) := ⟨_, rfl⟩
  rw [HR.out, ← hF.out]
  show Calls Tryd.prog 25 #[.agg #[.int .u32 (s.a : Int), .int .u32 (s.b : Int), .int .u32 (s.c : Int), .int .u32 (s.d : Int), .int .u32 (s.e : Int), .int .u32 (s.f : Int), .int .u32 (s.g : Int), .int .u32 (s.h : Int)], .slice ao n c] w _
  go_enter Tryd.func25, Tryd.ntmps25
  go_wp2
  obtain ⟨V, hV⟩ : ∃ V, Hid (V = (w.alloc (.cells #[.int .u32 (s.a : Int), .int .u32 (s.b : Int), .int .u32 (s.c : Int), .int .u32 (s.d : Int), .int .u32 (s.e : Int), .int .u32 (s.f : Int), .int .u32 (s.g : Int), .int .u32 (s.h : Int)] 43)).alloc (.cells #[.int .u32 0, .int .u32 0, .int .u32 0, .int .u32 0, .int .u32 0, .int .u32 0, .int .u32 0, .int .u32 0] 43)) := ⟨_, rfl⟩
  rw [← hV.out]
  have B0 : Below w.heap.size w (w.alloc (.cells #[.int .u32 (s.a : Int), .int .u32 (s.b : Int), .int .u32 (s.c : Int), .int .u32 (s.d : Int), .int .u32 (s.e : Int), .int .u32 (s.f : Int), .int .u32 (s.g : Int), .int .u32 (s.h : Int)] 43)) := (Below.refl _ _).alloc (Nat.le_refl _) _
  have B1 : Below w.heap.size w V := by rw [hV.out]; exact B0.alloc B0.size _
  have A0 : Arr V w.heap.size 43 (stv s) := by rw [hV.out]; exact (Arr.new w _ _).alloc _
  have A1 : Arr V (w.heap.size + 1) 43 (List.replicate 8 (.int .u32 0)) := by
    have := Arr.new (w.alloc (.cells #[.int .u32 (s.a : Int), .int .u32 (s.b : Int), .int .u32 (s.c : Int), .int .u32 (s.d : Int), .int .u32 (s.e : Int), .int .u32 (s.f : Int), .int .u32 (s.g : Int), .int .u32 (s.h : Int)] 43)) 43 (List.replicate 8 (.int .u32 0))
    rw [show (w.alloc (.cells #[.int .u32 (s.a : Int), .int .u32 (s.b : Int), .int .u32 (s.c : Int), .int .u32 (s.d : Int), .int .u32 (s.e : Int), .int .u32 (s.f : Int), .int .u32 (s.g : Int), .int .u32 (s.h : Int)] 43)).heap.size = w.heap.size + 1 by simp] at this
    rw [hV.out]; exact this
  have hVs : V.heap.size = w.heap.size + 2 := by rw [hV.out]; simp
  have HG : w.heap.size < V.heap.size := by omega
  have LV := h.below B1
  have KV := hK.below B1
  have HC : Hid (∀ W : World, Below V.heap.size V W → Calls Tryd.prog 29 #[.slice ao n c] W fun e w' => e = .returned (.agg (wcells S).toArray) ∧ Below W.heap.size W w') := by
    intro W hW
    rw [hS.out]
    exact words_c ao n c xs W (LV.below hW) hn
  have HVS := Lib.hid hVs
  clear hV B0 hVs
  go_cut [5, 6] (fun s5 s6 wx => ∃ g5 g6 : Nat, s5 = .pointer (some ⟨g5, 0, none⟩) ∧ s6 = .pointer (some ⟨g6, 0, none⟩) ∧ Arr wx g5 54 (wcells S) ∧ Arr wx g6 43 (stv s) ∧ V.heap.size ≤ g5 ∧ V.heap.size ≤ g6 ∧ g6 ≠ g5 ∧ Arr wx w.heap.size 43 (stv s) ∧ Below V.heap.size V wx)
  case first =>
    refine wp_region_held_drew (S := fun w' => Arr w' w.heap.size 43 (stv s) ∧ Below V.heap.size V w') (by kernel_rfl) (⟨A0.drew, below_drew (Below.refl _ _)⟩) (fun hHeld => ?_)
    refine reg_take (i := 0) rfl (by kernel_rfl) (by kernel_rfl) (by kernel_rfl) (fun _ _ _ h => h) (by rfl) hHeld (v := ?v1) ?hy1 ?rest1
    case hy1 => (intro w' hSw; go_simp <;> try rfl)
    try simp only [Act.put, List.setIfInBounds_toArray, List.set_cons_zero, List.set_cons_succ]
    refine reg_take (i := 2) rfl (by kernel_rfl) (by kernel_rfl) (by kernel_rfl) (fun _ _ _ h => h) (by rfl) hHeld (v := ?v2) ?hy2 ?rest2
    case hy2 => (intro w' hSw; refine exec_load_arr arr43 ?_ hSw.1 rfl; rfl)
    try simp only [Act.put, List.setIfInBounds_toArray, List.set_cons_zero, List.set_cons_succ]
    refine wpAnyH_ready (rs := [1, 3, 4]) (by kernel_rfl) (by simp) ?_
    refine reg_cons rfl (by rfl) (fun K hK => ?_) ?_
    · go_simp
      refine (HC.out _ hHeld.2).mono ?_
      rintro e v3 ⟨rfl, h4B⟩
      refine hK.out _ _ (⟨hHeld.1.kept h4B, hHeld.2.trans (h4B.mono hHeld.2.size)⟩) (fun hHeld => ?_)
      clear hK K
      try simp only [Act.put, List.setIfInBounds_toArray, List.set_cons_zero, List.set_cons_succ]
      refine wpAnyH_ready (rs := [3, 4]) (by kernel_rfl) (by simp) ?_
      refine reg_cons rfl (by rfl) (fun K hK => ?_) ?_
      · refine wp_alloc_arr z54 ?_
        intro v5 g6 h7A h7B h7C
        have h7L := hHeld.2.size
        refine hK.out _ _ (⟨hHeld.1.kept h7B, hHeld.2.trans (h7B.mono hHeld.2.size)⟩) (fun hHeld => ?_)
        clear hK K
        try simp only [Act.put, List.setIfInBounds_toArray, List.set_cons_zero, List.set_cons_succ]
        refine wpAnyH_ready (rs := [4]) (by kernel_rfl) (by simp) ?_
        refine reg_cons rfl (by rfl) (fun K hK => ?_) ?_
        · refine wp_alloc_arr z43 ?_
          intro v8 g9 h10A h10B h10C
          have h105 := h7A.kept h10B
          have h10L := hHeld.2.size
          refine hK.out _ _ (⟨hHeld.1.kept h10B, hHeld.2.trans (h10B.mono hHeld.2.size)⟩) (fun hHeld => ?_)
          clear hK K
          try simp only [Act.put, List.setIfInBounds_toArray, List.set_cons_zero, List.set_cons_succ]
          refine wpAnyH_ready (rs := [5]) (by kernel_rfl) (by simp) ?_
          refine reg_cons rfl (by rfl) (fun K hK => ?_) ?_
          · refine wp_store_arr (cs := wcells S) arr54 h105 rfl rfl rfl (wcells_len (Nat.le_of_eq HL.out)) (wcells_one S) ?_
            intro v11 h12A h12O
            have h12N : g9 ≠ g6 := (Nat.ne_of_gt (Nat.lt_of_lt_of_le h7A.lt h10C))
            have h126 := h12O.arr h10A h12N
            refine hK.out _ _ (⟨h12O.arr hHeld.1 (Nat.ne_of_lt (Nat.lt_of_lt_of_le HG (Nat.le_trans h7L h7C))), h12O.below hHeld.2 hHeld.2.size (Nat.le_trans h7L h7C)⟩) (fun hHeld => ?_)
            clear hK K
            refine wpAnyH_ready (rs := [6]) (by kernel_rfl) (by simp) ?_
            refine reg_cons rfl (by rfl) (fun K hK => ?_) ?_
            · refine wp_store_arr (cs := stv s) arr43 h126 rfl rfl rfl rfl (stv_one s) ?_
              intro v13 h14A h14O
              have h145 := h14O.arr h12A h12N.symm
              refine hK.out _ _ (⟨h14O.arr hHeld.1 (Nat.ne_of_lt (Nat.lt_of_lt_of_le HG (Nat.le_trans h10L h10C))), h14O.below hHeld.2 hHeld.2.size (Nat.le_trans h10L h10C)⟩) (fun hHeld => ?_)
              clear hK K
              refine wpAnyH_done (by kernel_rfl) ?_ _
              go_wp2_with fail; go_meet; exact ⟨g6, g9, rfl, rfl, h145, h14A, (Nat.le_trans h7L h7C), (Nat.le_trans h10L h10C), h12N, hHeld.1, hHeld.2⟩
            exact AllReadyH.nil
          exact AllReadyH.nil
        exact AllReadyH.nil
      refine reg_cons rfl (by rfl) (fun K hK => ?_) ?_
      · refine wp_alloc_arr z43 ?_
        intro v15 g16 h17A h17B h17C
        have h17L := hHeld.2.size
        refine hK.out _ _ (⟨hHeld.1.kept h17B, hHeld.2.trans (h17B.mono hHeld.2.size)⟩) (fun hHeld => ?_)
        clear hK K
        try simp only [Act.put, List.setIfInBounds_toArray, List.set_cons_zero, List.set_cons_succ]
        refine wpAnyH_ready (rs := [3]) (by kernel_rfl) (by simp) ?_
        refine reg_cons rfl (by rfl) (fun K hK => ?_) ?_
        · refine wp_alloc_arr z54 ?_
          intro v18 g19 h20A h20B h20C
          have h206 := h17A.kept h20B
          have h20L := hHeld.2.size
          refine hK.out _ _ (⟨hHeld.1.kept h20B, hHeld.2.trans (h20B.mono hHeld.2.size)⟩) (fun hHeld => ?_)
          clear hK K
          try simp only [Act.put, List.setIfInBounds_toArray, List.set_cons_zero, List.set_cons_succ]
          refine wpAnyH_ready (rs := [5]) (by kernel_rfl) (by simp) ?_
          refine reg_cons rfl (by rfl) (fun K hK => ?_) ?_
          · refine wp_store_arr (cs := wcells S) arr54 h20A rfl rfl rfl (wcells_len (Nat.le_of_eq HL.out)) (wcells_one S) ?_
            intro v21 h22A h22O
            have h22N : g16 ≠ g19 := (Nat.ne_of_gt (Nat.lt_of_lt_of_le h17A.lt h20C)).symm
            have h226 := h22O.arr h206 h22N
            refine hK.out _ _ (⟨h22O.arr hHeld.1 (Nat.ne_of_lt (Nat.lt_of_lt_of_le HG (Nat.le_trans h20L h20C))), h22O.below hHeld.2 hHeld.2.size (Nat.le_trans h20L h20C)⟩) (fun hHeld => ?_)
            clear hK K
            refine wpAnyH_ready (rs := [6]) (by kernel_rfl) (by simp) ?_
            refine reg_cons rfl (by rfl) (fun K hK => ?_) ?_
            · refine wp_store_arr (cs := stv s) arr43 h226 rfl rfl rfl rfl (stv_one s) ?_
              intro v23 h24A h24O
              have h245 := h24O.arr h22A h22N.symm
              refine hK.out _ _ (⟨h24O.arr hHeld.1 (Nat.ne_of_lt (Nat.lt_of_lt_of_le HG (Nat.le_trans h17L h17C))), h24O.below hHeld.2 hHeld.2.size (Nat.le_trans h17L h17C)⟩) (fun hHeld => ?_)
              clear hK K
              refine wpAnyH_done (by kernel_rfl) ?_ _
              go_wp2_with fail; go_meet; exact ⟨g19, g16, rfl, rfl, h245, h24A, (Nat.le_trans h20L h20C), (Nat.le_trans h17L h17C), h22N, hHeld.1, hHeld.2⟩
            exact AllReadyH.nil
          exact AllReadyH.nil
        exact AllReadyH.nil
      exact AllReadyH.nil
    refine reg_cons rfl (by rfl) (fun K hK => ?_) ?_
    · refine wp_alloc_arr z54 ?_
      intro v25 g26 h27A h27B h27C
      have h27L := hHeld.2.size
      refine hK.out _ _ (⟨hHeld.1.kept h27B, hHeld.2.trans (h27B.mono hHeld.2.size)⟩) (fun hHeld => ?_)
      clear hK K
      try simp only [Act.put, List.setIfInBounds_toArray, List.set_cons_zero, List.set_cons_succ]
      refine wpAnyH_ready (rs := [1, 4]) (by kernel_rfl) (by simp) ?_
      refine reg_cons rfl (by rfl) (fun K hK => ?_) ?_
      · go_simp
        refine (HC.out _ hHeld.2).mono ?_
        rintro e v28 ⟨rfl, h29B⟩
        have h295 := h27A.kept h29B
        refine hK.out _ _ (⟨hHeld.1.kept h29B, hHeld.2.trans (h29B.mono hHeld.2.size)⟩) (fun hHeld => ?_)
        clear hK K
        try simp only [Act.put, List.setIfInBounds_toArray, List.set_cons_zero, List.set_cons_succ]
        refine wpAnyH_ready (rs := [4]) (by kernel_rfl) (by simp) ?_
        refine reg_cons rfl (by rfl) (fun K hK => ?_) ?_
        · refine wp_alloc_arr z43 ?_
          intro v30 g31 h32A h32B h32C
          have h325 := h295.kept h32B
          have h32L := hHeld.2.size
          refine hK.out _ _ (⟨hHeld.1.kept h32B, hHeld.2.trans (h32B.mono hHeld.2.size)⟩) (fun hHeld => ?_)
          clear hK K
          try simp only [Act.put, List.setIfInBounds_toArray, List.set_cons_zero, List.set_cons_succ]
          refine wpAnyH_ready (rs := [5]) (by kernel_rfl) (by simp) ?_
          refine reg_cons rfl (by rfl) (fun K hK => ?_) ?_
          · refine wp_store_arr (cs := wcells S) arr54 h325 rfl rfl rfl (wcells_len (Nat.le_of_eq HL.out)) (wcells_one S) ?_
            intro v33 h34A h34O
            have h34N : g31 ≠ g26 := (Nat.ne_of_gt (Nat.lt_of_lt_of_le h295.lt h32C))
            have h346 := h34O.arr h32A h34N
            refine hK.out _ _ (⟨h34O.arr hHeld.1 (Nat.ne_of_lt (Nat.lt_of_lt_of_le HG (Nat.le_trans h27L h27C))), h34O.below hHeld.2 hHeld.2.size (Nat.le_trans h27L h27C)⟩) (fun hHeld => ?_)
            clear hK K
            refine wpAnyH_ready (rs := [6]) (by kernel_rfl) (by simp) ?_
            refine reg_cons rfl (by rfl) (fun K hK => ?_) ?_
            · refine wp_store_arr (cs := stv s) arr43 h346 rfl rfl rfl rfl (stv_one s) ?_
              intro v35 h36A h36O
              have h365 := h36O.arr h34A h34N.symm
              refine hK.out _ _ (⟨h36O.arr hHeld.1 (Nat.ne_of_lt (Nat.lt_of_lt_of_le HG (Nat.le_trans h32L h32C))), h36O.below hHeld.2 hHeld.2.size (Nat.le_trans h32L h32C)⟩) (fun hHeld => ?_)
              clear hK K
              refine wpAnyH_done (by kernel_rfl) ?_ _
              go_wp2_with fail; go_meet; exact ⟨g26, g31, rfl, rfl, h365, h36A, (Nat.le_trans h27L h27C), (Nat.le_trans h32L h32C), h34N, hHeld.1, hHeld.2⟩
            exact AllReadyH.nil
          exact AllReadyH.nil
        exact AllReadyH.nil
      refine reg_cons rfl (by rfl) (fun K hK => ?_) ?_
      · refine wp_alloc_arr z43 ?_
        intro v37 g38 h39A h39B h39C
        have h395 := h27A.kept h39B
        have h39L := hHeld.2.size
        refine hK.out _ _ (⟨hHeld.1.kept h39B, hHeld.2.trans (h39B.mono hHeld.2.size)⟩) (fun hHeld => ?_)
        clear hK K
        try simp only [Act.put, List.setIfInBounds_toArray, List.set_cons_zero, List.set_cons_succ]
        refine wpAnyH_ready (rs := [1]) (by kernel_rfl) (by simp) ?_
        refine reg_cons rfl (by rfl) (fun K hK => ?_) ?_
        · go_simp
          refine (HC.out _ hHeld.2).mono ?_
          rintro e v40 ⟨rfl, h41B⟩
          have h415 := h395.kept h41B
          have h416 := h39A.kept h41B
          refine hK.out _ _ (⟨hHeld.1.kept h41B, hHeld.2.trans (h41B.mono hHeld.2.size)⟩) (fun hHeld => ?_)
          clear hK K
          try simp only [Act.put, List.setIfInBounds_toArray, List.set_cons_zero, List.set_cons_succ]
          refine wpAnyH_ready (rs := [5]) (by kernel_rfl) (by simp) ?_
          refine reg_cons rfl (by rfl) (fun K hK => ?_) ?_
          · refine wp_store_arr (cs := wcells S) arr54 h415 rfl rfl rfl (wcells_len (Nat.le_of_eq HL.out)) (wcells_one S) ?_
            intro v42 h43A h43O
            have h43N : g38 ≠ g26 := (Nat.ne_of_gt (Nat.lt_of_lt_of_le h27A.lt h39C))
            have h436 := h43O.arr h416 h43N
            refine hK.out _ _ (⟨h43O.arr hHeld.1 (Nat.ne_of_lt (Nat.lt_of_lt_of_le HG (Nat.le_trans h27L h27C))), h43O.below hHeld.2 hHeld.2.size (Nat.le_trans h27L h27C)⟩) (fun hHeld => ?_)
            clear hK K
            refine wpAnyH_ready (rs := [6]) (by kernel_rfl) (by simp) ?_
            refine reg_cons rfl (by rfl) (fun K hK => ?_) ?_
            · refine wp_store_arr (cs := stv s) arr43 h436 rfl rfl rfl rfl (stv_one s) ?_
              intro v44 h45A h45O
              have h455 := h45O.arr h43A h43N.symm
              refine hK.out _ _ (⟨h45O.arr hHeld.1 (Nat.ne_of_lt (Nat.lt_of_lt_of_le HG (Nat.le_trans h39L h39C))), h45O.below hHeld.2 hHeld.2.size (Nat.le_trans h39L h39C)⟩) (fun hHeld => ?_)
              clear hK K
              refine wpAnyH_done (by kernel_rfl) ?_ _
              go_wp2_with fail; go_meet; exact ⟨g26, g38, rfl, rfl, h455, h45A, (Nat.le_trans h27L h27C), (Nat.le_trans h39L h39C), h43N, hHeld.1, hHeld.2⟩
            exact AllReadyH.nil
          exact AllReadyH.nil
        exact AllReadyH.nil
      exact AllReadyH.nil
    refine reg_cons rfl (by rfl) (fun K hK => ?_) ?_
    · refine wp_alloc_arr z43 ?_
      intro v46 g47 h48A h48B h48C
      have h48L := hHeld.2.size
      refine hK.out _ _ (⟨hHeld.1.kept h48B, hHeld.2.trans (h48B.mono hHeld.2.size)⟩) (fun hHeld => ?_)
      clear hK K
      try simp only [Act.put, List.setIfInBounds_toArray, List.set_cons_zero, List.set_cons_succ]
      refine wpAnyH_ready (rs := [1, 3]) (by kernel_rfl) (by simp) ?_
      refine reg_cons rfl (by rfl) (fun K hK => ?_) ?_
      · go_simp
        refine (HC.out _ hHeld.2).mono ?_
        rintro e v49 ⟨rfl, h50B⟩
        have h506 := h48A.kept h50B
        refine hK.out _ _ (⟨hHeld.1.kept h50B, hHeld.2.trans (h50B.mono hHeld.2.size)⟩) (fun hHeld => ?_)
        clear hK K
        try simp only [Act.put, List.setIfInBounds_toArray, List.set_cons_zero, List.set_cons_succ]
        refine wpAnyH_ready (rs := [3]) (by kernel_rfl) (by simp) ?_
        refine reg_cons rfl (by rfl) (fun K hK => ?_) ?_
        · refine wp_alloc_arr z54 ?_
          intro v51 g52 h53A h53B h53C
          have h536 := h506.kept h53B
          have h53L := hHeld.2.size
          refine hK.out _ _ (⟨hHeld.1.kept h53B, hHeld.2.trans (h53B.mono hHeld.2.size)⟩) (fun hHeld => ?_)
          clear hK K
          try simp only [Act.put, List.setIfInBounds_toArray, List.set_cons_zero, List.set_cons_succ]
          refine wpAnyH_ready (rs := [5]) (by kernel_rfl) (by simp) ?_
          refine reg_cons rfl (by rfl) (fun K hK => ?_) ?_
          · refine wp_store_arr (cs := wcells S) arr54 h53A rfl rfl rfl (wcells_len (Nat.le_of_eq HL.out)) (wcells_one S) ?_
            intro v54 h55A h55O
            have h55N : g47 ≠ g52 := (Nat.ne_of_gt (Nat.lt_of_lt_of_le h506.lt h53C)).symm
            have h556 := h55O.arr h536 h55N
            refine hK.out _ _ (⟨h55O.arr hHeld.1 (Nat.ne_of_lt (Nat.lt_of_lt_of_le HG (Nat.le_trans h53L h53C))), h55O.below hHeld.2 hHeld.2.size (Nat.le_trans h53L h53C)⟩) (fun hHeld => ?_)
            clear hK K
            refine wpAnyH_ready (rs := [6]) (by kernel_rfl) (by simp) ?_
            refine reg_cons rfl (by rfl) (fun K hK => ?_) ?_
            · refine wp_store_arr (cs := stv s) arr43 h556 rfl rfl rfl rfl (stv_one s) ?_
              intro v56 h57A h57O
              have h575 := h57O.arr h55A h55N.symm
              refine hK.out _ _ (⟨h57O.arr hHeld.1 (Nat.ne_of_lt (Nat.lt_of_lt_of_le HG (Nat.le_trans h48L h48C))), h57O.below hHeld.2 hHeld.2.size (Nat.le_trans h48L h48C)⟩) (fun hHeld => ?_)
              clear hK K
              refine wpAnyH_done (by kernel_rfl) ?_ _
              go_wp2_with fail; go_meet; exact ⟨g52, g47, rfl, rfl, h575, h57A, (Nat.le_trans h53L h53C), (Nat.le_trans h48L h48C), h55N, hHeld.1, hHeld.2⟩
            exact AllReadyH.nil
          exact AllReadyH.nil
        exact AllReadyH.nil
      refine reg_cons rfl (by rfl) (fun K hK => ?_) ?_
      · refine wp_alloc_arr z54 ?_
        intro v58 g59 h60A h60B h60C
        have h606 := h48A.kept h60B
        have h60L := hHeld.2.size
        refine hK.out _ _ (⟨hHeld.1.kept h60B, hHeld.2.trans (h60B.mono hHeld.2.size)⟩) (fun hHeld => ?_)
        clear hK K
        try simp only [Act.put, List.setIfInBounds_toArray, List.set_cons_zero, List.set_cons_succ]
        refine wpAnyH_ready (rs := [1]) (by kernel_rfl) (by simp) ?_
        refine reg_cons rfl (by rfl) (fun K hK => ?_) ?_
        · go_simp
          refine (HC.out _ hHeld.2).mono ?_
          rintro e v61 ⟨rfl, h62B⟩
          have h625 := h60A.kept h62B
          have h626 := h606.kept h62B
          refine hK.out _ _ (⟨hHeld.1.kept h62B, hHeld.2.trans (h62B.mono hHeld.2.size)⟩) (fun hHeld => ?_)
          clear hK K
          try simp only [Act.put, List.setIfInBounds_toArray, List.set_cons_zero, List.set_cons_succ]
          refine wpAnyH_ready (rs := [5]) (by kernel_rfl) (by simp) ?_
          refine reg_cons rfl (by rfl) (fun K hK => ?_) ?_
          · refine wp_store_arr (cs := wcells S) arr54 h625 rfl rfl rfl (wcells_len (Nat.le_of_eq HL.out)) (wcells_one S) ?_
            intro v63 h64A h64O
            have h64N : g47 ≠ g59 := (Nat.ne_of_gt (Nat.lt_of_lt_of_le h48A.lt h60C)).symm
            have h646 := h64O.arr h626 h64N
            refine hK.out _ _ (⟨h64O.arr hHeld.1 (Nat.ne_of_lt (Nat.lt_of_lt_of_le HG (Nat.le_trans h60L h60C))), h64O.below hHeld.2 hHeld.2.size (Nat.le_trans h60L h60C)⟩) (fun hHeld => ?_)
            clear hK K
            refine wpAnyH_ready (rs := [6]) (by kernel_rfl) (by simp) ?_
            refine reg_cons rfl (by rfl) (fun K hK => ?_) ?_
            · refine wp_store_arr (cs := stv s) arr43 h646 rfl rfl rfl rfl (stv_one s) ?_
              intro v65 h66A h66O
              have h665 := h66O.arr h64A h64N.symm
              refine hK.out _ _ (⟨h66O.arr hHeld.1 (Nat.ne_of_lt (Nat.lt_of_lt_of_le HG (Nat.le_trans h48L h48C))), h66O.below hHeld.2 hHeld.2.size (Nat.le_trans h48L h48C)⟩) (fun hHeld => ?_)
              clear hK K
              refine wpAnyH_done (by kernel_rfl) ?_ _
              go_wp2_with fail; go_meet; exact ⟨g59, g47, rfl, rfl, h665, h66A, (Nat.le_trans h60L h60C), (Nat.le_trans h48L h48C), h64N, hHeld.1, hHeld.2⟩
            exact AllReadyH.nil
          exact AllReadyH.nil
        exact AllReadyH.nil
      exact AllReadyH.nil
    exact AllReadyH.nil
  case rest =>
    obtain ⟨g5, g6, rfl, rfl, C5, C6, l5, l6, ne, _, BV⟩ := hcut
    rw [HVS.out] at l5 l6
    have R : RB w V.heap.size g5 g6 S (stv s) s wc := ⟨C5, C6, KV.below BV, A0.kept BV, A1.kept BV, B1.trans (BV.mono B1.size), l5, l6, ne⟩
    clear C5 C6 l5 l6 BV A0 A1 B1 KV LV HC
    go_wp2
    go_loopw [7] (fun i wr => ∃ (t : Nat) (u : St), t ≤ 64 ∧ i = .int .i64 t ∧ u.Ok ∧ Hid (u = rnds S s t) ∧ RB w V.heap.size g5 g6 S (stv u) s wr)
      (fun i _ => 64 - (intOf i).toNat)
    case atStart => exact ⟨0, s, by omega, rfl, hs, rfl, R⟩
    case round =>
      clear R
      obtain ⟨t, u, ht, rfl, hok, hst, R⟩ := hrel
      by_cases hlt : t < 64
      · obtain ⟨k, hk⟩ : ∃ k, Hid (k = kTab.getD t 0) := ⟨_, rfl⟩
        obtain ⟨x, hx⟩ : ∃ x, Hid (x = S.getD t 0) := ⟨_, rfl⟩
        have lk : k ≤ 4294967295 := by rw [hk.out]; exact kTab_lt t
        have lx : x ≤ 4294967295 := by rw [hx.out]; have := HLT.out t; omega
        have q64 : (t : Int) < 64 := by omega
        have ba := hok.a
        have bb := hok.b
        have bc := hok.c
        have bd := hok.d
        have be := hok.e
        have bf := hok.f
        have bg := hok.g
        have bh := hok.h
        have qa : wr.cell? ⟨g6, 0, none⟩ = some (.int .u32 (u.a : Int)) := R.state.cell 0
        have qe : wr.cell? ⟨g6, 4, none⟩ = some (.int .u32 (u.e : Int)) := R.state.cell 4
        go_wp2
        refine wp_region_still_lit (by kernel_rfl) (by kernel_rfl) ?_
        repeat still_step
        refine wpStill_nil ?_
        obtain ⟨wa, hwa⟩ : ∃ wa, Hid (wa = wr.drew) := ⟨_, rfl⟩
        rw [show ({ wr with drawn := wr.drawn + 1 } : World) = wr.drew from rfl, ← hwa.out]
        replace R : RB w V.heap.size g5 g6 S (stv u) s wa := by rw [hwa.out]; exact R.drew
        clear hwa qa qe
        have s1 := t1_sum u.h (bs1 u.e) (chN u.e u.f u.g) k x
        obtain ⟨T1, hT1⟩ : ∃ T, Hid (T = tmp1 u k x) := ⟨_, rfl⟩
        rw [show (u.h + bs1 u.e + chN u.e u.f u.g + k + x) % 4294967296 = T1 from hT1.out.symm] at s1
        obtain ⟨T2, hT2⟩ : ∃ T, Hid (T = tmp2 u) := ⟨_, rfl⟩
        have s2 := sum2w (bs0 u.a) (majN u.a u.b u.c)
        rw [show (bs0 u.a + majN u.a u.b u.c) % 4294967296 = T2 from hT2.out.symm] at s2
        have l1 : T1 ≤ 4294967295 := by rw [hT1.out]; exact mod_le _
        have l2 : T2 ≤ 4294967295 := by rw [hT2.out]; exact mod_le _
        have e1 := bs1_eq u.e (by omega)
        have e2 := ch_eq u.e u.f u.g (by omega) (by omega) (by omega)
        have hsg : IntKind.u32.signed = false := rfl
        have qf : wa.cell? ⟨g6, 5, none⟩ = some (.int .u32 (u.f : Int)) := R.state.cell 5
        have qg : wa.cell? ⟨g6, 6, none⟩ = some (.int .u32 (u.g : Int)) := R.state.cell 6
        have qh : wa.cell? ⟨g6, 7, none⟩ = some (.int .u32 (u.h : Int)) := R.state.cell 7
        have ck : wa.cell? ⟨0, t, none⟩ = some (.int .u32 (k : Int)) := by rw [hk.out]; exact R.tab t hlt
        have cx : wa.cell? ⟨g5, t, none⟩ = some (.int .u32 (x : Int)) := by rw [hx.out]; exact (R.words.cell t).trans (wcells_at (by rw [HL.out]; omega))
        go_wp2
        refine wp_region_still_lit (by kernel_rfl) (by kernel_rfl) ?_
        repeat still_step
        still_call (still_of (rot_c u.e 6 6 rfl _ be (by omega) (by omega)))
        repeat still_step
        still_call (still_of (rot_c u.e 11 11 rfl _ be (by omega) (by omega)))
        repeat still_step
        still_call (still_of (rot_c u.e 25 25 rfl _ be (by omega) (by omega)))
        repeat still_step
        refine wpStill_nil ?_
        obtain ⟨wb, hwb⟩ : ∃ wb, Hid (wb = wa.drew) := ⟨_, rfl⟩
        rw [show ({ wa with drawn := wa.drawn + 1 } : World) = wa.drew from rfl, ← hwb.out]
        replace R : RB w V.heap.size g5 g6 S (stv u) s wb := by rw [hwb.out]; exact R.drew
        clear hwb qf qg qh ck cx e1 e2 s1
        have e1 := bs0_eq u.a (by omega)
        have e2 := maj_eq u.a u.b u.c (by omega) (by omega) (by omega)
        have qb : wb.cell? ⟨g6, 1, none⟩ = some (.int .u32 (u.b : Int)) := R.state.cell 1
        have qc : wb.cell? ⟨g6, 2, none⟩ = some (.int .u32 (u.c : Int)) := R.state.cell 2
        go_wp2
        refine wp_region_still_lit (by kernel_rfl) (by kernel_rfl) ?_
        repeat still_step
        still_call (still_of (rot_c u.a 2 2 rfl _ ba (by omega) (by omega)))
        repeat still_step
        still_call (still_of (rot_c u.a 13 13 rfl _ ba (by omega) (by omega)))
        repeat still_step
        still_call (still_of (rot_c u.a 22 22 rfl _ ba (by omega) (by omega)))
        repeat still_step
        refine wpStill_nil ?_
        obtain ⟨wd, hwd⟩ : ∃ wd, Hid (wd = wb.drew) := ⟨_, rfl⟩
        rw [show ({ wb with drawn := wb.drawn + 1 } : World) = wb.drew from rfl, ← hwd.out]
        replace R : RB w V.heap.size g5 g6 S (stv u) s wd := by rw [hwd.out]; exact R.drew
        clear hwd qb qc e1 e2 s2
        have e1 := sum2 T1 T2
        have e2 := sum2 u.d T1
        obtain ⟨N1, hN1⟩ : ∃ N, Hid (N = (T1 + T2) % 4294967296) := ⟨_, rfl⟩
        obtain ⟨N2, hN2⟩ : ∃ N, Hid (N = (u.d + T1) % 4294967296) := ⟨_, rfl⟩
        rw [← hN1.out] at e1
        rw [← hN2.out] at e2
        have hnew : Hid ((⟨N1, u.a, u.b, u.c, N2, u.e, u.f, u.g⟩ : St) = rnds S s (t + 1)) := by
          show _ = _
          rw [rnds, ← hst.out, ← hk.out, ← hx.out, rnd, ← hT1.out, ← hT2.out, hN1.out, hN2.out]
        have hok2 : Hid ((⟨N1, u.a, u.b, u.c, N2, u.e, u.f, u.g⟩ : St).Ok) := ⟨by rw [hN1.out]; exact mod_le _, ba, bb, bc, by rw [hN2.out]; exact mod_le _, be, bf, bg⟩
        have qa : wd.cell? ⟨g6, 0, none⟩ = some (.int .u32 (u.a : Int)) := R.state.cell 0
        have qb : wd.cell? ⟨g6, 1, none⟩ = some (.int .u32 (u.b : Int)) := R.state.cell 1
        have qc : wd.cell? ⟨g6, 2, none⟩ = some (.int .u32 (u.c : Int)) := R.state.cell 2
        have qd : wd.cell? ⟨g6, 3, none⟩ = some (.int .u32 (u.d : Int)) := R.state.cell 3
        have qe : wd.cell? ⟨g6, 4, none⟩ = some (.int .u32 (u.e : Int)) := R.state.cell 4
        have qf : wd.cell? ⟨g6, 5, none⟩ = some (.int .u32 (u.f : Int)) := R.state.cell 5
        have qg : wd.cell? ⟨g6, 6, none⟩ = some (.int .u32 (u.g : Int)) := R.state.cell 6
        have RH := Lib.hid R
        clear R
        go_wp2_with (first | ((with_reducible refine wpList_store_arr (x := .tmp 6) (y := .tmp 97) (cs := stv ⟨N1, u.a, u.b, u.c, N2, u.e, u.f, u.g⟩) arr43 RH.out.state ?e1 ?e2 ?e3 ?e4 ?e5 ?_); (case e1 => rfl); (case e2 => rfl); (case e3 => rfl); (case e4 => rfl); (case e5 => exact stv_one _); intro w9 hA9 hO9))
        have hR9 := RH.out.only HG0 hA9 hO9
        go_wp2
        go_roundw
        case rel => exact ⟨t + 1, ⟨N1, u.a, u.b, u.c, N2, u.e, u.f, u.g⟩, by omega, by go_num, hok2.out, hnew, hR9⟩
        case measure => simp [intOf]; omega
      · obtain rfl : t = 64 := by omega
        have hst' : R0 = u := by rw [hR0.out, hst.out]
        subst hst'
        clear hst
        rw [show ((64 : Nat) : Int) = 64 from rfl]
        have hstart : partS R0 s 0 = R0.l := rfl
        have RP : RB w V.heap.size g5 g6 S (u32s (partS R0 s 0)) s wr := R
        clear hstart R
        go_wp2
        go_loopw [12] (fun i wr => ∃ j : Nat, j ≤ 8 ∧ i = .int .i64 j ∧ RB w V.heap.size g5 g6 S (u32s (partS R0 s j)) s wr)
          (fun i _ => 8 - (intOf i).toNat)
        case atStart => exact ⟨0, by omega, rfl, RP⟩
        case round =>
          clear RP
          obtain ⟨j, hj, rfl, R⟩ := hrel
          by_cases hlt8 : j < 8
          · obtain ⟨x, hx⟩ : ∃ x, Hid (R0.l.getD j 0 = x) := ⟨_, rfl⟩
            obtain ⟨y, hy⟩ : ∃ y, Hid (s.l.getD j 0 = y) := ⟨_, rfl⟩
            have lx : x ≤ 4294967295 := by rw [← hx.out]; exact l_lt hok j
            have ly : y ≤ 4294967295 := by rw [← hy.out]; exact l_lt hs j
            have q8 : (j : Int) < 8 := by omega
            have cx : wr.cell? ⟨g6, j, none⟩ = some (.int .u32 (x : Int)) := by
              rw [R.state.cell j, u32s_at (by rw [partS_len _ _ _ hj]; exact hlt8), partS_at _ _ _ hlt8, hx.out]
            have cy : wr.cell? ⟨w.heap.size, j, none⟩ = some (.int .u32 (y : Int)) := by
              rw [R.box.cell j]
              exact (u32s_at (ws := s.l) (by simpa [St.l] using hlt8)).trans (by rw [hy.out])
            have hf := R.state.frozen j
            have e1 := sum2w x y
            obtain ⟨Z, hZ⟩ : ∃ Z, Hid (Z = (x + y) % 4294967296) := ⟨_, rfl⟩
            rw [← hZ.out] at e1
            have RN : Hid (RB w V.heap.size g5 g6 S (u32s (partS R0 s (j + 1))) s (wr.setCell ⟨g6, j, none⟩ (.int .u32 (Z : Int)))) := by
              have := R.set HG0 j (.int .u32 (Z : Int))
              rw [u32s_set, hZ.out, ← hx.out, ← hy.out, partS_set _ _ _ hlt8] at this
              rw [hZ.out, ← hx.out, ← hy.out]
              exact this
            clear R
            go_wp2
            go_still_tail 8, (by kernel_rfl)
            go_wp2
            go_roundw
            case rel => exact ⟨j + 1, by omega, by go_num, RN.out.drew⟩
            case measure => simp [intOf]; omega
          · obtain rfl : j = 8 := by omega
            have e8 : u32s (partS R0 s 8) = stv F := by rw [hF.out]; rfl
            rw [e8] at R
            have RH := Lib.hid R
            clear R e8
            go_wp2_with (first
              | ((with_reducible refine wpList_load_arr (d := some 110) arr43 RH.out.state ?e1 ?e2 ?_); (case e1 => rfl); (case e2 => rfl))
              | ((with_reducible refine wpList_store_arr (x := .tmp 4) (y := .tmp 110) (cs := stv F) arr43 RH.out.res ?e1 ?e2 ?e3 ?e4 ?e5 ?_); (case e1 => rfl); (case e2 => rfl); (case e3 => rfl); (case e4 => rfl); (case e5 => exact stv_one _); intro w9 hA9 hO9))
            refine bodyPost_ret (results_arr arr43 rfl _ rfl hA9 rfl) rfl ⟨rfl, hO9.below RH.out.below RH.out.below.size (by omega)⟩
end Go.Proofs.YtfmpccfoemgiiaaDoor
