/-
  electionref04.Sum.
-/
import Derived.Test.YtfmpccfoemgiiaaDoorDigSum
namespace Go.Proofs.YtfmpccfoemgiiaaDoor
open Go.RowKit Dig

theorem below_of_drew {B : Nat} {w w' : World} (h : Below B w.drew w') : Below B w w' := ⟨h.os, h.tape, h.output, h.size, h.block⟩
/-- A cut from the middle, under one name whatever the capacity. -/
theorem slice_mid (ao : Option Addr) (n c l : Nat) (z : Int) (hz : z = (l : Int) + 64) (hl : l + 64 ≤ c) (W : World) :
    (Instr.slice 22 (.slice ao n c) (some (.int .i64 (l : Int))) (some (.int .i64 z)) none).run Tryd.prog W = .ok (.slice (cutA ao c l) 64 (c - l)) W := by
  subst hz
  obtain ⟨inf, hinf, hs⟩ := Option.map_eq_some_iff.1 size5
  rw [run_slice_lh (P := Tryd.prog) (w := W) 22 ao n c Tryd.underlying22 .i64 .i64 (l : Int) ((l : Int) + 64) (by omega) (by omega) (by omega)]
  have e : (sizeOf (Tryd.prog.elem 22)).run Tryd.prog W = .ok 1 W := by
    show (sizeOf 5).run Tryd.prog W = .ok 1 W
    simp [sizeOf, typeInfo, hinf, hs]
  rw [e]
  have e1 : ((l : Int)).toNat = l := by omega
  have e2 : ((l : Int) + 64).toNat = l + 64 := by omega
  simp [sliced, cutA, e2]

/-- What lies in memory while the blocks of a message are taken in: the padded message, the state in g, the result's variable. -/
structure RS (w : World) (g : Nat) (a : Option Addr) (m d : Nat) (P : List Int) (us : List Value) (wr : World) : Prop where
  msg : Lst .u8 wr a m d P
  low : ∀ i, i < m → (pt a i).block ≠ g
  state : Arr wr g 43 us
  tab : KTab 0 wr
  res : Arr wr w.heap.size 25 (bcells [])
  below : Below w.heap.size w wr
  lo : w.heap.size < g
theorem RS.drew {w wr : World} {g : Nat} {a : Option Addr} {m d : Nat} {P : List Int} {us : List Value} (h : RS w g a m d P us wr) : RS w g a m d P us wr.drew :=
  ⟨h.msg.drew, h.low, h.state.drew, h.tab, h.res.drew, below_drew h.below, h.lo⟩
theorem RS.kept {w wr w' : World} {g : Nat} {a : Option Addr} {m d : Nat} {P : List Int} {us : List Value} (h : RS w g a m d P us wr) (b : Below wr.heap.size wr w') : RS w g a m d P us w' :=
  ⟨h.msg.below b, h.low, h.state.kept b, h.tab.below b, h.res.kept b, h.below.trans (b.mono h.below.size), h.lo⟩
theorem RS.turn {w wr w' : World} {g : Nat} {a : Option Addr} {m d : Nat} {P : List Int} {us us' : List Value} (h : RS w g a m d P us wr) (hT : 0 < w.heap.size) (hA : Arr w' g 43 us') (hO : Only g wr w') : RS w g a m d P us' w' := by
  have l := h.lo
  exact ⟨hO.lst h.msg h.low, h.low, hA, h.tab.only hO (by omega), hO.arr h.res (by omega), hO.below h.below h.below.size (by omega), l⟩

set_option maxHeartbeats 3200000 in
set_option maxRecDepth 100000 in
theorem refsum_c (ao : Option Addr) (n c : Nat) (xs : List Int) (w : World) (h : Lst .u8 w ao n c xs) (hnil : ao = none → c = 0) (hn : n ≤ 274877906944) (hK : KTab 0 w) :
    Calls Tryd.prog 11 #[.slice ao n c] w fun e w' => e = .returned (.agg (bcells (sumL xs)).toArray) ∧ Below w.heap.size w w' := by
  have HG0 := hK.lt
  have hxl := Lib.hid h.len
  obtain ⟨F, hF⟩ : ∃ F, Hid (F = sumL xs) := ⟨_, rfl⟩
  have hFl : Hid (F.length = 32) := by show _ = _; rw [hF.out]; rfl
  rw [← hF.out]
  obtain ⟨M, hM⟩ : ∃ M : Nat, Hid (M = 8 * n) := ⟨_, rfl⟩
  have eM : (n : Int) * 8 = (M : Int) := by rw [hM.out]; omega
  have lM : M ≤ 18446744073709551615 := by rw [hM.out]; omega
  have b1 : Below w.heap.size w (w.alloc (.cells (List.replicate 32 (Value.int .u8 0)).toArray 25)) := (Below.refl _ _).alloc (Nat.le_refl _) _
  have z1 : (w.alloc (.cells (List.replicate 32 (Value.int .u8 0)).toArray 25)).heap.size = w.heap.size + 1 := by simp
  have R1 := Arr.new w 25 (List.replicate 32 (Value.int .u8 0))
  obtain ⟨V, hV⟩ : ∃ V, Hid (V = w.alloc (.cells (List.replicate 32 (Value.int .u8 0)).toArray 25)) := ⟨_, rfl⟩
  rw [← hV.out] at b1 z1 R1
  have HZ1 := Lib.hid z1
  have HR1 := Lib.hid R1
  have Hb1 := Lib.hid b1
  have LV := h.below b1
  have HNIL := Lib.hid hnil
  clear hnil z1 R1 b1
  go_enter Tryd.func11, Tryd.ntmps11
  go_upto_region 1 with (fail)
  rw [show (w.alloc (.cells #[.int .u8 0, .int .u8 0, .int .u8 0, .int .u8 0, .int .u8 0, .int .u8 0, .int .u8 0, .int .u8 0, .int .u8 0, .int .u8 0, .int .u8 0, .int .u8 0, .int .u8 0, .int .u8 0, .int .u8 0, .int .u8 0, .int .u8 0, .int .u8 0, .int .u8 0, .int .u8 0, .int .u8 0, .int .u8 0, .int .u8 0, .int .u8 0, .int .u8 0, .int .u8 0, .int .u8 0, .int .u8 0, .int .u8 0, .int .u8 0, .int .u8 0, .int .u8 0] 25)) = V from hV.out.symm]
  go_wp2_with (first
    | (at_builtin; refine wpList_appL (p := .const (.slice none 0 0)) (q := .tmp 10) (B := V.heap.size) (own_nil _ _ _ _) LV HNIL.out (Nat.le_refl _) (by omega) (by omega) rfl rfl ?_; intro a2 d2 w2 O2 b2; have z2 := b2.size; rw [Nat.zero_add, List.nil_append] at O2)
    | (at_builtin; refine wpList_app1 (p := .tmp 11) (q := .tmp 12) (B := V.heap.size) O2 z2 (by omega) (by omega) (by omega) rfl rfl ?_; intro a3 d3 w3 O3 b3; have z3 := b3.size))
  have b23 : Below V.heap.size V w3 := b2.trans b3
  clear O2 b2 b3 z2 z3
  go_loopw [3] (fun v wr => ∃ (j l : Nat) (a : Option Addr) (d : Nat), j ≤ zer n ∧ v = .slice a l d ∧ Hid (l = n + 1 + j) ∧ Own 5 .u8 V.heap.size wr a l d (xs ++ [128] ++ List.replicate j 0) ∧ Below V.heap.size V wr)
    (fun v _ => n + 65 - lenOf v)
  case atStart => exact ⟨0, _, _, _, Nat.zero_le _, rfl, rfl, by simpa using O3, b23⟩
  case round =>
    clear O3 b23
    obtain ⟨j, l, a, d, hj, rfl, hl, O, B⟩ := hrel
    have hz := zer_lt n
    have hll : l ≤ 274877907100 := by rw [hl.out]; omega
    have zB := B.size
    by_cases hlt : j < zer n
    · have hne := zer_not n j hlt
      rw [← hl.out] at hne
      have hne1 : ((l : Int) % 64 == 56) = false := by simp; omega
      have hne2 : ¬ ((l : Int) % 64 = 56) := by omega
      have hl65 : Hid (l < n + 65) := by show _ < _; rw [hl.out]; omega
      go_wp2_with (at_builtin; refine wpList_app1 (p := .tmp 18) (q := .tmp 19) (B := V.heap.size) O zB (by omega) (by omega) (by omega) rfl rfl ?_)
      intro a2 d2 w2 O2 b2
      rw [List.append_assoc, show List.replicate j (0 : Int) ++ [0] = List.replicate (j + 1) 0 from (List.replicate_succ' ..).symm] at O2
      go_wp2
      go_roundw
      case rel => exact ⟨j + 1, l + 1, a2, d2, by omega, rfl, by show _ = _; rw [hl.out]; rfl, O2, B.trans b2⟩
      case measure => have := hl65.out; simp [lenOf]; omega
    · obtain rfl : j = zer n := by omega
      have he := zer_end n
      rw [← hl.out] at he
      have he1 : ((l : Int) % 64 == 56) = true := by simp; omega
      have he2 : (l : Int) % 64 = 56 := by omega
      obtain ⟨P0, hP0'⟩ : ∃ P : List Int, P = xs ++ [(128 : Int)] ++ List.replicate (zer n) (0 : Int) := ⟨_, rfl⟩
      have hP0 := Lib.hid hP0'
      clear hP0'
      rw [← hP0.out] at O
      have HP0 := Lib.hid O.len
      clear hlt hj
      go_wp2
      clear he he1 he2
      go_loopw [3, 5] (fun v i wr => ∃ (z : Int) (a : Option Addr) (l' d : Nat) (done : List Int), -1 ≤ z ∧ z ≤ 7 ∧ i = .int .i64 z ∧ v = .slice a l' d ∧ Hid (done ++ beN M (z + 1).toNat = beN M 8) ∧ Own 5 .u8 V.heap.size wr a l' d (P0 ++ done) ∧ V.heap.size ≤ wr.heap.size ∧ Below V.heap.size V wr)
        (fun _ i _ => (intOf i + 1).toNat)
      case atStart => exact ⟨7, _, _, _, [], by omega, by omega, rfl, rfl, rfl, by simpa using O, zB, B⟩
      case round =>
        clear O zB B
        obtain ⟨z, a, l', d, done, hz1, hz7, rfl, rfl, hd, O, hB', bb⟩ := hrel
        have hl' : l' ≤ 274877907200 := by
          have h1 := O.len
          have h2 := congrArg List.length hd.out
          rw [List.length_append, beN_len, beN_len] at h2
          rw [List.length_append, HP0.out] at h1
          omega
        by_cases hz0 : 0 ≤ z
        · obtain ⟨j, rfl⟩ := Int.eq_ofNat_of_zero_le hz0
          have hj : j ≤ 7 := by omega
          have HX := Lib.hid (byte_shift M j)
          go_wp2_with (at_builtin; refine wpList_app1 (p := .tmp 29) (q := .tmp 36) (B := V.heap.size) O hB' (by omega) (Int.emod_nonneg _ (by omega)) (Int.le_of_lt_add_one (Int.emod_lt_of_pos _ (by omega))) rfl rfl ?_)
          intro a2 d2 w2 O2 b2
          have hd2 : Hid ((done ++ [(M : Int) / 2 ^ (8 * j) % 256]) ++ beN M ((j : Int) - 1 + 1).toNat = beN M 8) := by
            show _ = _
            rw [← hd.out, show ((j : Int) - 1 + 1).toNat = j by omega, show ((j : Int) + 1).toNat = j + 1 by omega, beN, HX.out]
            simp
          rw [List.append_assoc] at O2
          have hB2 : V.heap.size ≤ w2.heap.size := Nat.le_trans hB' (below_size b2)
          go_wp2
          go_roundw
          case rel => exact ⟨(j : Int) - 1, a2, l' + 1, d2, _, by omega, by omega, rfl, rfl, hd2, O2, hB2, bb.trans b2⟩
          case measure => simp [intOf]
        · obtain rfl : z = -1 := by omega
          have hd' : done = beN M 8 := by have := hd.out; simpa [beN] using this
          subst hd'
          obtain ⟨P, hP⟩ : ∃ P, Hid (P = tailL xs n) := ⟨_, rfl⟩
          have hPO : P0 ++ beN M 8 = P := by rw [hP.out, tailL, hP0.out, hM.out, hxl.out]
          rw [hPO] at O
          obtain ⟨K, hKK⟩ : ∃ K, Hid (l' = 64 * K) := ⟨l' / 64, by show _ = _; have h1 := O.len; have h2 := tailL_mod xs n; rw [← hP.out] at h2; omega⟩
          have hfin : Hid (F = outL (cmpS h0 P K)) := by
            show _ = _
            have h1 := O.len
            rw [hF.out, sumL, hxl.out, ← hP.out, h1, hKK.out, Nat.mul_div_cancel_left _ (by omega)]
          have hVsz := HZ1.out
          obtain ⟨g, hg⟩ : ∃ g, Hid (g = wr.heap.size) := ⟨_, rfl⟩
          obtain ⟨w5, hw5⟩ : ∃ w5, Hid (w5 = wr.alloc (.cells (stv h0).toArray 43)) := ⟨_, rfl⟩
          have b5 : Below wr.heap.size wr w5 := by rw [hw5.out]; exact (Below.refl _ _).alloc (Nat.le_refl _) _
          have R5 : RS w g a l' d P (stv h0) w5 := by
            have bw : Below w.heap.size w wr := Hb1.out.trans (bb.mono (by omega))
            refine ⟨O.lst.below b5, fun i hi e => ?_, by rw [hw5.out, hg.out]; exact Arr.new _ _ _, (hK.below bw).below b5, (HR1.out.kept bb).kept b5, bw.trans (b5.mono bw.size), by rw [hg.out]; omega⟩
            obtain ⟨g', _, hp, hg1, hg2⟩ := O.spot hi
            rw [hp, hg.out] at e
            simp only at e
            omega
          clear hd hPO O bb b5 hVsz
          go_upto_region 10 with (fail)
          rw [show (wr.alloc (.cells #[.int .u32 1779033703, .int .u32 3144134277, .int .u32 1013904242, .int .u32 2773480762, .int .u32 1359893119, .int .u32 2600822924, .int .u32 528734635, .int .u32 1541459225] 43)) = w5 from hw5.out.symm, ← hg.out]
          clear hw5 hg
          go_wp2
          go_loopw [7] (fun v wq => ∃ (k i : Nat) (s : St), k ≤ K ∧ v = .int .i64 i ∧ Hid (i = 64 * k) ∧ s.Ok ∧ Hid (s = cmpS h0 P k) ∧ RS w g a l' d P (stv s) wq)
            (fun v _ => l' + 64 - (intOf v).toNat)
          case atStart => exact ⟨0, 0, h0, Nat.zero_le _, rfl, rfl, h0_ok, rfl, R5⟩
          case round =>
            clear R5
            obtain ⟨k, i, s, hk, rfl, hi, hok, hs, R⟩ := hrel
            have hcap := R.msg.cap
            have hroom := R.msg.room
            by_cases hkK : k < K
            · have hil : i + 64 ≤ l' := by rw [hi.out, hKK.out]; omega
              have hlt : (i : Int) < (l' : Int) := by omega
              have hlt' : i < l' := by omega
              have hmid := slice_mid a l' d i ((i : Int) + 64) rfl (by omega)
              have w64 := i64w ((i : Int) + 64) (by omega) (by omega)
              have q0 : (0 : Int) ≤ (i : Int) + 64 := by omega
              obtain ⟨s2, hs2⟩ : ∃ s2, Hid (s2 = blkS s (P.drop i)) := ⟨_, rfl⟩
              have ok2 : s2.Ok := by rw [hs2.out]; exact blkS_ok _ _
              have hs2n : Hid (s2 = cmpS h0 P (k + 1)) := by show _ = _; rw [hs2.out, cmpS, ← hs.out, hi.out]
              have hi64 : Hid (i < l') := hlt'
              have LC := (R.msg.cut (show i ≤ l' by omega)).take (m := 64) (by omega)
              have HC := Lib.hid (refblock_c s hok (cutA a d i) 64 (d - i) ((P.drop i).take 64) wr.drew LC.drew (Nat.le_refl _) R.drew.tab)
              rw [show blkS s ((P.drop i).take 64) = s2 from by rw [hs2.out]; exact blkS_congr s (fun j hj => by simp [List.getD, hj])] at HC
              have HS := Lib.hid R
              clear R LC
              go_wp2
              refine wp_region_held_drew (S := fun _ => True) (by kernel_rfl) (trivial) (fun hHeld => ?_)
              refine reg_take (i := 1) rfl (by kernel_rfl) (by kernel_rfl) (by kernel_rfl) (fun _ _ _ h => h) (by rfl) hHeld (v := ?v1) ?hy1 ?rest1
              case hy1 => (intro w' hSw; go_simp <;> try rfl)
              try simp only [Act.put, List.setIfInBounds_toArray, List.set_cons_zero, List.set_cons_succ]
              refine reg_take (i := 2) rfl (by kernel_rfl) (by kernel_rfl) (by kernel_rfl) (fun _ _ _ h => h) (by rfl) hHeld (v := ?v2) ?hy2 ?rest2
              case hy2 => (intro w' hSw; go_simp <;> try rfl)
              try simp only [Act.put, List.setIfInBounds_toArray, List.set_cons_zero, List.set_cons_succ]
              refine reg_take (i := 3) rfl (by kernel_rfl) (by kernel_rfl) (by kernel_rfl) (fun _ _ _ h => h) (by rfl) hHeld (v := ?v3) ?hy3 ?rest3
              case hy3 => (intro w' hSw; go_simp <;> try rfl)
              try simp only [Act.put, List.setIfInBounds_toArray, List.set_cons_zero, List.set_cons_succ]
              refine reg_take (i := 4) rfl (by kernel_rfl) (by kernel_rfl) (by kernel_rfl) (fun _ _ _ h => h) (by rfl) hHeld (v := ?v4) ?hy4 ?rest4
              case hy4 => (intro w' hSw; go_simp <;> try rfl)
              try simp only [Act.put, List.setIfInBounds_toArray, List.set_cons_zero, List.set_cons_succ]
              refine reg_take (i := 5) rfl (by kernel_rfl) (by kernel_rfl) (by kernel_rfl) (fun _ _ _ h => h) (by rfl) hHeld (v := ?v5) ?hy5 ?rest5
              case hy5 => (intro w' hSw; go_simp <;> try rfl)
              try simp only [Act.put, List.setIfInBounds_toArray, List.set_cons_zero, List.set_cons_succ]
              refine wpAnyH_ready (rs := [0]) (by kernel_rfl) (by simp) ?_
              refine reg_cons rfl (by rfl) (fun K hK => ?_) ?_
              · refine wp_load_arr arr43 HS.out.state rfl rfl ?_
                refine hK.out _ _ (trivial) (fun hHeld => ?_)
                clear hK K
                try simp only [Act.put, List.setIfInBounds_toArray, List.set_cons_zero, List.set_cons_succ]
                refine wpAnyH_ready (rs := [6]) (by kernel_rfl) (by simp) ?_
                refine reg_cons rfl (by rfl) (fun K hK => ?_) ?_
                · go_simp
                  refine HC.out.mono ?_
                  rintro e w6 ⟨rfl, b6⟩
                  refine hK.out _ _ (trivial) (fun hHeld => ?_)
                  clear hK K
                  try simp only [Act.put, List.setIfInBounds_toArray, List.set_cons_zero, List.set_cons_succ]
                  refine wpAnyH_ready (rs := [7]) (by kernel_rfl) (by simp) ?_
                  refine reg_cons rfl (by rfl) (fun K hK => ?_) ?_
                  · refine wp_store_arr (cs := stv s2) arr43 (HS.out.state.kept (below_of_drew b6)) rfl rfl rfl rfl (stv_one s2) ?_
                    intro w7 A7 O7
                    refine hK.out _ _ (trivial) (fun hHeld => ?_)
                    clear hK K
                    refine wpAnyH_done (by kernel_rfl) ?_ _
                    go_wp2
                    have RN := (HS.out.drew.kept b6).turn HG0 A7 O7
                    go_roundw
                    case rel => exact ⟨k + 1, i + 64, s2, by omega, rfl, by show _ = _; rw [hi.out]; omega, ok2, hs2n.out, RN⟩
                    case measure => have := hi64.out; simp [intOf]; omega
                  exact AllReadyH.nil
                exact AllReadyH.nil
              exact AllReadyH.nil
            · obtain rfl : k = K := by omega
              have hil : i = l' := by rw [hi.out, hKK.out]
              have hge : ¬ ((i : Int) < (l' : Int)) := by omega
              have hge' : ¬ (i < l') := by omega
              obtain ⟨O, hO⟩ : ∃ O, Hid (O = outL s) := ⟨_, rfl⟩
              have hFO : F = O := by rw [hO.out, hs.out]; exact hfin.out
              subst hFO
              obtain ⟨gd, hgd0⟩ : ∃ g, Hid (g = wr.heap.size) := ⟨_, rfl⟩
              obtain ⟨w8, hw8⟩ : ∃ w8, Hid (w8 = wr.alloc (.cells (List.replicate 32 (Value.int .u8 0)).toArray 25)) := ⟨_, rfl⟩
              have b8 : Below wr.heap.size wr w8 := by rw [hw8.out]; exact (Below.refl _ _).alloc (Nat.le_refl _) _
              have A8 : Arr w8 gd 25 (bcells (F.take 0)) := by rw [hw8.out, hgd0.out]; exact Arr.new _ _ _
              have hgd : g ≠ gd := by have := R.state.lt; rw [hgd0.out]; omega
              have hwd : w.heap.size < gd := by have := R.res.lt; rw [hgd0.out]; omega
              have Rs8 := R.state.kept b8
              have Rr8 := R.res.kept b8
              have B8 : Below w.heap.size w w8 := R.below.trans (b8.mono R.below.size)
              have hFl' : Hid (F.length = 32) := hFl
              clear R b8
              go_upto_region 15 with (fail)
              rw [show (wr.alloc (.cells #[.int .u8 0, .int .u8 0, .int .u8 0, .int .u8 0, .int .u8 0, .int .u8 0, .int .u8 0, .int .u8 0, .int .u8 0, .int .u8 0, .int .u8 0, .int .u8 0, .int .u8 0, .int .u8 0, .int .u8 0, .int .u8 0, .int .u8 0, .int .u8 0, .int .u8 0, .int .u8 0, .int .u8 0, .int .u8 0, .int .u8 0, .int .u8 0, .int .u8 0, .int .u8 0, .int .u8 0, .int .u8 0, .int .u8 0, .int .u8 0, .int .u8 0, .int .u8 0] 25)) = w8 from hw8.out.symm, ← hgd0.out]
              clear hw8 hgd0
              go_wp2
              go_loopw [9] (fun v wr => ∃ i : Nat, i ≤ 32 ∧ v = .int .i64 i ∧ Arr wr gd 25 (bcells (F.take i)) ∧ Arr wr g 43 (stv s) ∧ Arr wr w.heap.size 25 (bcells []) ∧ Below w.heap.size w wr)
                (fun v _ => 32 - (intOf v).toNat)
              case atStart => exact ⟨0, by omega, rfl, A8, Rs8, Rr8, B8⟩
              case round =>
                clear A8 Rs8 Rr8 B8
                obtain ⟨i, hi32, rfl, A, Rs, Rr, B⟩ := hrel
                by_cases hi8 : i < 32
                · obtain ⟨q, hq⟩ : ∃ q, Hid (q = i / 4) := ⟨_, rfl⟩
                  have eq4 : (i : Int) / 4 = (q : Int) := by rw [hq.out]; omega
                  have hq1 : 4 * q ≤ i := by rw [hq.out]; omega
                  have hq2 : i < 4 * q + 4 := by rw [hq.out]; omega
                  obtain ⟨x, hx⟩ : ∃ x, Hid (s.l.getD q 0 = x) := ⟨_, rfl⟩
                  have lx : x ≤ 4294967295 := by rw [← hx.out]; exact l_lt hok q
                  have cx : wr.cell? ⟨g, q, none⟩ = some (.int .u32 (x : Int)) := by
                    rw [Rs.cell q]
                    exact (u32s_at (ws := s.l) (by simp [St.l]; omega)).trans (by rw [hx.out])
                  have q8 : (q : Int) < 8 := by omega
                  have q32 : (i : Int) < 32 := by omega
                  have hf := A.frozen i
                  have hc : wr.cell? ⟨gd, i, none⟩ = some (.int .u8 0) := by rw [A.cell]; exact bcells_new (by simp [hFl'.out]; omega) (by omega)
                  rcases (show i = 4 * q ∨ i = 4 * q + 1 ∨ i = 4 * q + 2 ∨ i = 4 * q + 3 by omega) with h0 | h0 | h0 | h0
                  · -- byte 0
                    have er : (i : Int) % 4 = 0 := by omega
                    have hiq : i = 4 * q := by omega
                    obtain ⟨b, hbb⟩ : ∃ b : Nat, Hid (b = x / 16777216 % 256) := ⟨_, rfl⟩
                    have hb := outL_at s q (by omega)
                    rw [← hO.out, hx.out] at hb
                    have e1 : ((x : Int) / 16777216) % 256 = (b : Int) := by rw [hbb.out]; omega
                    have e2 : IntKind.u8.wrap ((x : Int) / 16777216) = (b : Int) := by rw [IntKind.wrap_u8', hbb.out]; omega
                    have hA : Hid (Arr (wr.setCell ⟨gd, i, none⟩ (.int .u8 (b : Int))) gd 25 (bcells (F.take (i + 1)))) := by
                      have := A.set i (.int .u8 (b : Int))
                      rw [bcells_set (by simp [hFl'.out]; omega) (by omega)] at this
                      rw [take_next _ _ (by rw [hFl'.out]; omega)]
                      have e3 : F.getD i 0 = (b : Int) := by rw [hiq, hb.1, ← hbb.out]
                      rw [e3]
                      exact this
                    have hR := Lib.hid (Rs.far (p := ⟨gd, i, none⟩) hgd (.int .u8 (b : Int)))
                    have hR2 := Lib.hid (Rr.far (p := ⟨gd, i, none⟩) (show w.heap.size ≠ gd by omega) (.int .u8 (b : Int)))
                    have hB := Lib.hid (B.setCell (p := ⟨gd, i, none⟩) (show w.heap.size ≤ gd by omega) (.int .u8 (b : Int)))
                    clear A Rs Rr B hb hiq h0
                    go_wp2
                    go_roundw
                    case rel => exact ⟨i + 1, by omega, by go_num, hA.out, hR.out, hR2.out, hB.out⟩
                    case measure => simp [intOf]; omega
                  · -- byte 1
                    have er : (i : Int) % 4 = 1 := by omega
                    have hiq : i = 4 * q + 1 := by omega
                    obtain ⟨b, hbb⟩ : ∃ b : Nat, Hid (b = x / 65536 % 256) := ⟨_, rfl⟩
                    have hb := outL_at s q (by omega)
                    rw [← hO.out, hx.out] at hb
                    have e1 : ((x : Int) / 65536) % 256 = (b : Int) := by rw [hbb.out]; omega
                    have e2 : IntKind.u8.wrap ((x : Int) / 65536) = (b : Int) := by rw [IntKind.wrap_u8', hbb.out]; omega
                    have hA : Hid (Arr (wr.setCell ⟨gd, i, none⟩ (.int .u8 (b : Int))) gd 25 (bcells (F.take (i + 1)))) := by
                      have := A.set i (.int .u8 (b : Int))
                      rw [bcells_set (by simp [hFl'.out]; omega) (by omega)] at this
                      rw [take_next _ _ (by rw [hFl'.out]; omega)]
                      have e3 : F.getD i 0 = (b : Int) := by rw [hiq, hb.2.1, ← hbb.out]
                      rw [e3]
                      exact this
                    have hR := Lib.hid (Rs.far (p := ⟨gd, i, none⟩) hgd (.int .u8 (b : Int)))
                    have hR2 := Lib.hid (Rr.far (p := ⟨gd, i, none⟩) (show w.heap.size ≠ gd by omega) (.int .u8 (b : Int)))
                    have hB := Lib.hid (B.setCell (p := ⟨gd, i, none⟩) (show w.heap.size ≤ gd by omega) (.int .u8 (b : Int)))
                    clear A Rs Rr B hb hiq h0
                    go_wp2
                    go_roundw
                    case rel => exact ⟨i + 1, by omega, by go_num, hA.out, hR.out, hR2.out, hB.out⟩
                    case measure => simp [intOf]; omega
                  · -- byte 2
                    have er : (i : Int) % 4 = 2 := by omega
                    have hiq : i = 4 * q + 2 := by omega
                    obtain ⟨b, hbb⟩ : ∃ b : Nat, Hid (b = x / 256 % 256) := ⟨_, rfl⟩
                    have hb := outL_at s q (by omega)
                    rw [← hO.out, hx.out] at hb
                    have e1 : ((x : Int) / 256) % 256 = (b : Int) := by rw [hbb.out]; omega
                    have e2 : IntKind.u8.wrap ((x : Int) / 256) = (b : Int) := by rw [IntKind.wrap_u8', hbb.out]; omega
                    have hA : Hid (Arr (wr.setCell ⟨gd, i, none⟩ (.int .u8 (b : Int))) gd 25 (bcells (F.take (i + 1)))) := by
                      have := A.set i (.int .u8 (b : Int))
                      rw [bcells_set (by simp [hFl'.out]; omega) (by omega)] at this
                      rw [take_next _ _ (by rw [hFl'.out]; omega)]
                      have e3 : F.getD i 0 = (b : Int) := by rw [hiq, hb.2.2.1, ← hbb.out]
                      rw [e3]
                      exact this
                    have hR := Lib.hid (Rs.far (p := ⟨gd, i, none⟩) hgd (.int .u8 (b : Int)))
                    have hR2 := Lib.hid (Rr.far (p := ⟨gd, i, none⟩) (show w.heap.size ≠ gd by omega) (.int .u8 (b : Int)))
                    have hB := Lib.hid (B.setCell (p := ⟨gd, i, none⟩) (show w.heap.size ≤ gd by omega) (.int .u8 (b : Int)))
                    clear A Rs Rr B hb hiq h0
                    go_wp2
                    go_roundw
                    case rel => exact ⟨i + 1, by omega, by go_num, hA.out, hR.out, hR2.out, hB.out⟩
                    case measure => simp [intOf]; omega
                  · -- byte 3
                    have er : (i : Int) % 4 = 3 := by omega
                    have hiq : i = 4 * q + 3 := by omega
                    obtain ⟨b, hbb⟩ : ∃ b : Nat, Hid (b = x / 1 % 256) := ⟨_, rfl⟩
                    have hb := outL_at s q (by omega)
                    rw [← hO.out, hx.out] at hb
                    have e1 : ((x : Int)) % 256 = (b : Int) := by rw [hbb.out]; omega
                    have e2 : IntKind.u8.wrap ((x : Int)) = (b : Int) := by rw [IntKind.wrap_u8', hbb.out]; omega
                    have hA : Hid (Arr (wr.setCell ⟨gd, i, none⟩ (.int .u8 (b : Int))) gd 25 (bcells (F.take (i + 1)))) := by
                      have := A.set i (.int .u8 (b : Int))
                      rw [bcells_set (by simp [hFl'.out]; omega) (by omega)] at this
                      rw [take_next _ _ (by rw [hFl'.out]; omega)]
                      have e3 : F.getD i 0 = (b : Int) := by rw [hiq, hb.2.2.2, ← hbb.out]
                      rw [e3]
                      exact this
                    have hR := Lib.hid (Rs.far (p := ⟨gd, i, none⟩) hgd (.int .u8 (b : Int)))
                    have hR2 := Lib.hid (Rr.far (p := ⟨gd, i, none⟩) (show w.heap.size ≠ gd by omega) (.int .u8 (b : Int)))
                    have hB := Lib.hid (B.setCell (p := ⟨gd, i, none⟩) (show w.heap.size ≤ gd by omega) (.int .u8 (b : Int)))
                    clear A Rs Rr B hb hiq h0
                    go_wp2
                    go_roundw
                    case rel => exact ⟨i + 1, by omega, by go_num, hA.out, hR.out, hR2.out, hB.out⟩
                    case measure => simp [intOf]; omega
                · obtain rfl : i = 32 := by omega
                  rw [List.take_of_length_le (by rw [hFl'.out]; omega)] at A
                  rw [show ((32 : Nat) : Int) = 32 from rfl]
                  have HA := Lib.hid A
                  have HR := Lib.hid Rr
                  have hsz := Rr.lt
                  clear A Rr
                  go_wp2_with (first
                    | ((with_reducible refine wpList_load_arr (d := some 69) arr25 HA.out ?e1 ?e2 ?_); (case e1 => rfl); (case e2 => exact bcells_len (Nat.le_of_eq hFl'.out)))
                    | ((with_reducible refine wpList_store_arr (x := .tmp 2) (y := .tmp 69) (cs := bcells F) arr25 HR.out ?e1 ?e2 ?e3 ?e4 ?e5 ?_); (case e1 => rfl); (case e2 => rfl); (case e3 => exact bcells_len (Nat.zero_le _)); (case e4 => exact bcells_len (Nat.le_of_eq hFl'.out)); (case e5 => exact bcells_one F); intro w9 hA9 hO9))
                  refine bodyPost_ret (results_arr arr25 rfl _ rfl hA9 (bcells_len (Nat.le_of_eq hFl'.out))) rfl ⟨rfl, hO9.below B (by omega) (Nat.le_refl _)⟩
end Go.Proofs.YtfmpccfoemgiiaaDoor

