/-
  The reference's Crash.
-/
import Derived.Test.YtbnomkcliejcaaaDskRNew3
namespace Go.Proofs.Ytbnomkcliejcaaa
open Go.RowKit Ds
attribute [local go_sem] Oper.semAt_some
set_option linter.unusedSimpArgs false

/-- What a loss of power leaves, by the reference. -/
def rcr (keep : List Bool) : Nat → List Sec → List Sec → List Bool → List Sec
  | _, [], _, _ => []
  | _, s :: ss, [], _ => s :: ss
  | _, s :: ss, _ :: _, [] => s :: ss
  | k, s :: ss, l :: ls, b :: bs => (if b && keep.getD k false then l else s) :: rcr keep (if b then k + 1 else k) ss ls bs
def cnt (bs : List Bool) (j : Nat) : Nat := ((bs.take j).filter id).length
theorem rcr_at (keep : List Bool) : ∀ (bs : List Bool) (ss ls : List Sec) (k j : Nat), ss.length = bs.length → ls.length = bs.length → j < bs.length →
    (rcr keep k ss ls bs).getD j [] = if bs.getD j false && keep.getD (k + cnt bs j) false then ls.getD j [] else ss.getD j []
  | [], ss, ls, k, j, _, _, h => by simp at h
  | b :: bs, [], ls, k, j, h, _, _ => by simp at h
  | b :: bs, s :: ss, [], k, j, _, h, _ => by simp at h
  | b :: bs, s :: ss, l :: ls, k, 0, _, _, _ => by simp [rcr, cnt]
  | b :: bs, s :: ss, l :: ls, k, j + 1, h1, h2, h3 => by
    have ih := rcr_at keep bs ss ls (if b then k + 1 else k) j (by simpa using h1) (by simpa using h2) (by simpa using h3)
    have e : (if b then k + 1 else k) + cnt bs j = k + cnt (b :: bs) (j + 1) := by
      cases b
      · simp [cnt]
      · simp [cnt]; omega
    rw [e] at ih
    simpa [rcr] using ih
theorem rcr_len (keep : List Bool) : ∀ (bs : List Bool) (ss ls : List Sec) (k : Nat), (rcr keep k ss ls bs).length = ss.length
  | _, [], _, _ => by simp [rcr]
  | _, s :: ss, [], _ => by simp [rcr]
  | [], s :: ss, _ :: _, _ => by simp [rcr]
  | b :: bs, s :: ss, l :: ls, k => by simp [rcr, rcr_len keep bs ss ls]
/-- The new disk, before round j. -/
def cpart (n : Nat) (R : List Sec) (j : Nat) : Rf := { Rf.blank n with safe := R.take j ++ (List.replicate n zeroS).drop j, last := R.take j ++ (List.replicate n zeroS).drop j }
theorem cpart_next {n j : Nat} {R : List Sec} (hR : R.length = n) (hj : j < n) : ({ ({ cpart n R j with safe := (cpart n R j).safe.set j (R.getD j []) } : Rf) with last := (cpart n R j).last.set j (R.getD j []) } : Rf) = cpart n R (j + 1) := by
  have e := set_next (xs := R) (ys := List.replicate n zeroS) (d := ([] : Sec)) (j := j) (by omega) (by simpa using hj)
  unfold cpart
  simp only [e]
theorem ROff.low {B q s l t : Nat} {w0 w w' : World} (h : ROff q s l t w w') (hb : Below B w0 w) (hB : B ≤ w.heap.size) (h1 : B ≤ q) (h2 : B ≤ s) (h3 : B ≤ l) (h4 : B ≤ t) : Below B w0 w' :=
  hb.trans ⟨h.os, h.tape, h.output, h.size, fun k hk => h.block k (by omega) (by omega) (by omega) (by omega) (by omega)⟩
theorem own_by {W : World} {B c : Nat} {ao : Option Addr} {xs : List Int} (h : Own 5 .u8 B W ao 64 c xs) : By W (.slice ao 64 c) xs := by
  rcases h.1.2 with ⟨_, h0⟩ | ⟨g, cap, cur, hv, _, hh, _⟩
  · omega
  · injection hv with e1 _ e3
    subst e1; subst e3
    exact ⟨⟨g, 0, none⟩, c, rfl, h.lst, cur, (0, 0), hh⟩
/-- The two stores of a round. -/
theorem rcrash_step {U W1 W2 : World} {B q s l t n sc lc tc i : Nat} {r : Rf} (h : RefD U q s l t n sc lc tc r) (hb : B ≤ q ∧ B ≤ s ∧ B ≤ l ∧ B ≤ t ∧ B ≤ U.heap.size) (hi : i < n) {a1 a2 : Option Addr} {e1 e2 : Nat} {xs : List Int} (O1 : Own 5 .u8 U.heap.size W1 a1 64 e1 xs) (B1 : Below U.heap.size U W1) (O2 : Own 5 .u8 W1.heap.size W2 a2 64 e2 xs) (B2 : Below W1.heap.size W1 W2) :
    ∃ V V2, (Instr.storeAt 27 (.pointer (some ⟨s, i, none⟩)) (.slice a1 64 e1)).run Try.prog W2 = .ok () V ∧ (Instr.storeAt 27 (.pointer (some ⟨l, i, none⟩)) (.slice a2 64 e2)).run Try.prog V = .ok () V2 ∧
      RefD V2 q s l t n sc lc tc { ({ r with safe := r.safe.set i xs } : Rf) with last := r.last.set i xs } ∧ Below B U V2 := by
  have y1 := (own_by O1).below B2
  have y2 := own_by O2
  have R2 := (h.below B1).below B2
  obtain ⟨V, rV, RV, OV⟩ := R2.putSafe hi y1
  have hA := R2.safe
  obtain ⟨_, _, _, us, rest, hs, _⟩ := hA
  have gV : W2.grownBy V (some s) := by
    refine ⟨OV.os, OV.tape, OV.output, OV.size, fun k hk hne => ?_⟩
    obtain ⟨V', rV', _, _⟩ := R2.putSafe hi y1
    obtain ⟨p, c, hp, _⟩ := y1
    have hcell : ∃ u, W2.cell? ⟨s, i, none⟩ = some u := by
      obtain ⟨u, hu, _⟩ := R2.safe.get hi
      exact ⟨u, hu⟩
    obtain ⟨u, hu⟩ := hcell
    have hfz := hs.frozen i
    have : (Instr.storeAt 27 (.pointer (some ⟨s, i, none⟩)) (.slice a1 64 e1)).run Try.prog W2 = .ok () (W2.setCell ⟨s, i, none⟩ (.slice a1 64 e1)) := by
      rw [hp]
      go_simp
    rw [rV] at this
    injection this with _ this
    rw [this]
    exact (grown_setG W2 s i _).block k hk hne
  have y3 := y2.kept gV (row_no8 hs (by decide))
  obtain ⟨V2, rV2, RV2, OV2⟩ := RV.putLast hi y3
  have z1 := B1.size
  have z2 := B2.size
  have bb : Below B U W2 := (B1.mono hb.2.2.2.2).trans (B2.mono (by omega))
  have bV := OV.low bb (by omega) hb.1 hb.2.1 hb.2.2.1 hb.2.2.2.1
  exact ⟨V, V2, rV, rV2, RV2, OV2.low bV (by have := OV.size; omega) hb.1 hb.2.1 hb.2.2.1 hb.2.2.2.1⟩
def Rf.crash (r : Rf) (n : Nat) (keep : List Bool) : Rf := { Rf.blank n with safe := rcr keep 0 r.safe r.last r.dirt, last := rcr keep 0 r.safe r.last r.dirt }
set_option maxHeartbeats 12800000 in
set_option maxRecDepth 100000 in
theorem rcrash_c {w : World} {q s l t n sc lc tc : Nat} {r : Rf} (h : RefD w q s l t n sc lc tc r) (hn : 1 ≤ n) (hn2 : n ≤ 4096) {ko : Option Addr} {kn kc : Nat} {keep : List Bool} (hK : LstT w ko kn kc keep) :
    Calls Try.prog 20 #[.pointer (some ⟨q, 0, none⟩), .slice ko kn kc] w fun e w' => ∃ q' s' l' t' sc' lc' tc', e = .returned (.pointer (some ⟨q', 0, none⟩)) ∧ RefD w' q' s' l' t' n sc' lc' tc' (r.crash n keep) ∧ w.heap.size ≤ q' ∧ w.heap.size ≤ s' ∧ w.heap.size ≤ l' ∧ w.heap.size ≤ t' ∧ Below w.heap.size w w' := by
  obtain ⟨_, k1, _, _, _, _⟩ := h.cells
  have HD := Lib.hid h
  have HK := Lib.hid hK
  have hKl := Lib.hid hK.len
  have hkc := hK.cap
  have hkr := hK.room
  have hls := Lib.hid h.safe.1
  have hll := Lib.hid h.last.1
  have hld := Lib.hid h.dirt.1
  obtain ⟨R, hR⟩ : ∃ R, Hid (rcr keep 0 r.safe r.last r.dirt = R) := ⟨_, rfl⟩
  have hRl : Hid (R.length = n) := by show _ = _; rw [← hR.out, rcr_len, hls.out]
  have hN := rnew_c n hn hn2 w
  clear h hK
  have hN2 : Calls Try.prog 9 #[.int .i64 (n : Int)] w fun e w1 => e = .returned (.pointer (some ⟨w.heap.size, 0, none⟩)) ∧ w1.cell? ⟨q, 1, none⟩ = some (.slice (some ⟨l, 0, none⟩) n lc) ∧ ∃ s' l' t' sc' lc' tc', Hid (RefD w1 w.heap.size s' l' t' n sc' lc' tc' (cpart n R 0)) ∧ Hid (w.heap.size ≤ s' ∧ w.heap.size ≤ l' ∧ w.heap.size ≤ t') ∧ Hid (Below w.heap.size w w1) := by
    refine hN.mono ?_
    rintro e w1 ⟨s', l', t', sc', lc', tc', rfl, r1, r2, r3, r4, r5⟩
    exact ⟨rfl, (World.cell?_of_block (r5.block _ (World.block_lt_of_cell? w _ k1))).trans k1, s', l', t', sc', lc', tc', r1, ⟨r2, r3, r4⟩, r5⟩
  clear hN
  go_enter Try.func20, Try.ntmps20
  go_wp2_with (go_at_call 9; (with_reducible refine hN2.mono ?_); rintro e w1 ⟨rfl, k2, s', l', t', sc', lc', tc', R0, g0, B0⟩)
  clear hN2 k1 k2
  go_loopw [6, 7, 8, 20] (fun kv _ _ i wr => ∃ j : Nat, j ≤ n ∧ kv = .int .i64 (cnt r.dirt j : Int) ∧ i = .int .i64 (j : Int) ∧ Hid (RefD wr w.heap.size s' l' t' n sc' lc' tc' (cpart n R j)) ∧ Hid (Below w.heap.size w wr)) (fun _ _ _ i _ => n - (intOf i).toNat)
  case atStart => exact ⟨0, by omega, rfl, rfl, R0, B0⟩
  case round =>
    obtain ⟨u, hu⟩ : ∃ x, x = wr := ⟨_, rfl⟩
    subst hu
    obtain ⟨j, hj, rfl, rfl, RC, BB⟩ := hrel
    clear R0 B0
    by_cases hlt : j < n
    · have hlt' : (j : Int) < (n : Int) := by omega
      have g1 := Lib.hid (show w.heap.size ≤ w.heap.size ∧ w.heap.size ≤ s' ∧ w.heap.size ≤ l' ∧ w.heap.size ≤ t' ∧ w.heap.size ≤ u.drew.heap.size from ⟨Nat.le_refl _, g0.out.1, g0.out.2.1, g0.out.2.2, BB.out.size⟩)
      have DU := HD.out.below BB.out
      obtain ⟨d0, d1, d2, _, _, _⟩ := DU.cells
      obtain ⟨vs, hvs, hBs⟩ := DU.safe.get hlt
      obtain ⟨vl, hvl, hBl⟩ := DU.last.get hlt
      have hvd := DU.dirt.get hlt
      obtain ⟨x0, x1, _, _, _, _⟩ := RC.out.drew.cells
      have iS := ixRow s n sc j hlt
      have iL := ixRow l n lc j hlt
      have iT := ixBool t n tc j hlt
      have iS' := ixRow s' n sc' j hlt
      have iL' := ixRow l' n lc' j hlt
      have hRj := rcr_at keep r.dirt r.safe r.last 0 j (by rw [hls.out, hld.out]) (by rw [hll.out, hld.out]) (by rw [hld.out]; exact hlt)
      rw [hR.out, Nat.zero_add] at hRj
      have hcn : ∀ b, r.dirt.getD j false = b → Hid (cnt r.dirt (j + 1) = cnt r.dirt j + (if b then 1 else 0)) := fun b hb => by
        have hjl : j < r.dirt.length := by rw [hld.out]; exact hlt
        show _ = _
        unfold cnt
        have e : r.dirt.take (j + 1) = r.dirt.take j ++ [b] := by
          rw [List.take_succ_eq_append_getElem hjl, ← hb]
          simp [List.getD, hjl]
        rw [e, List.filter_append, List.length_append]
        cases b <;> rfl
      have hcb : cnt r.dirt j ≤ 4096 := by
        unfold cnt
        exact Nat.le_trans (List.length_filter_le _ _) (by simp; omega)
      obtain ⟨k, hk⟩ : ∃ k, cnt r.dirt j = k := ⟨_, rfl⟩
      rw [hk] at hRj hcn hcb ⊢
      have KT := (HK.out.below BB.out)
      obtain ⟨p1, e1', rfl, LS, _⟩ := hBs
      obtain ⟨p2, e2', rfl, LL, _⟩ := hBl
      cases hd : r.dirt.getD j false with
      | false =>
        rw [hd] at hvd hRj
        have hRj : R.getD j [] = r.safe.getD j [] := hRj
        have hc2 := hcn false hd
        have LV := (LS.drewN 1)
        clear hcn KT LL hvl iL hd DU
        obtain ⟨V3, hV3⟩ : ∃ x, x = u := ⟨_, rfl⟩
        clear hV3 V3
        go_wp2_with (fail)
        refine wp_region_L [(15, fun w' => w'.cell? ⟨w.heap.size, 0, none⟩ = some (.slice (some ⟨s', 0, none⟩) n sc') ∧ w'.cell? ⟨w.heap.size, 1, none⟩ = some (.slice (some ⟨l', 0, none⟩) n lc'))] (by kernel_rfl) (fun c hc _ => by simp only [List.mem_cons, List.not_mem_nil, or_false] at hc; subst hc; exact ⟨x0, x1⟩) (fun hS => ?_)
        refine regL_pure (i := 0) rfl (by rfl) (by kernel_rfl) (by kernel_rfl) (by kernel_rfl) (fun _ _ _ h => h) (by rfl) hS (v := ?vr1) ?hyr1 ?rtr1
        case hyr1 => (intro w'; go_simp <;> try rfl)
        intro hS
        try simp only [Act.put, List.setIfInBounds_toArray, List.set_cons_zero, List.set_cons_succ]
        refine regL_pure (i := 1) rfl (by rfl) (by kernel_rfl) (by kernel_rfl) (by kernel_rfl) (fun _ _ _ h => h) (by rfl) hS (v := ?vr2) ?hyr2 ?rtr2
        case hyr2 => (intro w'; go_simp <;> try rfl)
        intro hS
        try simp only [Act.put, List.setIfInBounds_toArray, List.set_cons_zero, List.set_cons_succ]
        refine regL_pure (i := 2) rfl (by rfl) (by kernel_rfl) (by kernel_rfl) (by kernel_rfl) (fun _ _ _ h => h) (by rfl) hS (v := ?vr3) ?hyr3 ?rtr3
        case hyr3 => (intro w'; go_simp <;> try rfl)
        intro hS
        try simp only [Act.put, List.setIfInBounds_toArray, List.set_cons_zero, List.set_cons_succ]
        refine regL_take (i := 3) (15, fun w' => w'.cell? ⟨w.heap.size, 0, none⟩ = some (.slice (some ⟨s', 0, none⟩) n sc') ∧ w'.cell? ⟨w.heap.size, 1, none⟩ = some (.slice (some ⟨l', 0, none⟩) n lc')) rfl (by simp) (by rfl) (by kernel_rfl) (by rfl) (by kernel_rfl) (by kernel_rfl) (by kernel_rfl) (fun _ _ _ h => h) (by rfl) hS (v := ?vr4) ?hyr4 ?rtr4
        case hyr4 => (intro w' hc; dsimp only at hc; obtain ⟨c0, c1⟩ := hc; go_simp <;> try rfl)
        intro hS
        try simp only [Act.put, List.setIfInBounds_toArray, List.set_cons_zero, List.set_cons_succ]
        refine regL_pure (i := 4) rfl (by rfl) (by kernel_rfl) (by kernel_rfl) (by kernel_rfl) (fun _ _ _ h => h) (by rfl) hS (v := ?vr5) ?hyr5 ?rtr5
        case hyr5 => (intro w'; go_simp <;> try rfl)
        intro hS
        try simp only [Act.put, List.setIfInBounds_toArray, List.set_cons_zero, List.set_cons_succ]
        refine regL_pure (i := 5) rfl (by rfl) (by kernel_rfl) (by kernel_rfl) (by kernel_rfl) (fun _ _ _ h => h) (by rfl) hS (v := ?vr6) ?hyr6 ?rtr6
        case hyr6 => (intro w'; go_simp <;> try rfl)
        intro hS
        try simp only [Act.put, List.setIfInBounds_toArray, List.set_cons_zero, List.set_cons_succ]
        refine regL_pure (i := 6) rfl (by rfl) (by kernel_rfl) (by kernel_rfl) (by kernel_rfl) (fun _ _ _ h => h) (by rfl) hS (v := ?vr7) ?hyr7 ?rtr7
        case hyr7 => (intro w'; go_simp <;> try rfl)
        intro hS
        try simp only [Act.put, List.setIfInBounds_toArray, List.set_cons_zero, List.set_cons_succ]
        refine regL_pure (i := 7) rfl (by rfl) (by kernel_rfl) (by kernel_rfl) (by kernel_rfl) (fun _ _ _ h => h) (by rfl) hS (v := ?vr8) ?hyr8 ?rtr8
        case hyr8 => (intro w'; go_simp <;> try rfl)
        intro hS
        try simp only [Act.put, List.setIfInBounds_toArray, List.set_cons_zero, List.set_cons_succ]
        refine regL_take (i := 8) (15, fun w' => w'.cell? ⟨w.heap.size, 0, none⟩ = some (.slice (some ⟨s', 0, none⟩) n sc') ∧ w'.cell? ⟨w.heap.size, 1, none⟩ = some (.slice (some ⟨l', 0, none⟩) n lc')) rfl (by simp) (by rfl) (by kernel_rfl) (by rfl) (by kernel_rfl) (by kernel_rfl) (by kernel_rfl) (fun _ _ _ h => h) (by rfl) hS (v := ?vr9) ?hyr9 ?rtr9
        case hyr9 => (intro w' hc; dsimp only at hc; obtain ⟨c0, c1⟩ := hc; go_simp <;> try rfl)
        intro hS
        try simp only [Act.put, List.setIfInBounds_toArray, List.set_cons_zero, List.set_cons_succ]
        refine regL_pure (i := 9) rfl (by rfl) (by kernel_rfl) (by kernel_rfl) (by kernel_rfl) (fun _ _ _ h => h) (by rfl) hS (v := ?vr10) ?hyr10 ?rtr10
        case hyr10 => (intro w'; go_simp <;> try rfl)
        intro hS
        try simp only [Act.put, List.setIfInBounds_toArray, List.set_cons_zero, List.set_cons_succ]
        refine regL_pure (i := 10) rfl (by rfl) (by kernel_rfl) (by kernel_rfl) (by kernel_rfl) (fun _ _ _ h => h) (by rfl) hS (v := ?vr11) ?hyr11 ?rtr11
        case hyr11 => (intro w'; go_simp <;> try rfl)
        intro hS
        try simp only [Act.put, List.setIfInBounds_toArray, List.set_cons_zero, List.set_cons_succ]
        refine regL_pure (i := 12) rfl (by rfl) (by kernel_rfl) (by kernel_rfl) (by kernel_rfl) (fun _ _ _ h => h) (by rfl) hS (v := ?vr12) ?hyr12 ?rtr12
        case hyr12 => (intro w'; go_simp <;> try rfl)
        intro hS
        try simp only [Act.put, List.setIfInBounds_toArray, List.set_cons_zero, List.set_cons_succ]
        refine regL_ready (rs := [11]) (by kernel_rfl) (by simp) ?_
        refine regL_cons rfl (by rfl) (fun K hK => ?_) regL_nil
        refine wp_appL8 (own_nil 5 .u8 u.drew.heap.size u.drew) LV (fun e => by cases e) (Nat.le_refl _) (by omega) (by omega) rfl rfl (fun a1 e1 W1 O1 B1 => ?_)
        rw [Nat.zero_add, List.nil_append] at O1
        have y0 := (World.cell?_of_block (B1.block _ (World.block_lt_of_cell? u.drew _ x0))).trans x0
        have y1 := (World.cell?_of_block (B1.block _ (World.block_lt_of_cell? u.drew _ x1))).trans x1
        have LV1 := LV.below B1
        refine hK.out _ _ (fun c hc hl => by simp only [List.mem_cons, List.not_mem_nil, or_false] at hc; subst hc; exact ⟨y0, y1⟩) ?_
        clear hK K
        intro hS
        try simp only [Act.put, List.setIfInBounds_toArray, List.set_cons_zero, List.set_cons_succ]
        refine regL_ready (rs := [13]) (by kernel_rfl) (by simp) ?_
        refine regL_cons rfl (by rfl) (fun K hK => ?_) regL_nil
        refine wp_appL8 (own_nil 5 .u8 W1.heap.size W1) LV1 (fun e => by cases e) (Nat.le_refl _) (by omega) (by omega) rfl rfl (fun a2 e2 W2 O2 B2 => ?_)
        rw [Nat.zero_add, List.nil_append] at O2
        have z0 := (World.cell?_of_block (B2.block _ (World.block_lt_of_cell? W1 _ y0))).trans y0
        have z1 := (World.cell?_of_block (B2.block _ (World.block_lt_of_cell? W1 _ y1))).trans y1
        obtain ⟨V, V2, rV, rV2, RN, BN⟩ := rcrash_step RC.out.drew g1.out hlt O1 B1 O2 B2
        refine hK.out _ _ (fun c hc hl => by simp only [List.mem_cons, List.not_mem_nil, or_false] at hc; subst hc; exact ⟨z0, z1⟩) ?_
        clear hK K
        intro hS
        try simp only [Act.put, List.setIfInBounds_toArray, List.set_cons_zero, List.set_cons_succ]
        refine regL_pure (i := 14) rfl (by rfl) (by kernel_rfl) (by kernel_rfl) (by kernel_rfl) (fun _ _ _ h => h) (by rfl) hS (v := ?vr13) ?hyr13 ?rtr13
        case hyr13 => (intro w'; go_simp <;> try rfl)
        intro hS
        try simp only [Act.put, List.setIfInBounds_toArray, List.set_cons_zero, List.set_cons_succ]
        refine regL_ready (rs := [15]) (by kernel_rfl) (by simp) ?_
        refine regL_cons rfl (by rfl) (fun K hK => ?_) regL_nil
        refine wp_storeBy rfl rfl rV ?_
        refine hK.out _ _ (fun c hc hl => by simp only [List.mem_cons, List.not_mem_nil, or_false] at hc; subst hc; exact Bool.noConfusion (show true = false from hl)) ?_
        clear hK K
        intro hS
        try simp only [Act.put, List.setIfInBounds_toArray, List.set_cons_zero, List.set_cons_succ]
        refine regL_pure (i := 16) rfl (by rfl) (by kernel_rfl) (by kernel_rfl) (by kernel_rfl) (fun _ _ _ h => h) (by rfl) hS (v := ?vr14) ?hyr14 ?rtr14
        case hyr14 => (intro w'; go_simp <;> try rfl)
        intro hS
        try simp only [Act.put, List.setIfInBounds_toArray, List.set_cons_zero, List.set_cons_succ]
        refine regL_ready (rs := [17]) (by kernel_rfl) (by simp) ?_
        refine regL_cons rfl (by rfl) (fun K hK => ?_) regL_nil
        refine wp_storeBy rfl rfl rV2 ?_
        refine hK.out _ _ (fun c hc hl => by simp only [List.mem_cons, List.not_mem_nil, or_false] at hc; subst hc; exact Bool.noConfusion (show true = false from hl)) ?_
        clear hK K
        intro hS
        try simp only [Act.put, List.setIfInBounds_toArray, List.set_cons_zero, List.set_cons_succ]
        refine regL_done (by kernel_rfl) ?_ _
        have RE := Lib.hid (show RefD V2 w.heap.size s' l' t' n sc' lc' tc' (cpart n R (j + 1)) by rw [← cpart_next hRl.out hlt, hRj]; exact RN)
        have BE : Hid (Below w.heap.size w V2) := BB.out.trans ((show Below u.heap.size u u.drew from (Below.refl _ _).drew).mono BB.out.size |>.trans BN)
        clear RN BN O1 O2 B1 B2 y0 y1 z0 z1 rV rV2 LV LV1
        go_wp2_with fail
        go_roundw
        case rel => exact ⟨j + 1, by omega, by rw [hc2.out]; go_num, by go_num, RE, BE⟩
        case measure => simp [intOf]; omega
      | true =>
        rw [hd] at hvd hRj
        have hc2 := hcn true hd
        cases hkk : keep.getD k false with
        | true =>
          rw [hkk] at hRj
          have hRj : R.getD j [] = r.last.getD j [] := hRj
          have hkn : k < kn := by
            have h1 := hKl.out
            rcases Nat.lt_or_ge k kn with h2 | h2
            · exact h2
            · rw [List.getD_eq_getElem?_getD, List.getElem?_eq_none (by omega)] at hkk
              cases hkk
          have hkn' : (k : Int) < (kn : Int) := by omega
          have iK := ixT KT k hkn
          have cK := KT.cell k hkn
          rw [hkk] at cK
          have LV := (LL.drewN 1)
          clear hcn KT LS hd hkk DU
          obtain ⟨V3, hV3⟩ : ∃ x, x = u := ⟨_, rfl⟩
          clear hV3 V3
          go_wp2_with (fail)
          refine wp_region_L [(15, fun w' => w'.cell? ⟨w.heap.size, 0, none⟩ = some (.slice (some ⟨s', 0, none⟩) n sc') ∧ w'.cell? ⟨w.heap.size, 1, none⟩ = some (.slice (some ⟨l', 0, none⟩) n lc'))] (by kernel_rfl) (fun c hc _ => by simp only [List.mem_cons, List.not_mem_nil, or_false] at hc; subst hc; exact ⟨x0, x1⟩) (fun hS => ?_)
          refine regL_pure (i := 0) rfl (by rfl) (by kernel_rfl) (by kernel_rfl) (by kernel_rfl) (fun _ _ _ h => h) (by rfl) hS (v := ?vr15) ?hyr15 ?rtr15
          case hyr15 => (intro w'; go_simp <;> try rfl)
          intro hS
          try simp only [Act.put, List.setIfInBounds_toArray, List.set_cons_zero, List.set_cons_succ]
          refine regL_pure (i := 1) rfl (by rfl) (by kernel_rfl) (by kernel_rfl) (by kernel_rfl) (fun _ _ _ h => h) (by rfl) hS (v := ?vr16) ?hyr16 ?rtr16
          case hyr16 => (intro w'; go_simp <;> try rfl)
          intro hS
          try simp only [Act.put, List.setIfInBounds_toArray, List.set_cons_zero, List.set_cons_succ]
          refine regL_pure (i := 2) rfl (by rfl) (by kernel_rfl) (by kernel_rfl) (by kernel_rfl) (fun _ _ _ h => h) (by rfl) hS (v := ?vr17) ?hyr17 ?rtr17
          case hyr17 => (intro w'; go_simp <;> try rfl)
          intro hS
          try simp only [Act.put, List.setIfInBounds_toArray, List.set_cons_zero, List.set_cons_succ]
          refine regL_take (i := 3) (15, fun w' => w'.cell? ⟨w.heap.size, 0, none⟩ = some (.slice (some ⟨s', 0, none⟩) n sc') ∧ w'.cell? ⟨w.heap.size, 1, none⟩ = some (.slice (some ⟨l', 0, none⟩) n lc')) rfl (by simp) (by rfl) (by kernel_rfl) (by rfl) (by kernel_rfl) (by kernel_rfl) (by kernel_rfl) (fun _ _ _ h => h) (by rfl) hS (v := ?vr18) ?hyr18 ?rtr18
          case hyr18 => (intro w' hc; dsimp only at hc; obtain ⟨c0, c1⟩ := hc; go_simp <;> try rfl)
          intro hS
          try simp only [Act.put, List.setIfInBounds_toArray, List.set_cons_zero, List.set_cons_succ]
          refine regL_pure (i := 4) rfl (by rfl) (by kernel_rfl) (by kernel_rfl) (by kernel_rfl) (fun _ _ _ h => h) (by rfl) hS (v := ?vr19) ?hyr19 ?rtr19
          case hyr19 => (intro w'; go_simp <;> try rfl)
          intro hS
          try simp only [Act.put, List.setIfInBounds_toArray, List.set_cons_zero, List.set_cons_succ]
          refine regL_pure (i := 5) rfl (by rfl) (by kernel_rfl) (by kernel_rfl) (by kernel_rfl) (fun _ _ _ h => h) (by rfl) hS (v := ?vr20) ?hyr20 ?rtr20
          case hyr20 => (intro w'; go_simp <;> try rfl)
          intro hS
          try simp only [Act.put, List.setIfInBounds_toArray, List.set_cons_zero, List.set_cons_succ]
          refine regL_pure (i := 6) rfl (by rfl) (by kernel_rfl) (by kernel_rfl) (by kernel_rfl) (fun _ _ _ h => h) (by rfl) hS (v := ?vr21) ?hyr21 ?rtr21
          case hyr21 => (intro w'; go_simp <;> try rfl)
          intro hS
          try simp only [Act.put, List.setIfInBounds_toArray, List.set_cons_zero, List.set_cons_succ]
          refine regL_pure (i := 7) rfl (by rfl) (by kernel_rfl) (by kernel_rfl) (by kernel_rfl) (fun _ _ _ h => h) (by rfl) hS (v := ?vr22) ?hyr22 ?rtr22
          case hyr22 => (intro w'; go_simp <;> try rfl)
          intro hS
          try simp only [Act.put, List.setIfInBounds_toArray, List.set_cons_zero, List.set_cons_succ]
          refine regL_take (i := 8) (15, fun w' => w'.cell? ⟨w.heap.size, 0, none⟩ = some (.slice (some ⟨s', 0, none⟩) n sc') ∧ w'.cell? ⟨w.heap.size, 1, none⟩ = some (.slice (some ⟨l', 0, none⟩) n lc')) rfl (by simp) (by rfl) (by kernel_rfl) (by rfl) (by kernel_rfl) (by kernel_rfl) (by kernel_rfl) (fun _ _ _ h => h) (by rfl) hS (v := ?vr23) ?hyr23 ?rtr23
          case hyr23 => (intro w' hc; dsimp only at hc; obtain ⟨c0, c1⟩ := hc; go_simp <;> try rfl)
          intro hS
          try simp only [Act.put, List.setIfInBounds_toArray, List.set_cons_zero, List.set_cons_succ]
          refine regL_pure (i := 9) rfl (by rfl) (by kernel_rfl) (by kernel_rfl) (by kernel_rfl) (fun _ _ _ h => h) (by rfl) hS (v := ?vr24) ?hyr24 ?rtr24
          case hyr24 => (intro w'; go_simp <;> try rfl)
          intro hS
          try simp only [Act.put, List.setIfInBounds_toArray, List.set_cons_zero, List.set_cons_succ]
          refine regL_pure (i := 10) rfl (by rfl) (by kernel_rfl) (by kernel_rfl) (by kernel_rfl) (fun _ _ _ h => h) (by rfl) hS (v := ?vr25) ?hyr25 ?rtr25
          case hyr25 => (intro w'; go_simp <;> try rfl)
          intro hS
          try simp only [Act.put, List.setIfInBounds_toArray, List.set_cons_zero, List.set_cons_succ]
          refine regL_pure (i := 12) rfl (by rfl) (by kernel_rfl) (by kernel_rfl) (by kernel_rfl) (fun _ _ _ h => h) (by rfl) hS (v := ?vr26) ?hyr26 ?rtr26
          case hyr26 => (intro w'; go_simp <;> try rfl)
          intro hS
          try simp only [Act.put, List.setIfInBounds_toArray, List.set_cons_zero, List.set_cons_succ]
          refine regL_ready (rs := [11]) (by kernel_rfl) (by simp) ?_
          refine regL_cons rfl (by rfl) (fun K hK => ?_) regL_nil
          refine wp_appL8 (own_nil 5 .u8 u.drew.heap.size u.drew) LV (fun e => by cases e) (Nat.le_refl _) (by omega) (by omega) rfl rfl (fun a1 e1 W1 O1 B1 => ?_)
          rw [Nat.zero_add, List.nil_append] at O1
          have y0 := (World.cell?_of_block (B1.block _ (World.block_lt_of_cell? u.drew _ x0))).trans x0
          have y1 := (World.cell?_of_block (B1.block _ (World.block_lt_of_cell? u.drew _ x1))).trans x1
          have LV1 := LV.below B1
          refine hK.out _ _ (fun c hc hl => by simp only [List.mem_cons, List.not_mem_nil, or_false] at hc; subst hc; exact ⟨y0, y1⟩) ?_
          clear hK K
          intro hS
          try simp only [Act.put, List.setIfInBounds_toArray, List.set_cons_zero, List.set_cons_succ]
          refine regL_ready (rs := [13]) (by kernel_rfl) (by simp) ?_
          refine regL_cons rfl (by rfl) (fun K hK => ?_) regL_nil
          refine wp_appL8 (own_nil 5 .u8 W1.heap.size W1) LV1 (fun e => by cases e) (Nat.le_refl _) (by omega) (by omega) rfl rfl (fun a2 e2 W2 O2 B2 => ?_)
          rw [Nat.zero_add, List.nil_append] at O2
          have z0 := (World.cell?_of_block (B2.block _ (World.block_lt_of_cell? W1 _ y0))).trans y0
          have z1 := (World.cell?_of_block (B2.block _ (World.block_lt_of_cell? W1 _ y1))).trans y1
          obtain ⟨V, V2, rV, rV2, RN, BN⟩ := rcrash_step RC.out.drew g1.out hlt O1 B1 O2 B2
          refine hK.out _ _ (fun c hc hl => by simp only [List.mem_cons, List.not_mem_nil, or_false] at hc; subst hc; exact ⟨z0, z1⟩) ?_
          clear hK K
          intro hS
          try simp only [Act.put, List.setIfInBounds_toArray, List.set_cons_zero, List.set_cons_succ]
          refine regL_pure (i := 14) rfl (by rfl) (by kernel_rfl) (by kernel_rfl) (by kernel_rfl) (fun _ _ _ h => h) (by rfl) hS (v := ?vr27) ?hyr27 ?rtr27
          case hyr27 => (intro w'; go_simp <;> try rfl)
          intro hS
          try simp only [Act.put, List.setIfInBounds_toArray, List.set_cons_zero, List.set_cons_succ]
          refine regL_ready (rs := [15]) (by kernel_rfl) (by simp) ?_
          refine regL_cons rfl (by rfl) (fun K hK => ?_) regL_nil
          refine wp_storeBy rfl rfl rV ?_
          refine hK.out _ _ (fun c hc hl => by simp only [List.mem_cons, List.not_mem_nil, or_false] at hc; subst hc; exact Bool.noConfusion (show true = false from hl)) ?_
          clear hK K
          intro hS
          try simp only [Act.put, List.setIfInBounds_toArray, List.set_cons_zero, List.set_cons_succ]
          refine regL_pure (i := 16) rfl (by rfl) (by kernel_rfl) (by kernel_rfl) (by kernel_rfl) (fun _ _ _ h => h) (by rfl) hS (v := ?vr28) ?hyr28 ?rtr28
          case hyr28 => (intro w'; go_simp <;> try rfl)
          intro hS
          try simp only [Act.put, List.setIfInBounds_toArray, List.set_cons_zero, List.set_cons_succ]
          refine regL_ready (rs := [17]) (by kernel_rfl) (by simp) ?_
          refine regL_cons rfl (by rfl) (fun K hK => ?_) regL_nil
          refine wp_storeBy rfl rfl rV2 ?_
          refine hK.out _ _ (fun c hc hl => by simp only [List.mem_cons, List.not_mem_nil, or_false] at hc; subst hc; exact Bool.noConfusion (show true = false from hl)) ?_
          clear hK K
          intro hS
          try simp only [Act.put, List.setIfInBounds_toArray, List.set_cons_zero, List.set_cons_succ]
          refine regL_done (by kernel_rfl) ?_ _
          have RE := Lib.hid (show RefD V2 w.heap.size s' l' t' n sc' lc' tc' (cpart n R (j + 1)) by rw [← cpart_next hRl.out hlt, hRj]; exact RN)
          have BE : Hid (Below w.heap.size w V2) := BB.out.trans ((show Below u.heap.size u u.drew from (Below.refl _ _).drew).mono BB.out.size |>.trans BN)
          clear RN BN O1 O2 B1 B2 y0 y1 z0 z1 rV rV2 LV LV1
          go_wp2_with fail
          go_roundw
          case rel => exact ⟨j + 1, by omega, by rw [hc2.out]; go_num, by go_num, RE, BE⟩
          case measure => simp [intOf]; omega
        | false =>
          rw [hkk] at hRj
          have hRj : R.getD j [] = r.safe.getD j [] := hRj
          have LV := (LS.drewN 1)
          by_cases hkn : k < kn
          · have hkn' : (k : Int) < (kn : Int) := by omega
            have iK := ixT KT k hkn
            have cK := KT.cell k hkn
            rw [hkk] at cK
            clear hcn KT LL hd hkk DU
            obtain ⟨V3, hV3⟩ : ∃ x, x = u := ⟨_, rfl⟩
            clear hV3 V3
            go_wp2_with (fail)
            refine wp_region_L [(15, fun w' => w'.cell? ⟨w.heap.size, 0, none⟩ = some (.slice (some ⟨s', 0, none⟩) n sc') ∧ w'.cell? ⟨w.heap.size, 1, none⟩ = some (.slice (some ⟨l', 0, none⟩) n lc'))] (by kernel_rfl) (fun c hc _ => by simp only [List.mem_cons, List.not_mem_nil, or_false] at hc; subst hc; exact ⟨x0, x1⟩) (fun hS => ?_)
            refine regL_pure (i := 0) rfl (by rfl) (by kernel_rfl) (by kernel_rfl) (by kernel_rfl) (fun _ _ _ h => h) (by rfl) hS (v := ?vr29) ?hyr29 ?rtr29
            case hyr29 => (intro w'; go_simp <;> try rfl)
            intro hS
            try simp only [Act.put, List.setIfInBounds_toArray, List.set_cons_zero, List.set_cons_succ]
            refine regL_pure (i := 1) rfl (by rfl) (by kernel_rfl) (by kernel_rfl) (by kernel_rfl) (fun _ _ _ h => h) (by rfl) hS (v := ?vr30) ?hyr30 ?rtr30
            case hyr30 => (intro w'; go_simp <;> try rfl)
            intro hS
            try simp only [Act.put, List.setIfInBounds_toArray, List.set_cons_zero, List.set_cons_succ]
            refine regL_pure (i := 2) rfl (by rfl) (by kernel_rfl) (by kernel_rfl) (by kernel_rfl) (fun _ _ _ h => h) (by rfl) hS (v := ?vr31) ?hyr31 ?rtr31
            case hyr31 => (intro w'; go_simp <;> try rfl)
            intro hS
            try simp only [Act.put, List.setIfInBounds_toArray, List.set_cons_zero, List.set_cons_succ]
            refine regL_take (i := 3) (15, fun w' => w'.cell? ⟨w.heap.size, 0, none⟩ = some (.slice (some ⟨s', 0, none⟩) n sc') ∧ w'.cell? ⟨w.heap.size, 1, none⟩ = some (.slice (some ⟨l', 0, none⟩) n lc')) rfl (by simp) (by rfl) (by kernel_rfl) (by rfl) (by kernel_rfl) (by kernel_rfl) (by kernel_rfl) (fun _ _ _ h => h) (by rfl) hS (v := ?vr32) ?hyr32 ?rtr32
            case hyr32 => (intro w' hc; dsimp only at hc; obtain ⟨c0, c1⟩ := hc; go_simp <;> try rfl)
            intro hS
            try simp only [Act.put, List.setIfInBounds_toArray, List.set_cons_zero, List.set_cons_succ]
            refine regL_pure (i := 4) rfl (by rfl) (by kernel_rfl) (by kernel_rfl) (by kernel_rfl) (fun _ _ _ h => h) (by rfl) hS (v := ?vr33) ?hyr33 ?rtr33
            case hyr33 => (intro w'; go_simp <;> try rfl)
            intro hS
            try simp only [Act.put, List.setIfInBounds_toArray, List.set_cons_zero, List.set_cons_succ]
            refine regL_pure (i := 5) rfl (by rfl) (by kernel_rfl) (by kernel_rfl) (by kernel_rfl) (fun _ _ _ h => h) (by rfl) hS (v := ?vr34) ?hyr34 ?rtr34
            case hyr34 => (intro w'; go_simp <;> try rfl)
            intro hS
            try simp only [Act.put, List.setIfInBounds_toArray, List.set_cons_zero, List.set_cons_succ]
            refine regL_pure (i := 6) rfl (by rfl) (by kernel_rfl) (by kernel_rfl) (by kernel_rfl) (fun _ _ _ h => h) (by rfl) hS (v := ?vr35) ?hyr35 ?rtr35
            case hyr35 => (intro w'; go_simp <;> try rfl)
            intro hS
            try simp only [Act.put, List.setIfInBounds_toArray, List.set_cons_zero, List.set_cons_succ]
            refine regL_pure (i := 7) rfl (by rfl) (by kernel_rfl) (by kernel_rfl) (by kernel_rfl) (fun _ _ _ h => h) (by rfl) hS (v := ?vr36) ?hyr36 ?rtr36
            case hyr36 => (intro w'; go_simp <;> try rfl)
            intro hS
            try simp only [Act.put, List.setIfInBounds_toArray, List.set_cons_zero, List.set_cons_succ]
            refine regL_take (i := 8) (15, fun w' => w'.cell? ⟨w.heap.size, 0, none⟩ = some (.slice (some ⟨s', 0, none⟩) n sc') ∧ w'.cell? ⟨w.heap.size, 1, none⟩ = some (.slice (some ⟨l', 0, none⟩) n lc')) rfl (by simp) (by rfl) (by kernel_rfl) (by rfl) (by kernel_rfl) (by kernel_rfl) (by kernel_rfl) (fun _ _ _ h => h) (by rfl) hS (v := ?vr37) ?hyr37 ?rtr37
            case hyr37 => (intro w' hc; dsimp only at hc; obtain ⟨c0, c1⟩ := hc; go_simp <;> try rfl)
            intro hS
            try simp only [Act.put, List.setIfInBounds_toArray, List.set_cons_zero, List.set_cons_succ]
            refine regL_pure (i := 9) rfl (by rfl) (by kernel_rfl) (by kernel_rfl) (by kernel_rfl) (fun _ _ _ h => h) (by rfl) hS (v := ?vr38) ?hyr38 ?rtr38
            case hyr38 => (intro w'; go_simp <;> try rfl)
            intro hS
            try simp only [Act.put, List.setIfInBounds_toArray, List.set_cons_zero, List.set_cons_succ]
            refine regL_pure (i := 10) rfl (by rfl) (by kernel_rfl) (by kernel_rfl) (by kernel_rfl) (fun _ _ _ h => h) (by rfl) hS (v := ?vr39) ?hyr39 ?rtr39
            case hyr39 => (intro w'; go_simp <;> try rfl)
            intro hS
            try simp only [Act.put, List.setIfInBounds_toArray, List.set_cons_zero, List.set_cons_succ]
            refine regL_pure (i := 12) rfl (by rfl) (by kernel_rfl) (by kernel_rfl) (by kernel_rfl) (fun _ _ _ h => h) (by rfl) hS (v := ?vr40) ?hyr40 ?rtr40
            case hyr40 => (intro w'; go_simp <;> try rfl)
            intro hS
            try simp only [Act.put, List.setIfInBounds_toArray, List.set_cons_zero, List.set_cons_succ]
            refine regL_ready (rs := [11]) (by kernel_rfl) (by simp) ?_
            refine regL_cons rfl (by rfl) (fun K hK => ?_) regL_nil
            refine wp_appL8 (own_nil 5 .u8 u.drew.heap.size u.drew) LV (fun e => by cases e) (Nat.le_refl _) (by omega) (by omega) rfl rfl (fun a1 e1 W1 O1 B1 => ?_)
            rw [Nat.zero_add, List.nil_append] at O1
            have y0 := (World.cell?_of_block (B1.block _ (World.block_lt_of_cell? u.drew _ x0))).trans x0
            have y1 := (World.cell?_of_block (B1.block _ (World.block_lt_of_cell? u.drew _ x1))).trans x1
            have LV1 := LV.below B1
            refine hK.out _ _ (fun c hc hl => by simp only [List.mem_cons, List.not_mem_nil, or_false] at hc; subst hc; exact ⟨y0, y1⟩) ?_
            clear hK K
            intro hS
            try simp only [Act.put, List.setIfInBounds_toArray, List.set_cons_zero, List.set_cons_succ]
            refine regL_ready (rs := [13]) (by kernel_rfl) (by simp) ?_
            refine regL_cons rfl (by rfl) (fun K hK => ?_) regL_nil
            refine wp_appL8 (own_nil 5 .u8 W1.heap.size W1) LV1 (fun e => by cases e) (Nat.le_refl _) (by omega) (by omega) rfl rfl (fun a2 e2 W2 O2 B2 => ?_)
            rw [Nat.zero_add, List.nil_append] at O2
            have z0 := (World.cell?_of_block (B2.block _ (World.block_lt_of_cell? W1 _ y0))).trans y0
            have z1 := (World.cell?_of_block (B2.block _ (World.block_lt_of_cell? W1 _ y1))).trans y1
            obtain ⟨V, V2, rV, rV2, RN, BN⟩ := rcrash_step RC.out.drew g1.out hlt O1 B1 O2 B2
            refine hK.out _ _ (fun c hc hl => by simp only [List.mem_cons, List.not_mem_nil, or_false] at hc; subst hc; exact ⟨z0, z1⟩) ?_
            clear hK K
            intro hS
            try simp only [Act.put, List.setIfInBounds_toArray, List.set_cons_zero, List.set_cons_succ]
            refine regL_pure (i := 14) rfl (by rfl) (by kernel_rfl) (by kernel_rfl) (by kernel_rfl) (fun _ _ _ h => h) (by rfl) hS (v := ?vr41) ?hyr41 ?rtr41
            case hyr41 => (intro w'; go_simp <;> try rfl)
            intro hS
            try simp only [Act.put, List.setIfInBounds_toArray, List.set_cons_zero, List.set_cons_succ]
            refine regL_ready (rs := [15]) (by kernel_rfl) (by simp) ?_
            refine regL_cons rfl (by rfl) (fun K hK => ?_) regL_nil
            refine wp_storeBy rfl rfl rV ?_
            refine hK.out _ _ (fun c hc hl => by simp only [List.mem_cons, List.not_mem_nil, or_false] at hc; subst hc; exact Bool.noConfusion (show true = false from hl)) ?_
            clear hK K
            intro hS
            try simp only [Act.put, List.setIfInBounds_toArray, List.set_cons_zero, List.set_cons_succ]
            refine regL_pure (i := 16) rfl (by rfl) (by kernel_rfl) (by kernel_rfl) (by kernel_rfl) (fun _ _ _ h => h) (by rfl) hS (v := ?vr42) ?hyr42 ?rtr42
            case hyr42 => (intro w'; go_simp <;> try rfl)
            intro hS
            try simp only [Act.put, List.setIfInBounds_toArray, List.set_cons_zero, List.set_cons_succ]
            refine regL_ready (rs := [17]) (by kernel_rfl) (by simp) ?_
            refine regL_cons rfl (by rfl) (fun K hK => ?_) regL_nil
            refine wp_storeBy rfl rfl rV2 ?_
            refine hK.out _ _ (fun c hc hl => by simp only [List.mem_cons, List.not_mem_nil, or_false] at hc; subst hc; exact Bool.noConfusion (show true = false from hl)) ?_
            clear hK K
            intro hS
            try simp only [Act.put, List.setIfInBounds_toArray, List.set_cons_zero, List.set_cons_succ]
            refine regL_done (by kernel_rfl) ?_ _
            have RE := Lib.hid (show RefD V2 w.heap.size s' l' t' n sc' lc' tc' (cpart n R (j + 1)) by rw [← cpart_next hRl.out hlt, hRj]; exact RN)
            have BE : Hid (Below w.heap.size w V2) := BB.out.trans ((show Below u.heap.size u u.drew from (Below.refl _ _).drew).mono BB.out.size |>.trans BN)
            clear RN BN O1 O2 B1 B2 y0 y1 z0 z1 rV rV2 LV LV1
            go_wp2_with fail
            go_roundw
            case rel => exact ⟨j + 1, by omega, by rw [hc2.out]; go_num, by go_num, RE, BE⟩
            case measure => simp [intOf]; omega
          · have hkn' : ¬ (k : Int) < (kn : Int) := by omega
            clear hcn KT LL hd hkk DU
            obtain ⟨V3, hV3⟩ : ∃ x, x = u := ⟨_, rfl⟩
            clear hV3 V3
            go_wp2_with (fail)
            refine wp_region_L [(15, fun w' => w'.cell? ⟨w.heap.size, 0, none⟩ = some (.slice (some ⟨s', 0, none⟩) n sc') ∧ w'.cell? ⟨w.heap.size, 1, none⟩ = some (.slice (some ⟨l', 0, none⟩) n lc'))] (by kernel_rfl) (fun c hc _ => by simp only [List.mem_cons, List.not_mem_nil, or_false] at hc; subst hc; exact ⟨x0, x1⟩) (fun hS => ?_)
            refine regL_pure (i := 0) rfl (by rfl) (by kernel_rfl) (by kernel_rfl) (by kernel_rfl) (fun _ _ _ h => h) (by rfl) hS (v := ?vr43) ?hyr43 ?rtr43
            case hyr43 => (intro w'; go_simp <;> try rfl)
            intro hS
            try simp only [Act.put, List.setIfInBounds_toArray, List.set_cons_zero, List.set_cons_succ]
            refine regL_pure (i := 1) rfl (by rfl) (by kernel_rfl) (by kernel_rfl) (by kernel_rfl) (fun _ _ _ h => h) (by rfl) hS (v := ?vr44) ?hyr44 ?rtr44
            case hyr44 => (intro w'; go_simp <;> try rfl)
            intro hS
            try simp only [Act.put, List.setIfInBounds_toArray, List.set_cons_zero, List.set_cons_succ]
            refine regL_pure (i := 2) rfl (by rfl) (by kernel_rfl) (by kernel_rfl) (by kernel_rfl) (fun _ _ _ h => h) (by rfl) hS (v := ?vr45) ?hyr45 ?rtr45
            case hyr45 => (intro w'; go_simp <;> try rfl)
            intro hS
            try simp only [Act.put, List.setIfInBounds_toArray, List.set_cons_zero, List.set_cons_succ]
            refine regL_take (i := 3) (15, fun w' => w'.cell? ⟨w.heap.size, 0, none⟩ = some (.slice (some ⟨s', 0, none⟩) n sc') ∧ w'.cell? ⟨w.heap.size, 1, none⟩ = some (.slice (some ⟨l', 0, none⟩) n lc')) rfl (by simp) (by rfl) (by kernel_rfl) (by rfl) (by kernel_rfl) (by kernel_rfl) (by kernel_rfl) (fun _ _ _ h => h) (by rfl) hS (v := ?vr46) ?hyr46 ?rtr46
            case hyr46 => (intro w' hc; dsimp only at hc; obtain ⟨c0, c1⟩ := hc; go_simp <;> try rfl)
            intro hS
            try simp only [Act.put, List.setIfInBounds_toArray, List.set_cons_zero, List.set_cons_succ]
            refine regL_pure (i := 4) rfl (by rfl) (by kernel_rfl) (by kernel_rfl) (by kernel_rfl) (fun _ _ _ h => h) (by rfl) hS (v := ?vr47) ?hyr47 ?rtr47
            case hyr47 => (intro w'; go_simp <;> try rfl)
            intro hS
            try simp only [Act.put, List.setIfInBounds_toArray, List.set_cons_zero, List.set_cons_succ]
            refine regL_pure (i := 5) rfl (by rfl) (by kernel_rfl) (by kernel_rfl) (by kernel_rfl) (fun _ _ _ h => h) (by rfl) hS (v := ?vr48) ?hyr48 ?rtr48
            case hyr48 => (intro w'; go_simp <;> try rfl)
            intro hS
            try simp only [Act.put, List.setIfInBounds_toArray, List.set_cons_zero, List.set_cons_succ]
            refine regL_pure (i := 6) rfl (by rfl) (by kernel_rfl) (by kernel_rfl) (by kernel_rfl) (fun _ _ _ h => h) (by rfl) hS (v := ?vr49) ?hyr49 ?rtr49
            case hyr49 => (intro w'; go_simp <;> try rfl)
            intro hS
            try simp only [Act.put, List.setIfInBounds_toArray, List.set_cons_zero, List.set_cons_succ]
            refine regL_pure (i := 7) rfl (by rfl) (by kernel_rfl) (by kernel_rfl) (by kernel_rfl) (fun _ _ _ h => h) (by rfl) hS (v := ?vr50) ?hyr50 ?rtr50
            case hyr50 => (intro w'; go_simp <;> try rfl)
            intro hS
            try simp only [Act.put, List.setIfInBounds_toArray, List.set_cons_zero, List.set_cons_succ]
            refine regL_take (i := 8) (15, fun w' => w'.cell? ⟨w.heap.size, 0, none⟩ = some (.slice (some ⟨s', 0, none⟩) n sc') ∧ w'.cell? ⟨w.heap.size, 1, none⟩ = some (.slice (some ⟨l', 0, none⟩) n lc')) rfl (by simp) (by rfl) (by kernel_rfl) (by rfl) (by kernel_rfl) (by kernel_rfl) (by kernel_rfl) (fun _ _ _ h => h) (by rfl) hS (v := ?vr51) ?hyr51 ?rtr51
            case hyr51 => (intro w' hc; dsimp only at hc; obtain ⟨c0, c1⟩ := hc; go_simp <;> try rfl)
            intro hS
            try simp only [Act.put, List.setIfInBounds_toArray, List.set_cons_zero, List.set_cons_succ]
            refine regL_pure (i := 9) rfl (by rfl) (by kernel_rfl) (by kernel_rfl) (by kernel_rfl) (fun _ _ _ h => h) (by rfl) hS (v := ?vr52) ?hyr52 ?rtr52
            case hyr52 => (intro w'; go_simp <;> try rfl)
            intro hS
            try simp only [Act.put, List.setIfInBounds_toArray, List.set_cons_zero, List.set_cons_succ]
            refine regL_pure (i := 10) rfl (by rfl) (by kernel_rfl) (by kernel_rfl) (by kernel_rfl) (fun _ _ _ h => h) (by rfl) hS (v := ?vr53) ?hyr53 ?rtr53
            case hyr53 => (intro w'; go_simp <;> try rfl)
            intro hS
            try simp only [Act.put, List.setIfInBounds_toArray, List.set_cons_zero, List.set_cons_succ]
            refine regL_pure (i := 12) rfl (by rfl) (by kernel_rfl) (by kernel_rfl) (by kernel_rfl) (fun _ _ _ h => h) (by rfl) hS (v := ?vr54) ?hyr54 ?rtr54
            case hyr54 => (intro w'; go_simp <;> try rfl)
            intro hS
            try simp only [Act.put, List.setIfInBounds_toArray, List.set_cons_zero, List.set_cons_succ]
            refine regL_ready (rs := [11]) (by kernel_rfl) (by simp) ?_
            refine regL_cons rfl (by rfl) (fun K hK => ?_) regL_nil
            refine wp_appL8 (own_nil 5 .u8 u.drew.heap.size u.drew) LV (fun e => by cases e) (Nat.le_refl _) (by omega) (by omega) rfl rfl (fun a1 e1 W1 O1 B1 => ?_)
            rw [Nat.zero_add, List.nil_append] at O1
            have y0 := (World.cell?_of_block (B1.block _ (World.block_lt_of_cell? u.drew _ x0))).trans x0
            have y1 := (World.cell?_of_block (B1.block _ (World.block_lt_of_cell? u.drew _ x1))).trans x1
            have LV1 := LV.below B1
            refine hK.out _ _ (fun c hc hl => by simp only [List.mem_cons, List.not_mem_nil, or_false] at hc; subst hc; exact ⟨y0, y1⟩) ?_
            clear hK K
            intro hS
            try simp only [Act.put, List.setIfInBounds_toArray, List.set_cons_zero, List.set_cons_succ]
            refine regL_ready (rs := [13]) (by kernel_rfl) (by simp) ?_
            refine regL_cons rfl (by rfl) (fun K hK => ?_) regL_nil
            refine wp_appL8 (own_nil 5 .u8 W1.heap.size W1) LV1 (fun e => by cases e) (Nat.le_refl _) (by omega) (by omega) rfl rfl (fun a2 e2 W2 O2 B2 => ?_)
            rw [Nat.zero_add, List.nil_append] at O2
            have z0 := (World.cell?_of_block (B2.block _ (World.block_lt_of_cell? W1 _ y0))).trans y0
            have z1 := (World.cell?_of_block (B2.block _ (World.block_lt_of_cell? W1 _ y1))).trans y1
            obtain ⟨V, V2, rV, rV2, RN, BN⟩ := rcrash_step RC.out.drew g1.out hlt O1 B1 O2 B2
            refine hK.out _ _ (fun c hc hl => by simp only [List.mem_cons, List.not_mem_nil, or_false] at hc; subst hc; exact ⟨z0, z1⟩) ?_
            clear hK K
            intro hS
            try simp only [Act.put, List.setIfInBounds_toArray, List.set_cons_zero, List.set_cons_succ]
            refine regL_pure (i := 14) rfl (by rfl) (by kernel_rfl) (by kernel_rfl) (by kernel_rfl) (fun _ _ _ h => h) (by rfl) hS (v := ?vr55) ?hyr55 ?rtr55
            case hyr55 => (intro w'; go_simp <;> try rfl)
            intro hS
            try simp only [Act.put, List.setIfInBounds_toArray, List.set_cons_zero, List.set_cons_succ]
            refine regL_ready (rs := [15]) (by kernel_rfl) (by simp) ?_
            refine regL_cons rfl (by rfl) (fun K hK => ?_) regL_nil
            refine wp_storeBy rfl rfl rV ?_
            refine hK.out _ _ (fun c hc hl => by simp only [List.mem_cons, List.not_mem_nil, or_false] at hc; subst hc; exact Bool.noConfusion (show true = false from hl)) ?_
            clear hK K
            intro hS
            try simp only [Act.put, List.setIfInBounds_toArray, List.set_cons_zero, List.set_cons_succ]
            refine regL_pure (i := 16) rfl (by rfl) (by kernel_rfl) (by kernel_rfl) (by kernel_rfl) (fun _ _ _ h => h) (by rfl) hS (v := ?vr56) ?hyr56 ?rtr56
            case hyr56 => (intro w'; go_simp <;> try rfl)
            intro hS
            try simp only [Act.put, List.setIfInBounds_toArray, List.set_cons_zero, List.set_cons_succ]
            refine regL_ready (rs := [17]) (by kernel_rfl) (by simp) ?_
            refine regL_cons rfl (by rfl) (fun K hK => ?_) regL_nil
            refine wp_storeBy rfl rfl rV2 ?_
            refine hK.out _ _ (fun c hc hl => by simp only [List.mem_cons, List.not_mem_nil, or_false] at hc; subst hc; exact Bool.noConfusion (show true = false from hl)) ?_
            clear hK K
            intro hS
            try simp only [Act.put, List.setIfInBounds_toArray, List.set_cons_zero, List.set_cons_succ]
            refine regL_done (by kernel_rfl) ?_ _
            have RE := Lib.hid (show RefD V2 w.heap.size s' l' t' n sc' lc' tc' (cpart n R (j + 1)) by rw [← cpart_next hRl.out hlt, hRj]; exact RN)
            have BE : Hid (Below w.heap.size w V2) := BB.out.trans ((show Below u.heap.size u u.drew from (Below.refl _ _).drew).mono BB.out.size |>.trans BN)
            clear RN BN O1 O2 B1 B2 y0 y1 z0 z1 rV rV2 LV LV1
            go_wp2_with fail
            go_roundw
            case rel => exact ⟨j + 1, by omega, by rw [hc2.out]; go_num, by go_num, RE, BE⟩
            case measure => simp [intOf]; omega
    · have hlt' : ¬ (j : Int) < (n : Int) := by omega
      obtain rfl : j = n := by omega
      have e4 : cpart j R j = r.crash j keep := by
        unfold cpart Rf.crash
        rw [hR.out, List.take_of_length_le (by rw [hRl.out]; omega), List.drop_of_length_le (by simp), List.append_nil]
      have RF := Lib.hid (e4 ▸ RC.out)
      clear RC e4
      go_wp2_with fail
      go_ret
      exact ⟨_, rfl, s', l', t', ⟨sc', lc', tc', RF.out⟩, Nat.le_refl _, g0.out.1, g0.out.2.1, g0.out.2.2, BB.out⟩
end Go.Proofs.Ytbnomkcliejcaaa
