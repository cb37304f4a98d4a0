/-
  electionref04.Cut.
-/
import Derived.Test.YtfmpccfoemgiiaaDoorDigEq
import Derived.Test.YtfmpccfoemgiiaaDoorDigView3
namespace Go.Proofs.YtfmpccfoemgiiaaDoor
open Go.RowKit Dig

theorem info22 : (Tryd.prog.info? 22).map (fun i => (i.zero, i.size, i.bytes)) = some (some (.slice none 0 0), 1, 24) := by kernel_rfl
/-- A slice of slices that the call itself made. -/
def OwnV (B : Nat) (w : World) (ao : Option Addr) (n c : Nat) (vs : List Value) : Prop := w.ownsRow B 22 1 (.slice ao n c) n vs
theorem OwnV.keep {B : Nat} {w w' : World} {ao : Option Addr} {n c : Nat} {vs : List Value} (h : OwnV B w ao n c vs) (hb : Below w.heap.size w w') : OwnV B w' ao n c vs :=
  World.ownsRow.kept (row := none) h ⟨hb.os, hb.tape, hb.output, hb.size, fun j hj _ => hb.block j hj⟩ (by cases (Value.slice ao n c).ownBlock <;> simp)
section
variable {w : World} {a : Act} {K : Act → World → Prop} {Q : Exit → Act → World → Prop} {d : Option Tmp} {p q : Operand} {ty : TypeId} {pos : String} {after : Array Edge} {gd : Option (Nat × Bool)}
theorem wp_appV {B : Nat} {ao : Option Addr} {n c : Nat} {vs : List Value} {g : Nat} {u : Value} (hO : OwnV B w ao n c vs) (hcell : w.cell? ⟨g, 0, none⟩ = some u) (hu : u.oneCell' = true) (hB : B ≤ w.heap.size) (hn : n ≤ 1000)
    (hp : a.eval p = .slice ao n c) (hq : a.eval q = .slice (some ⟨g, 0, none⟩) 1 1)
    (h : ∀ ao' c' w', OwnV B w' ao' (n + 1) c' (vs ++ [u]) → Below B w w' → K (a.put d (.slice ao' (n + 1) c')) w') :
    Oper.wp Tryd.prog ⟨d, .call { callee := .builtin .append, args := #[p, q], argTypes := #[28, 28] }, ty, pos, after, gd⟩ a w K Q := by
  obtain ⟨i0, hi, hz0, hz1, hz2⟩ := info_parts info22
  refine wp_append_own w p q 28 rfl B 22 i0 (.slice none 0 0) 1 24 Tryd.underlying28 hi hz0 hz1 hz2 rfl (by decide) _ n _ hp hO ⟨g, 0, none⟩ 1 1 [u] hq rfl ?_ (fun v hv => by simp at hv; rw [hv]; exact hu) (by unfold maxLen; omega) (by omega) hB ?_
  · intro j v hj
    have : j = 0 ∧ v = u := by
      cases j with
      | zero => simp at hj; exact ⟨rfl, hj.symm⟩
      | succ j => simp at hj
    obtain ⟨rfl, rfl⟩ := this
    have e := pt_own g 0
    simp only [pt, Option.getD_some] at e
    rw [e]
    exact hcell
  · intro v' w' ho' hg _
    obtain ⟨av, cv, hv⟩ := own_shape ho'
    subst hv
    exact h av cv w' ho' ((Below.refl _ _).grown hg hB (fun k hk => (World.ownsRow.lt hO k hk).1))
end
/-- A value that is a slice of bytes, of at most M of them. -/
def IsPart (w : World) (M : Nat) (v : Value) : Prop := ∃ a l d xs, v = .slice a l d ∧ Lst .u8 w a l d xs ∧ (a = none → d = 0) ∧ l ≤ M
theorem OwnV.parts {w wr : World} {ao : Option Addr} {n c M : Nat} {vs : List Value} (h : OwnV w.heap.size wr ao n c vs) (hv : ∀ v ∈ vs, IsPart w M v) (hb : Below w.heap.size w wr) : ∃ qs, Parts wr ao n c qs ∧ ∀ q ∈ qs, q.length ≤ M := by
  have hl : vs.length = n := by have := h.1; simpa using this
  have hc : ∀ i, (hi : i < n) → wr.cell? (pt ao i) = some (vs[i]'(by omega)) := fun i hi => by
    rcases h.2 with ⟨_, h0⟩ | ⟨g, cap, cur, hv', _, _, _, _, _, _⟩
    · omega
    · injection hv' with h1 h2 h3
      subst h1; subst h3
      have := World.ownsRow.cellAt h i (by omega)
      rw [pt_own, this, List.getElem?_eq_getElem (by omega)]
  have hex : ∀ i, i < n → ∃ xs : List Int, ∃ a l d, wr.cell? (pt ao i) = some (.slice a l d) ∧ Lst .u8 w a l d xs ∧ (a = none → d = 0) ∧ l ≤ M := fun i hi => by
    obtain ⟨a, l, d, xs, he, hL, h0, hM⟩ := hv _ (List.getElem_mem (l := vs) (n := i) (by omega))
    exact ⟨xs, a, l, d, by rw [hc i hi, he], hL, h0, hM⟩
  obtain ⟨qs, hql, hq⟩ := choose_list hex
  refine ⟨qs, ⟨hql, ?_, ?_, ?_, fun i hi => ?_⟩, fun q hq' => ?_⟩
  · rcases h.2 with ⟨hv', h0⟩ | ⟨g, cap, cur, hv', _, _, hn, hcm, _⟩
    · omega
    · injection hv' with h1 h2 h3; omega
  · rcases h.2 with ⟨hv', h0⟩ | ⟨g, cap, cur, hv', _, _, hn, hcm, _⟩
    · injection hv' with h1 h2 h3; omega
    · injection hv' with h1 h2 h3; unfold maxLen at hcm; omega
  · intro hn
    rcases h.2 with ⟨hv', h0⟩ | ⟨g, cap, cur, hv', _⟩
    · omega
    · injection hv' with h1 h2 h3; exact ⟨_, h1⟩
  · obtain ⟨a, l, d, h1, h2, h3, _⟩ := hq i hi
    exact ⟨a, l, d, h1, h2.below hb, h3⟩
  · obtain ⟨i, hi, rfl⟩ := List.mem_iff_getElem.1 hq'
    obtain ⟨a, l, d, h1, h2, h3, h4⟩ := hq i (by omega)
    have := h2.len
    rw [List.getD_eq_getElem?_getD, List.getElem?_eq_getElem hi] at this
    simp at this
    omega
theorem IsPart.mk {w : World} {a : Option Addr} {l d z M : Nat} {xs : List Int} (h : Lst .u8 w a l d xs) (h0 : a = none → d = 0) (hz : z ≤ l) (hM : z ≤ M) : IsPart w M (.slice a z d) :=
  ⟨a, z, d, xs.take z, rfl, h.take hz, h0, hM⟩

set_option maxHeartbeats 3200000 in
set_option maxRecDepth 100000 in
theorem cut_c (ao : Option Addr) (n c : Nat) (ps : List (List Int)) (N M : Nat) (w : World) (h : Parts w ao n c ps) (hN : N ≤ 100) (hM : M ≤ 1000) :
    Calls Tryd.prog 12 #[.slice ao n c, .int .i64 (N : Int), .int .i64 (M : Int)] w fun e w' => ∃ ao' n' c' qs, e = .returned (.slice ao' n' c') ∧ n' ≤ N ∧ Parts w' ao' n' c' qs ∧ (∀ q ∈ qs, q.length ≤ M) ∧ Below w.heap.size w w' := by
  have hcap := h.cap
  have hroom := h.room
  have HH := Lib.hid h
  clear h
  have O1 : OwnV w.heap.size w none 0 0 [] := World.ownsRow_nil _ _ _ _
  go_enter Tryd.func12, Tryd.ntmps12
  go_wp2
  go_loopw [7, 8] (fun v x wr => ∃ (i : Nat) (a : Option Addr) (d : Nat) (vs : List Value), i ≤ n ∧ i ≤ N ∧ x = .int .i64 i ∧ v = .slice a i d ∧ OwnV w.heap.size wr a i d vs ∧ (∀ v ∈ vs, IsPart w M v) ∧ Below w.heap.size w wr)
    (fun _ x _ => n - (intOf x).toNat)
  case atStart => exact ⟨0, _, _, [], by omega, by omega, rfl, rfl, O1, fun v hv => (by cases hv), Below.refl _ _⟩
  case round =>
    clear O1
    obtain ⟨i, a, d, vs, hi, hiN, rfl, rfl, hO, hvs, B⟩ := hrel
    have HV := Lib.hid hvs
    clear hvs
    have zB := B.size
    by_cases hlt : i < n
    · have hlt' : (i : Int) < (n : Int) := by omega
      by_cases hltN : i < N
      · have hltN' : (i : Int) < (N : Int) := by omega
        obtain ⟨a1, l1, d1, hc0, hL, h0⟩ := HH.out.part i hlt
        have hlo := World.block_lt_of_cell? w _ hc0
        have hix := ix28 HH.out i hlt
        have hld := hL.cap
        have hdm := hL.room
        by_cases hm : l1 ≤ M
        · have hm' : (l1 : Int) ≤ (M : Int) := by omega
          have hall : Hid (∀ v ∈ vs ++ [Value.slice a1 l1 d1], IsPart w M v) := fun v hv => by
            rcases List.mem_append.1 hv with hv | hv
            · exact HV.out v hv
            · simp at hv
              rw [hv]
              exact IsPart.mk hL h0 (by omega) (by omega)
          have bA : Below wr.heap.size wr (wr.drew.alloc (.cells #[.slice a1 l1 d1] 22)) := (below_drew2 (Below.refl _ _)).alloc (Nat.le_refl _) _
          have BA := Lib.hid (B.trans (bA.mono zB))
          have cA : (wr.drew.alloc (.cells #[.slice a1 l1 d1] 22)).cell? ⟨wr.drew.heap.size, 0, none⟩ = some (.slice a1 l1 d1) := (Arr.new wr.drew 22 [.slice a1 l1 d1]).cell 0
          clear hL h0
          go_upto_region 5 with (fail)
          refine wp_region_held_drew (S := fun w' => Below w.heap.size w w') (by kernel_rfl) (below_drew2 B) (fun hHeld => ?_)
          refine reg_take (i := 0) rfl (by kernel_rfl) (by kernel_rfl) (by kernel_rfl) (fun _ _ _ h => h) (by rfl) hHeld (v := ?v1) ?hy1 ?rest1
          case hy1 => (intro w' hSw; go_simp <;> try rfl)
          try simp only [Act.put, List.setIfInBounds_toArray, List.set_cons_zero, List.set_cons_succ]
          refine reg_take (i := 1) rfl (by kernel_rfl) (by kernel_rfl) (by kernel_rfl) (fun _ _ _ h => h) (by rfl) hHeld (v := ?v2) ?hy2 ?rest2
          case hy2 => (intro w' hSw; go_simp <;> try rfl)
          try simp only [Act.put, List.setIfInBounds_toArray, List.set_cons_zero, List.set_cons_succ]
          refine reg_take (i := 2) rfl (by kernel_rfl) (by kernel_rfl) (by kernel_rfl) (fun _ _ _ h => h) (by rfl) hHeld (v := ?v3) ?hy3 ?rest3
          case hy3 => (intro w' hSw; go_simp <;> try rfl)
          try simp only [Act.put, List.setIfInBounds_toArray, List.set_cons_zero, List.set_cons_succ]
          refine reg_take (i := 3) rfl (by kernel_rfl) (by kernel_rfl) (by kernel_rfl) (fun _ _ _ h => h) (by rfl) hHeld (v := ?v4) ?hy4 ?rest4
          case hy4 => (intro w' hSw; go_simp <;> try rfl)
          try simp only [Act.put, List.setIfInBounds_toArray, List.set_cons_zero, List.set_cons_succ]
          refine reg_take (i := 4) rfl (by kernel_rfl) (by kernel_rfl) (by kernel_rfl) (fun _ _ _ h => h) (by rfl) hHeld (v := ?v5) ?hy5 ?rest5
          case hy5 => (intro w' hSw; have hc := (hSw.cell hlo).trans hc0; go_simp <;> try rfl)
          try simp only [Act.put, List.setIfInBounds_toArray, List.set_cons_zero, List.set_cons_succ]
          refine reg_take (i := 5) rfl (by kernel_rfl) (by kernel_rfl) (by kernel_rfl) (fun _ _ _ h => h) (by rfl) hHeld (v := ?v6) ?hy6 ?rest6
          case hy6 => (intro w' hSw; go_simp <;> try rfl)
          try simp only [Act.put, List.setIfInBounds_toArray, List.set_cons_zero, List.set_cons_succ]
          refine reg_take (i := 6) rfl (by kernel_rfl) (by kernel_rfl) (by kernel_rfl) (fun _ _ _ h => h) (by rfl) hHeld (v := ?v7) ?hy7 ?rest7
          case hy7 => (intro w' hSw; go_simp <;> try rfl)
          try simp only [Act.put, List.setIfInBounds_toArray, List.set_cons_zero, List.set_cons_succ]
          refine reg_take (i := 7) rfl (by kernel_rfl) (by kernel_rfl) (by kernel_rfl) (fun _ _ _ h => h) (by rfl) hHeld (v := ?v8) ?hy8 ?rest8
          case hy8 => (intro w' hSw; go_simp <;> try rfl)
          try simp only [Act.put, List.setIfInBounds_toArray, List.set_cons_zero, List.set_cons_succ]
          refine reg_take (i := 8) rfl (by kernel_rfl) (by kernel_rfl) (by kernel_rfl) (fun _ _ _ h => h) (by rfl) hHeld (v := ?v9) ?hy9 ?rest9
          case hy9 => (intro w' hSw; have hc := (hSw.cell hlo).trans hc0; go_simp <;> try rfl)
          try simp only [Act.put, List.setIfInBounds_toArray, List.set_cons_zero, List.set_cons_succ]
          refine reg_take (i := 9) rfl (by kernel_rfl) (by kernel_rfl) (by kernel_rfl) (fun _ _ _ h => h) (by rfl) hHeld (v := ?v10) ?hy10 ?rest10
          case hy10 => (intro w' hSw; go_simp <;> try rfl)
          try simp only [Act.put, List.setIfInBounds_toArray, List.set_cons_zero, List.set_cons_succ]
          refine reg_take (i := 10) rfl (by kernel_rfl) (by kernel_rfl) (by kernel_rfl) (fun _ _ _ h => h) (by rfl) hHeld (v := ?v11) ?hy11 ?rest11
          case hy11 => (intro w' hSw; go_simp <;> try rfl)
          try simp only [Act.put, List.setIfInBounds_toArray, List.set_cons_zero, List.set_cons_succ]
          refine reg_take (i := 11) rfl (by kernel_rfl) (by kernel_rfl) (by kernel_rfl) (fun _ _ _ h => h) (by rfl) hHeld (v := ?v12) ?hy12 ?rest12
          case hy12 => (show ∀ w' : World, _ → _ = Result.ok (Next.value (.int .i64 (l1 : Int))) w'; intro w' hSw; go_simp; all_goals (first | omega | (simp [hmn]; done) | (split <;> omega)))
          try simp only [Act.put, List.setIfInBounds_toArray, List.set_cons_zero, List.set_cons_succ]
          refine reg_take (i := 12) rfl (by kernel_rfl) (by kernel_rfl) (by kernel_rfl) (fun _ _ _ h => h) (by rfl) hHeld (v := ?v13) ?hy13 ?rest13
          case hy13 => (intro w' hSw; go_simp <;> try rfl)
          try simp only [Act.put, List.setIfInBounds_toArray, List.set_cons_zero, List.set_cons_succ]
          refine wpAnyH_ready (rs := [13]) (by kernel_rfl) (by simp) ?_
          refine reg_cons rfl (by rfl) (fun K hK => ?_) ?_
          · go_simp
            refine hK.out _ _ (BA.out) (fun hHeld => ?_)
            clear hK K
            try simp only [Act.put, List.setIfInBounds_toArray, List.set_cons_zero, List.set_cons_succ]
            refine wpAnyH_ready (rs := [14]) (by kernel_rfl) (by simp) ?_
            refine reg_cons rfl (by rfl) (fun K hK => ?_) ?_
            · refine wp_appV (B := w.heap.size) (u := .slice a1 l1 d1) (hO.keep bA) cA rfl BA.out.size (by omega) rfl rfl ?_
              intro a2 d2 w2 O2 b2
              refine hK.out _ _ (BA.out.trans b2) (fun hHeld => ?_)
              clear hK K
              try simp only [Act.put, List.setIfInBounds_toArray, List.set_cons_zero, List.set_cons_succ]
              refine reg_take (i := 15) rfl (by kernel_rfl) (by kernel_rfl) (by kernel_rfl) (fun _ _ _ h => h) (by rfl) hHeld (v := ?v14) ?hy14 ?rest14
              case hy14 => (intro w' hSw; go_simp <;> try rfl)
              try simp only [Act.put, List.setIfInBounds_toArray, List.set_cons_zero, List.set_cons_succ]
              refine wpAnyH_done (by kernel_rfl) ?_ _
              go_wp2
              go_roundw
              case rel => exact ⟨i + 1, a2, d2, vs ++ [.slice a1 l1 d1], by omega, by omega, by go_num, rfl, O2, hall.out, hHeld⟩
              case measure => simp [intOf]; omega
            exact AllReadyH.nil
          exact AllReadyH.nil
        · have hm' : (M : Int) < (l1 : Int) := by omega
          have hmn : M < l1 := by omega
          have hm'' : (M : Int) ≤ (d1 : Int) := by omega
          have hall : Hid (∀ v ∈ vs ++ [Value.slice a1 M d1], IsPart w M v) := fun v hv => by
            rcases List.mem_append.1 hv with hv | hv
            · exact HV.out v hv
            · simp at hv
              rw [hv]
              exact IsPart.mk hL h0 (by omega) (by omega)
          have bA : Below wr.heap.size wr (wr.drew.alloc (.cells #[.slice a1 M d1] 22)) := (below_drew2 (Below.refl _ _)).alloc (Nat.le_refl _) _
          have BA := Lib.hid (B.trans (bA.mono zB))
          have cA : (wr.drew.alloc (.cells #[.slice a1 M d1] 22)).cell? ⟨wr.drew.heap.size, 0, none⟩ = some (.slice a1 M d1) := (Arr.new wr.drew 22 [.slice a1 M d1]).cell 0
          clear hL h0
          go_upto_region 5 with (fail)
          refine wp_region_held_drew (S := fun w' => Below w.heap.size w w') (by kernel_rfl) (below_drew2 B) (fun hHeld => ?_)
          refine reg_take (i := 0) rfl (by kernel_rfl) (by kernel_rfl) (by kernel_rfl) (fun _ _ _ h => h) (by rfl) hHeld (v := ?v101) ?hy101 ?rest101
          case hy101 => (intro w' hSw; go_simp <;> try rfl)
          try simp only [Act.put, List.setIfInBounds_toArray, List.set_cons_zero, List.set_cons_succ]
          refine reg_take (i := 1) rfl (by kernel_rfl) (by kernel_rfl) (by kernel_rfl) (fun _ _ _ h => h) (by rfl) hHeld (v := ?v102) ?hy102 ?rest102
          case hy102 => (intro w' hSw; go_simp <;> try rfl)
          try simp only [Act.put, List.setIfInBounds_toArray, List.set_cons_zero, List.set_cons_succ]
          refine reg_take (i := 2) rfl (by kernel_rfl) (by kernel_rfl) (by kernel_rfl) (fun _ _ _ h => h) (by rfl) hHeld (v := ?v103) ?hy103 ?rest103
          case hy103 => (intro w' hSw; go_simp <;> try rfl)
          try simp only [Act.put, List.setIfInBounds_toArray, List.set_cons_zero, List.set_cons_succ]
          refine reg_take (i := 3) rfl (by kernel_rfl) (by kernel_rfl) (by kernel_rfl) (fun _ _ _ h => h) (by rfl) hHeld (v := ?v104) ?hy104 ?rest104
          case hy104 => (intro w' hSw; go_simp <;> try rfl)
          try simp only [Act.put, List.setIfInBounds_toArray, List.set_cons_zero, List.set_cons_succ]
          refine reg_take (i := 4) rfl (by kernel_rfl) (by kernel_rfl) (by kernel_rfl) (fun _ _ _ h => h) (by rfl) hHeld (v := ?v105) ?hy105 ?rest105
          case hy105 => (intro w' hSw; have hc := (hSw.cell hlo).trans hc0; go_simp <;> try rfl)
          try simp only [Act.put, List.setIfInBounds_toArray, List.set_cons_zero, List.set_cons_succ]
          refine reg_take (i := 5) rfl (by kernel_rfl) (by kernel_rfl) (by kernel_rfl) (fun _ _ _ h => h) (by rfl) hHeld (v := ?v106) ?hy106 ?rest106
          case hy106 => (intro w' hSw; go_simp <;> try rfl)
          try simp only [Act.put, List.setIfInBounds_toArray, List.set_cons_zero, List.set_cons_succ]
          refine reg_take (i := 6) rfl (by kernel_rfl) (by kernel_rfl) (by kernel_rfl) (fun _ _ _ h => h) (by rfl) hHeld (v := ?v107) ?hy107 ?rest107
          case hy107 => (intro w' hSw; go_simp <;> try rfl)
          try simp only [Act.put, List.setIfInBounds_toArray, List.set_cons_zero, List.set_cons_succ]
          refine reg_take (i := 7) rfl (by kernel_rfl) (by kernel_rfl) (by kernel_rfl) (fun _ _ _ h => h) (by rfl) hHeld (v := ?v108) ?hy108 ?rest108
          case hy108 => (intro w' hSw; go_simp <;> try rfl)
          try simp only [Act.put, List.setIfInBounds_toArray, List.set_cons_zero, List.set_cons_succ]
          refine reg_take (i := 8) rfl (by kernel_rfl) (by kernel_rfl) (by kernel_rfl) (fun _ _ _ h => h) (by rfl) hHeld (v := ?v109) ?hy109 ?rest109
          case hy109 => (intro w' hSw; have hc := (hSw.cell hlo).trans hc0; go_simp <;> try rfl)
          try simp only [Act.put, List.setIfInBounds_toArray, List.set_cons_zero, List.set_cons_succ]
          refine reg_take (i := 9) rfl (by kernel_rfl) (by kernel_rfl) (by kernel_rfl) (fun _ _ _ h => h) (by rfl) hHeld (v := ?v110) ?hy110 ?rest110
          case hy110 => (intro w' hSw; go_simp <;> try rfl)
          try simp only [Act.put, List.setIfInBounds_toArray, List.set_cons_zero, List.set_cons_succ]
          refine reg_take (i := 10) rfl (by kernel_rfl) (by kernel_rfl) (by kernel_rfl) (fun _ _ _ h => h) (by rfl) hHeld (v := ?v111) ?hy111 ?rest111
          case hy111 => (intro w' hSw; go_simp <;> try rfl)
          try simp only [Act.put, List.setIfInBounds_toArray, List.set_cons_zero, List.set_cons_succ]
          refine reg_take (i := 11) rfl (by kernel_rfl) (by kernel_rfl) (by kernel_rfl) (fun _ _ _ h => h) (by rfl) hHeld (v := ?v112) ?hy112 ?rest112
          case hy112 => (show ∀ w' : World, _ → _ = Result.ok (Next.value (.int .i64 (M : Int))) w'; intro w' hSw; go_simp; all_goals (first | omega | (simp [hmn]; done) | (split <;> omega)))
          try simp only [Act.put, List.setIfInBounds_toArray, List.set_cons_zero, List.set_cons_succ]
          refine reg_take (i := 12) rfl (by kernel_rfl) (by kernel_rfl) (by kernel_rfl) (fun _ _ _ h => h) (by rfl) hHeld (v := ?v113) ?hy113 ?rest113
          case hy113 => (intro w' hSw; go_simp <;> try rfl)
          try simp only [Act.put, List.setIfInBounds_toArray, List.set_cons_zero, List.set_cons_succ]
          refine wpAnyH_ready (rs := [13]) (by kernel_rfl) (by simp) ?_
          refine reg_cons rfl (by rfl) (fun K hK => ?_) ?_
          · go_simp
            refine hK.out _ _ (BA.out) (fun hHeld => ?_)
            clear hK K
            try simp only [Act.put, List.setIfInBounds_toArray, List.set_cons_zero, List.set_cons_succ]
            refine wpAnyH_ready (rs := [14]) (by kernel_rfl) (by simp) ?_
            refine reg_cons rfl (by rfl) (fun K hK => ?_) ?_
            · refine wp_appV (B := w.heap.size) (u := .slice a1 M d1) (hO.keep bA) cA rfl BA.out.size (by omega) rfl rfl ?_
              intro a2 d2 w2 O2 b2
              refine hK.out _ _ (BA.out.trans b2) (fun hHeld => ?_)
              clear hK K
              try simp only [Act.put, List.setIfInBounds_toArray, List.set_cons_zero, List.set_cons_succ]
              refine reg_take (i := 15) rfl (by kernel_rfl) (by kernel_rfl) (by kernel_rfl) (fun _ _ _ h => h) (by rfl) hHeld (v := ?v114) ?hy114 ?rest114
              case hy114 => (intro w' hSw; go_simp <;> try rfl)
              try simp only [Act.put, List.setIfInBounds_toArray, List.set_cons_zero, List.set_cons_succ]
              refine wpAnyH_done (by kernel_rfl) ?_ _
              go_wp2
              go_roundw
              case rel => exact ⟨i + 1, a2, d2, vs ++ [.slice a1 M d1], by omega, by omega, by go_num, rfl, O2, hall.out, hHeld⟩
              case measure => simp [intOf]; omega
            exact AllReadyH.nil
          exact AllReadyH.nil
      · obtain rfl : i = N := by omega
        have hnl : ¬ ((i : Int) < (i : Int)) := by omega
        obtain ⟨qs, hP, hq⟩ := hO.parts HV.out B
        have HP := Lib.hid hP
        clear hP hO
        go_wp2
        go_ret
        first
          | exact ⟨_, _, _, qs, rfl, by omega, HP.out, hq, B⟩
          | exact ⟨_, _, _, rfl, by omega, ⟨qs, HP.out, hq⟩, B⟩
          | exact ⟨_, _, _, rfl, by omega, qs, HP.out, hq, B⟩
    · obtain rfl : i = n := by omega
      obtain ⟨qs, hP, hq⟩ := hO.parts HV.out B
      have HP := Lib.hid hP
      clear hP hO
      go_wp2
      go_ret
      exact ⟨_, _, _, qs, rfl, by omega, HP.out, hq, B⟩
end Go.Proofs.YtfmpccfoemgiiaaDoor

