/-
  The reference's New.
-/
import Derived.Test.YtbnomkcliejcaaaDskRNew2
namespace Go.Proofs.Ytbnomkcliejcaaa
open Go.RowKit Ds
attribute [local go_sem] Oper.semAt_some
set_option linter.unusedSimpArgs false

section
variable {w : World} {a : Act} {Q : Exit → Act → World → Prop} {K : Act → World → Prop} {d : Option Tmp} {x y : Operand} {ty t : TypeId} {pos : String} {after : Array Edge} {gd : Option (Nat × Bool)}
theorem wp_makeBy {w' : World} {X Y V : Value} (hx : a.eval x = X) (hy : a.eval y = Y) (hrun : (Instr.makeSlice t X Y).run Try.prog w = .ok V w') (h : K (a.put d V) w') : Oper.wp Try.prog ⟨d, .makeSlice t x y, ty, pos, after, gd⟩ a w K Q := by
  unfold Oper.wp
  simp [execOp, hx, hy, hrun, Result.andThen]
  exact h
theorem wp_buildBy {w' : World} {n : Nat} {X V : Value} (hx : a.eval x = X) (hrun : (Instr.buildSlice t n #[(0, X)]).run Try.prog w = .ok V w') (h : K (a.put d V) w') : Oper.wp Try.prog ⟨d, .buildSlice t n #[(0, x)], ty, pos, after, gd⟩ a w K Q := by
  unfold Oper.wp
  simp [execOp, hx, hrun, Result.andThen]
  exact h
end
/-- A flag is appended. -/
theorem RB.addDirt {w0 W : World} {so lo zo : Option Addr} {i1 i2 i3 sc lc tc : Nat} (h : RB w0 W so lo zo i1 i2 i3 sc lc tc) (hi : i3 ≤ 4096) : ∃ W3 V zo' tc',
    (Builtin.append_ #[28, 28] 28 #[.slice zo i3 tc, .slice (some ⟨W.heap.size, 0, none⟩) 1 1]).run Try.prog (W.alloc (.cells #[.bool false] 4)) = .ok (.slice zo' (i3 + 1) tc') W3 ∧
    W3.setCell ⟨w0.heap.size, 2, none⟩ (.slice zo' (i3 + 1) tc') = V ∧ W3.cell? ⟨w0.heap.size, 2, none⟩ = some (.slice zo i3 tc) ∧ W3.frozen? ⟨w0.heap.size, 2, none⟩ = false ∧
    RB w0 V so lo zo' i1 i2 (i3 + 1) sc lc tc' := by
  obtain ⟨us, hus, huv⟩ := h.safe
  obtain ⟨ul, hul, hlv⟩ := h.last
  have hz0 := h.low.size
  obtain ⟨zo', tc', W3, r3, O3, G3, ob⟩ := app_one (T := 28) Try.underlying28 infoT rfl (by omega) h.dirt hi (by omega) (.bool false) rfl
  obtain ⟨W2, e2⟩ : ∃ X, W.alloc (.cells #[.bool false] 4) = X := ⟨_, rfl⟩
  have b2 : Below W.heap.size W W2 := by rw [← e2]; exact (Below.refl _ _).alloc (Nat.le_refl _) _
  rw [e2] at r3 G3
  have A2 := h.box.kept b2
  have us2 := ownsRow_keep hus b2
  have ul2 := ownsRow_keep hul b2
  have d2 := ownsRow_keep h.dirt b2
  have A3 := A2.row d2 (by decide) G3
  have us3 := World.ownsRow.kept us2 G3 (ne_row (rows_ne d2 us2 (by decide)))
  have ul3 := World.ownsRow.kept ul2 G3 (ne_row (rows_ne d2 ul2 (by decide)))
  have GV := grown_setG W3 w0.heap.size 2 (.slice zo' (i3 + 1) tc')
  have O4 := row_set (i := 2) O3 A3 (by decide) (.slice zo' (i3 + 1) tc')
  have us4 := row_set (i := 2) us3 A3 (by decide) (.slice zo' (i3 + 1) tc')
  have ul4 := row_set (i := 2) ul3 A3 (by decide) (.slice zo' (i3 + 1) tc')
  have step : ∀ {v : Value} {xs : List Int}, By W v xs → By (W3.setCell ⟨w0.heap.size, 2, none⟩ (.slice zo' (i3 + 1) tc')) v xs := fun hb =>
    ((hb.below b2).kept G3 (fun g hg => row_no8' d2 (by decide) g hg)).kept GV (box_no8 A3)
  have hB2 : Below w0.heap.size w0 W2 := h.low.trans (b2.mono hz0)
  have hB3 : Below w0.heap.size w0 W3 := hB2.grown G3 hB2.size (fun k hk => (World.ownsRow.lt d2 k hk).1)
  rw [← List.replicate_succ'] at O4
  exact ⟨W3, _, zo', tc', by rw [e2]; exact r3, rfl, A3.cell 2, A3.frozen 2, ⟨A3.set 2 _, ⟨us, us4, fun i hi => by obtain ⟨v, hv, hb⟩ := huv i hi; exact ⟨v, hv, step hb⟩⟩, ⟨ul, ul4, fun i hi => by obtain ⟨v, hv, hb⟩ := hlv i hi; exact ⟨v, hv, step hb⟩⟩, O4, h.ne, below_grown hB3 GV hB3.size (Nat.le_refl _)⟩⟩
def Rf.blank (n : Nat) : Rf := ⟨List.replicate n zeroS, List.replicate n zeroS, List.replicate n false, false, 0, false⟩
theorem brow_of {w : World} {B n c : Nat} {so : Option Addr} {us : List Value} (hn : 1 ≤ n) (h : w.ownsRow B 27 1 (.slice so n c) n us) (hu : ∀ i, i < n → ∃ v, us[i]? = some v ∧ By w v zeroS) : ∃ s, so = some ⟨s, 0, none⟩ ∧ B ≤ s ∧ (Value.slice so n c).ownBlock = some s ∧ BRow w s n c (List.replicate n zeroS) := by
  rcases h.2 with ⟨_, h0⟩ | ⟨g, cap, cur, hv, hg, hh, h1, h2, hz, ht⟩
  · omega
  · injection hv with e1 _ e3
    subst e1; subst e3
    refine ⟨g, rfl, hg, rfl, by simp, h1, h2, us, cur.toList.drop n, ?_, by have := h.1; omega, fun i hi => ?_⟩
    · have e : us ++ cur.toList.drop n = cur.toList := by rw [← ht, Nat.mul_one, List.take_append_drop]
      show w.heap[g]? = some (.cells (us ++ cur.toList.drop n).toArray 27 (0, 0))
      rw [e]
      simpa using hh
    · obtain ⟨v, hv, hb⟩ := hu i hi
      refine ⟨v, hv, ?_⟩
      have : (List.replicate n zeroS).getD i [] = zeroS := by simp [List.getD, hi]
      rw [this]
      exact hb
theorem RB.done {w0 w : World} {so lo zo : Option Addr} {n sc lc tc : Nat} (h : RB w0 w so lo zo n n n sc lc tc) (hn : 1 ≤ n) : ∃ s l t, RefD w w0.heap.size s l t n sc lc tc (Rf.blank n) ∧ w0.heap.size ≤ s ∧ w0.heap.size ≤ l ∧ w0.heap.size ≤ t := by
  obtain ⟨us, hus, huv⟩ := h.safe
  obtain ⟨ul, hul, hlv⟩ := h.last
  obtain ⟨s, e1, g1, o1, B1⟩ := brow_of hn hus huv
  obtain ⟨l, e2, g2, o2, B2⟩ := brow_of hn hul hlv
  rcases h.dirt.2 with ⟨_, h0⟩ | ⟨t, cap, cur, hv, hg, hh, h1, h2, hz, ht⟩
  · omega
  · injection hv with e3 _ e4
    subst e4
    have hb := h.box
    have hne : s ≠ l := fun e => h.ne s o1 (by rw [o2, e])
    rw [e1, e2, e3] at hb
    refine ⟨s, l, t, ⟨hb, B1, B2, ⟨by simp [Rf.blank], h1, h2, cur.toList.drop n, ?_⟩, hne⟩, g1, g2, hg⟩
    have e : (List.replicate n false).map Value.bool ++ cur.toList.drop n = cur.toList := by rw [List.map_replicate, ← ht, Nat.mul_one, List.take_append_drop]
    show w.heap[t]? = some (.cells ((List.replicate n false).map Value.bool ++ cur.toList.drop n).toArray 4 (0, 0))
    rw [e]
    simpa using hh
set_option maxHeartbeats 6400000 in
set_option maxRecDepth 100000 in
theorem rnew_c (n : Nat) (hn : 1 ≤ n) (hn2 : n ≤ 4096) (w : World) : Calls Try.prog 9 #[.int .i64 (n : Int)] w fun e w' => ∃ s l t sc lc tc, e = .returned (.pointer (some ⟨w.heap.size, 0, none⟩)) ∧ RefD w' w.heap.size s l t n sc lc tc (Rf.blank n) ∧ w.heap.size ≤ s ∧ w.heap.size ≤ l ∧ w.heap.size ≤ t ∧ Below w.heap.size w w' := by
  have R0 : Hid (RB w (w.alloc (.cells #[.slice none 0 0, .slice none 0 0, .slice none 0 0, .bool false, .int .i64 0, .bool false] 54)) none none none 0 0 0 0 0 0) := by
    refine ⟨Arr.new w _ [.slice none 0 0, .slice none 0 0, .slice none 0 0, .bool false, .int .i64 0, .bool false], ⟨[], World.ownsRow_nil _ _ _ _, fun i hi => absurd hi (by omega)⟩, ⟨[], World.ownsRow_nil _ _ _ _, fun i hi => absurd hi (by omega)⟩, World.ownsRow_nil _ _ _ _, fun g hg => (by cases hg), (Below.refl _ _).alloc (Nat.le_refl _) _⟩
  go_enter Try.func9, Try.ntmps9
  go_wp2_with fail
  go_loopw [4] (fun i wr => ∃ (j : Nat) (so lo zo : Option Addr) (sc lc tc : Nat), j ≤ n ∧ i = .int .i64 (j : Int) ∧ Hid (RB w wr so lo zo j j j sc lc tc)) (fun i _ => n - (intOf i).toNat)
  case atStart => exact ⟨0, none, none, none, 0, 0, 0, by omega, rfl, R0⟩
  case round =>
    obtain ⟨u, hu⟩ : ∃ x, x = wr := ⟨_, rfl⟩
    subst hu
    obtain ⟨j, so, lo, zo, sc, lc, tc, hj, rfl, R⟩ := hrel
    clear R0
    by_cases hlt : j < n
    · have hlt' : (j : Int) < (n : Int) := by omega
      go_wp2_with fail
      obtain ⟨W1, W2, W3, V, so', sc', r1, r2, r3, r4, c1, c2, c3, RV⟩ := R.out.drew.addSafe (by omega)
      have c0 := R.out.drew.box.cell 0
      refine wp_region_L [(10, fun w' => w'.cell? ⟨w.heap.size, 0, none⟩ = some (.slice so j sc))] (by kernel_rfl) (fun c hc _ => by simp only [List.mem_cons, List.not_mem_nil, or_false] at hc; subst hc; exact c0) (fun hS => ?_)
      refine regL_pure (i := 0) rfl (by rfl) (by kernel_rfl) (by kernel_rfl) (by kernel_rfl) (fun _ _ _ h => h) (by rfl) hS (v := ?vr1) ?hyr1 ?rtr1
      case hyr1 => (intro w'; go_simp <;> try rfl)
      intro hS
      try simp only [Act.put, List.setIfInBounds_toArray, List.set_cons_zero, List.set_cons_succ]
      refine regL_pure (i := 1) rfl (by rfl) (by kernel_rfl) (by kernel_rfl) (by kernel_rfl) (fun _ _ _ h => h) (by rfl) hS (v := ?vr2) ?hyr2 ?rtr2
      case hyr2 => (intro w'; go_simp <;> try rfl)
      intro hS
      try simp only [Act.put, List.setIfInBounds_toArray, List.set_cons_zero, List.set_cons_succ]
      refine regL_pure (i := 2) rfl (by rfl) (by kernel_rfl) (by kernel_rfl) (by kernel_rfl) (fun _ _ _ h => h) (by rfl) hS (v := ?vr3) ?hyr3 ?rtr3
      case hyr3 => (intro w'; go_simp <;> try rfl)
      intro hS
      try simp only [Act.put, List.setIfInBounds_toArray, List.set_cons_zero, List.set_cons_succ]
      refine regL_pure (i := 3) rfl (by rfl) (by kernel_rfl) (by kernel_rfl) (by kernel_rfl) (fun _ _ _ h => h) (by rfl) hS (v := ?vr4) ?hyr4 ?rtr4
      case hyr4 => (intro w'; go_simp <;> try rfl)
      intro hS
      try simp only [Act.put, List.setIfInBounds_toArray, List.set_cons_zero, List.set_cons_succ]
      refine regL_take (i := 4) (10, fun w' => w'.cell? ⟨w.heap.size, 0, none⟩ = some (.slice so j sc)) rfl (by simp) (by rfl) (by kernel_rfl) (by rfl) (by kernel_rfl) (by kernel_rfl) (by kernel_rfl) (fun _ _ _ h => h) (by rfl) hS (v := ?vr5) ?hyr5 ?rtr5
      case hyr5 => (intro w' hc; dsimp only at hc; go_simp <;> try rfl)
      intro hS
      try simp only [Act.put, List.setIfInBounds_toArray, List.set_cons_zero, List.set_cons_succ]
      refine regL_ready (rs := [5]) (by kernel_rfl) (by simp) ?_
      refine regL_cons rfl (by rfl) (fun K hK => ?_) regL_nil
      refine wp_makeBy rfl rfl r1 ?_
      refine hK.out _ _ (fun c hc hl => by simp only [List.mem_cons, List.not_mem_nil, or_false] at hc; subst hc; exact c1) ?_
      clear hK K
      intro hS
      try simp only [Act.put, List.setIfInBounds_toArray, List.set_cons_zero, List.set_cons_succ]
      refine regL_ready (rs := [6]) (by kernel_rfl) (by simp) ?_
      refine regL_cons rfl (by rfl) (fun K hK => ?_) regL_nil
      refine wp_buildBy rfl r2 ?_
      refine hK.out _ _ (fun c hc hl => by simp only [List.mem_cons, List.not_mem_nil, or_false] at hc; subst hc; exact c2) ?_
      clear hK K
      intro hS
      try simp only [Act.put, List.setIfInBounds_toArray, List.set_cons_zero, List.set_cons_succ]
      refine regL_ready (rs := [7]) (by kernel_rfl) (by simp) ?_
      refine regL_cons rfl (by rfl) (fun K hK => ?_) regL_nil
      refine Lib.wp_append_run _ _ _ _ _ rfl _ _ rfl rfl _ _ r3 ?_
      refine hK.out _ _ (fun c hc hl => by simp only [List.mem_cons, List.not_mem_nil, or_false] at hc; subst hc; exact c3) ?_
      clear hK K
      intro hS
      try simp only [Act.put, List.setIfInBounds_toArray, List.set_cons_zero, List.set_cons_succ]
      refine regL_pure (i := 8) rfl (by rfl) (by kernel_rfl) (by kernel_rfl) (by kernel_rfl) (fun _ _ _ h => h) (by rfl) hS (v := ?vr6) ?hyr6 ?rtr6
      case hyr6 => (intro w'; go_simp <;> try rfl)
      intro hS
      try simp only [Act.put, List.setIfInBounds_toArray, List.set_cons_zero, List.set_cons_succ]
      refine regL_pure (i := 9) rfl (by rfl) (by kernel_rfl) (by kernel_rfl) (by kernel_rfl) (fun _ _ _ h => h) (by rfl) hS (v := ?vr7) ?hyr7 ?rtr7
      case hyr7 => (intro w'; go_simp <;> try rfl)
      intro hS
      try simp only [Act.put, List.setIfInBounds_toArray, List.set_cons_zero, List.set_cons_succ]
      refine regL_ready (rs := [10]) (by kernel_rfl) (by simp) ?_
      refine regL_cons rfl (by rfl) (fun K hK => ?_) regL_nil
      refine wp_storeBy rfl rfl r4 ?_
      refine hK.out _ _ (fun c hc hl => by simp only [List.mem_cons, List.not_mem_nil, or_false] at hc; subst hc; exact Bool.noConfusion (show true = false from hl)) ?_
      clear hK K
      intro hS
      try simp only [Act.put, List.setIfInBounds_toArray, List.set_cons_zero, List.set_cons_succ]
      refine regL_done (by kernel_rfl) ?_ _
      have RA := Lib.hid RV
      clear RV r1 r2 r3 r4 c0 c1 c2 c3
      go_wp2_with fail
      obtain ⟨W1, W2, W3, V, lo', lc', r1, r2, r3, r4, c1, c2, c3, RV⟩ := RA.out.drew.addLast (by omega)
      have c0 := RA.out.drew.box.cell 1
      refine wp_region_L [(10, fun w' => w'.cell? ⟨w.heap.size, 1, none⟩ = some (.slice lo j lc))] (by kernel_rfl) (fun c hc _ => by simp only [List.mem_cons, List.not_mem_nil, or_false] at hc; subst hc; exact c0) (fun hS => ?_)
      refine regL_pure (i := 0) rfl (by rfl) (by kernel_rfl) (by kernel_rfl) (by kernel_rfl) (fun _ _ _ h => h) (by rfl) hS (v := ?vr8) ?hyr8 ?rtr8
      case hyr8 => (intro w'; go_simp <;> try rfl)
      intro hS
      try simp only [Act.put, List.setIfInBounds_toArray, List.set_cons_zero, List.set_cons_succ]
      refine regL_pure (i := 1) rfl (by rfl) (by kernel_rfl) (by kernel_rfl) (by kernel_rfl) (fun _ _ _ h => h) (by rfl) hS (v := ?vr9) ?hyr9 ?rtr9
      case hyr9 => (intro w'; go_simp <;> try rfl)
      intro hS
      try simp only [Act.put, List.setIfInBounds_toArray, List.set_cons_zero, List.set_cons_succ]
      refine regL_pure (i := 2) rfl (by rfl) (by kernel_rfl) (by kernel_rfl) (by kernel_rfl) (fun _ _ _ h => h) (by rfl) hS (v := ?vr10) ?hyr10 ?rtr10
      case hyr10 => (intro w'; go_simp <;> try rfl)
      intro hS
      try simp only [Act.put, List.setIfInBounds_toArray, List.set_cons_zero, List.set_cons_succ]
      refine regL_pure (i := 3) rfl (by rfl) (by kernel_rfl) (by kernel_rfl) (by kernel_rfl) (fun _ _ _ h => h) (by rfl) hS (v := ?vr11) ?hyr11 ?rtr11
      case hyr11 => (intro w'; go_simp <;> try rfl)
      intro hS
      try simp only [Act.put, List.setIfInBounds_toArray, List.set_cons_zero, List.set_cons_succ]
      refine regL_take (i := 4) (10, fun w' => w'.cell? ⟨w.heap.size, 1, none⟩ = some (.slice lo j lc)) rfl (by simp) (by rfl) (by kernel_rfl) (by rfl) (by kernel_rfl) (by kernel_rfl) (by kernel_rfl) (fun _ _ _ h => h) (by rfl) hS (v := ?vr12) ?hyr12 ?rtr12
      case hyr12 => (intro w' hc; dsimp only at hc; go_simp <;> try rfl)
      intro hS
      try simp only [Act.put, List.setIfInBounds_toArray, List.set_cons_zero, List.set_cons_succ]
      refine regL_ready (rs := [5]) (by kernel_rfl) (by simp) ?_
      refine regL_cons rfl (by rfl) (fun K hK => ?_) regL_nil
      refine wp_makeBy rfl rfl r1 ?_
      refine hK.out _ _ (fun c hc hl => by simp only [List.mem_cons, List.not_mem_nil, or_false] at hc; subst hc; exact c1) ?_
      clear hK K
      intro hS
      try simp only [Act.put, List.setIfInBounds_toArray, List.set_cons_zero, List.set_cons_succ]
      refine regL_ready (rs := [6]) (by kernel_rfl) (by simp) ?_
      refine regL_cons rfl (by rfl) (fun K hK => ?_) regL_nil
      refine wp_buildBy rfl r2 ?_
      refine hK.out _ _ (fun c hc hl => by simp only [List.mem_cons, List.not_mem_nil, or_false] at hc; subst hc; exact c2) ?_
      clear hK K
      intro hS
      try simp only [Act.put, List.setIfInBounds_toArray, List.set_cons_zero, List.set_cons_succ]
      refine regL_ready (rs := [7]) (by kernel_rfl) (by simp) ?_
      refine regL_cons rfl (by rfl) (fun K hK => ?_) regL_nil
      refine Lib.wp_append_run _ _ _ _ _ rfl _ _ rfl rfl _ _ r3 ?_
      refine hK.out _ _ (fun c hc hl => by simp only [List.mem_cons, List.not_mem_nil, or_false] at hc; subst hc; exact c3) ?_
      clear hK K
      intro hS
      try simp only [Act.put, List.setIfInBounds_toArray, List.set_cons_zero, List.set_cons_succ]
      refine regL_pure (i := 8) rfl (by rfl) (by kernel_rfl) (by kernel_rfl) (by kernel_rfl) (fun _ _ _ h => h) (by rfl) hS (v := ?vr13) ?hyr13 ?rtr13
      case hyr13 => (intro w'; go_simp <;> try rfl)
      intro hS
      try simp only [Act.put, List.setIfInBounds_toArray, List.set_cons_zero, List.set_cons_succ]
      refine regL_pure (i := 9) rfl (by rfl) (by kernel_rfl) (by kernel_rfl) (by kernel_rfl) (fun _ _ _ h => h) (by rfl) hS (v := ?vr14) ?hyr14 ?rtr14
      case hyr14 => (intro w'; go_simp <;> try rfl)
      intro hS
      try simp only [Act.put, List.setIfInBounds_toArray, List.set_cons_zero, List.set_cons_succ]
      refine regL_ready (rs := [10]) (by kernel_rfl) (by simp) ?_
      refine regL_cons rfl (by rfl) (fun K hK => ?_) regL_nil
      refine wp_storeBy rfl rfl r4 ?_
      refine hK.out _ _ (fun c hc hl => by simp only [List.mem_cons, List.not_mem_nil, or_false] at hc; subst hc; exact Bool.noConfusion (show true = false from hl)) ?_
      clear hK K
      intro hS
      try simp only [Act.put, List.setIfInBounds_toArray, List.set_cons_zero, List.set_cons_succ]
      refine regL_done (by kernel_rfl) ?_ _
      have RC := Lib.hid RV
      clear RV r1 r2 r3 r4 c0 c1 c2 c3
      obtain ⟨W4, V4, zo', tc', q3, q4, q5, q6, RD⟩ := RC.out.addDirt (by omega)
      have qb : V.cell? ⟨w.heap.size, 2, none⟩ = some (.slice zo j tc) := RC.out.box.cell 2
      have RD := Lib.hid RD
      go_wp2_with (at_builtin; refine Lib.wpList_append_run _ rfl _ _ _ _ rfl _ _ rfl rfl _ _ q3 ?_)
      go_roundw
      case rel => exact ⟨j + 1, _, _, _, _, _, _, by omega, by go_num, RD⟩
      case measure => simp [intOf]; omega
    · have hlt' : ¬ (j : Int) < (n : Int) := by omega
      obtain rfl : j = n := by omega
      obtain ⟨s, l, t, RD, g1, g2, g3⟩ := R.out.done hn
      have RD := Lib.hid RD
      have BB := Lib.hid R.out.low
      clear R
      go_wp2_with fail
      go_ret
      exact ⟨rfl, s, l, t, ⟨sc, lc, tc, RD.out⟩, g1, g2, g3, BB.out⟩
end Go.Proofs.Ytbnomkcliejcaaa
