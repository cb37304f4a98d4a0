/-
  The reference's Write that goes no further; its Sync.
-/
import Derived.Test.YtbnomkcliejcaaaDskRWr
namespace Go.Proofs.Ytbnomkcliejcaaa
open Go.RowKit Ds
attribute [local go_sem] Oper.semAt_some
set_option linter.unusedSimpArgs false

section
variable {w w' : World} {q s l t n sc lc tc : Nat} {r : Rf}
theorem rwriteDown_c (h : RefD w q s l t n sc lc tc r) (hg : r.gone = true) (x : Int) (bo : Option Addr) (m' e0 : Nat) : Calls Try.prog 11 #[.pointer (some ⟨q, 0, none⟩), .int .i64 x, .slice bo m' e0] w fun e w' => e = .returned (.int .i64 12) ∧ w = w' := by
  obtain ⟨_, _, _, _, _, k5⟩ := h.cells
  rw [hg] at k5
  clear h hg
  go_enter Try.func11, Try.ntmps11
  go_wp2
  go_ret
  exact ⟨rfl, rfl⟩
theorem rwriteOut_c (h : RefD w q s l t n sc lc tc r) (hg : r.gone = false) (x : Int) (hx : ¬ (0 ≤ x ∧ x < n)) (bo : Option Addr) (m' e0 : Nat) : Calls Try.prog 11 #[.pointer (some ⟨q, 0, none⟩), .int .i64 x, .slice bo m' e0] w fun e w' => e = .returned (.int .i64 4) ∧ w = w' := by
  obtain ⟨_, k1, _, _, _, k5⟩ := h.cells
  rw [hg] at k5
  clear h hg
  by_cases h0 : x < 0
  · clear hx
    go_enter Try.func11, Try.ntmps11
    go_wp2
    go_ret
    exact ⟨rfl, rfl⟩
  · have h1 : x ≥ (n : Int) := by omega
    clear hx
    go_enter Try.func11, Try.ntmps11
    go_wp2
    go_ret
    exact ⟨rfl, rfl⟩
theorem rwriteLong_c (h : RefD w q s l t n sc lc tc r) (hg : r.gone = false) (i : Nat) (hi : i < n) (bo : Option Addr) (m' e0 : Nat) (hm : ¬ m' ≤ 64) : Calls Try.prog 11 #[.pointer (some ⟨q, 0, none⟩), .int .i64 (i : Int), .slice bo m' e0] w fun e w' => e = .returned (.int .i64 7) ∧ w = w' := by
  obtain ⟨_, k1, _, _, _, k5⟩ := h.cells
  rw [hg] at k5
  have h1 : ¬ (i : Int) ≥ (n : Int) := by omega
  have h2 : (m' : Int) > 64 := by omega
  clear h hg hm
  go_enter Try.func11, Try.ntmps11
  go_wp2
  go_ret
  exact ⟨rfl, rfl⟩
set_option maxHeartbeats 1600000 in
theorem rwriteBurnt_c (h : RefD w q s l t n sc lc tc r) (hl0 : -1000000 ≤ r.left) (hl1 : r.left ≤ 9223372036854775807) (hg : r.gone = false) (hb : r.burn.1 = false) (i : Nat) (hi : i < n) (bo : Option Addr) (m' e0 : Nat) (hm : m' ≤ 64) : Calls Try.prog 11 #[.pointer (some ⟨q, 0, none⟩), .int .i64 (i : Int), .slice bo m' e0] w fun e w' =>
    e = .returned (.int .i64 12) ∧ RefD w' q s l t n sc lc tc r.burn.2 ∧ ROff q s l t w w' := by
  obtain ⟨_, k1, _, _, _, k5⟩ := h.cells
  rw [hg] at k5
  have h1 : ¬ (i : Int) ≥ (n : Int) := by omega
  have h2 : ¬ (m' : Int) > 64 := by omega
  have hbu := rburn_c h hl0 hl1
  rw [hb] at hbu
  clear h hg hm hb hl0 hl1
  go_enter Try.func11, Try.ntmps11
  go_wp2_with (go_at_call 29; (with_reducible refine hbu.mono ?_); rintro e w1 ⟨rfl, r1, r2, _⟩; have hr := Lib.hid (And.intro r1 r2); clear r1 r2)
  go_ret
  exact ⟨rfl, hr.out⟩
/-- The row of what is safe is given a new value. -/
theorem RefD.putSafe (h : RefD w q s l t n sc lc tc r) {i : Nat} (hi : i < n) {v : Value} {xs : List Int} (hv : By w v xs) :
    ∃ V, (Instr.storeAt 27 (.pointer (some ⟨s, i, none⟩)) v).run Try.prog w = .ok () V ∧ RefD V q s l t n sc lc tc { r with safe := r.safe.set i xs } ∧ ROff q s l t w V := by
  obtain ⟨t1, t2, t3, t4, t5⟩ := h.types
  have hg := grown_setG w s i v
  obtain ⟨u, hu, _⟩ := h.safe.get hi
  obtain ⟨_, _, _, us, rest, hA, _⟩ := h.safe
  obtain ⟨p, c, rfl, _⟩ := hv
  have hfz := hA.frozen i
  refine ⟨w.setCell ⟨s, i, none⟩ (.slice (some p) 64 c), ?_, ⟨h.box.grownBy hg t1.symm, BRow.set h.safe hi ⟨p, c, rfl, ‹_›⟩, h.last.kept hg (by simpa using h.ne.symm) (row_no8 hA (by decide)), h.dirt.kept hg (by simpa using t4), h.ne⟩, ROff.of_grown hg (Or.inr (Or.inl rfl))⟩
  go_simp
/-- Sync, before round j. -/
def Rf.part (r : Rf) (j : Nat) : Rf := { r with safe := r.last.take j ++ r.safe.drop j, dirt := List.replicate j false ++ r.dirt.drop j }
theorem set_next {α : Type} {xs ys : List α} {j : Nat} {d : α} (hx : j < xs.length) (hy : j < ys.length) : (xs.take j ++ ys.drop j).set j (xs.getD j d) = xs.take (j + 1) ++ ys.drop (j + 1) := by
  have hl : (xs.take j).length = j := by simp; omega
  rw [List.set_append_right _ _ (by omega), hl, Nat.sub_self, List.drop_eq_getElem_cons hy, List.set_cons_zero, List.take_succ_eq_append_getElem hx, List.append_assoc]
  simp [List.getD, hx]
theorem Rf.part_next {j : Nat} (h1 : j < r.last.length) (h2 : j < r.safe.length) (h3 : j < r.dirt.length) : { (r.part j) with safe := (r.part j).safe.set j (r.last.getD j []), dirt := (r.part j).dirt.set j false } = r.part (j + 1) := by
  unfold Rf.part
  have e1 := set_next (d := ([] : Sec)) h1 h2
  have e2 : (List.replicate j false ++ r.dirt.drop j).set j false = List.replicate (j + 1) false ++ r.dirt.drop (j + 1) := by
    rw [List.set_append_right _ _ (by simp), List.length_replicate, Nat.sub_self, List.drop_eq_getElem_cons h3, List.set_cons_zero, List.replicate_succ']
    simp
  simp only [e1, e2]
def Rf.wiped (r : Rf) : Rf := { r with safe := r.last, dirt := List.replicate r.dirt.length false }
def Rf.sync (r : Rf) : Int × Rf := if r.gone then (12, r) else if r.burn.1 then (0, r.burn.2.wiped) else (12, r.burn.2)
set_option maxHeartbeats 6400000 in
set_option maxRecDepth 100000 in
theorem rsync_c (h : RefD w q s l t n sc lc tc r) (hl0 : -1000000 ≤ r.left) (hl1 : r.left ≤ 9223372036854775807) : Calls Try.prog 16 #[.pointer (some ⟨q, 0, none⟩)] w fun e w' =>
    e = .returned (.int .i64 r.sync.1) ∧ RefD w' q s l t n sc lc tc r.sync.2 ∧ ROff q s l t w w' := by
  obtain ⟨_, _, _, _, _, k5⟩ := h.cells
  cases hg : r.gone with
  | true =>
    rw [hg] at k5
    have e : r.sync = (12, r) := by unfold Rf.sync; rw [hg]; rfl
    rw [e]
    have hD := Lib.hid h
    clear h e hg hl0 hl1
    go_enter Try.func16, Try.ntmps16
    go_wp2
    go_ret
    exact ⟨rfl, hD.out, ROff.refl _ _ _ _ _⟩
  | false =>
    rw [hg] at k5
    have hbu := rburn_c h hl0 hl1
    cases hb : r.burn.1 with
    | false =>
      rw [hb] at hbu
      have e : r.sync = (12, r.burn.2) := by unfold Rf.sync; rw [hg, hb]; rfl
      rw [e]
      clear h e hg hl0 hl1 hb
      go_enter Try.func16, Try.ntmps16
      go_wp2_with (go_at_call 29; (with_reducible refine hbu.mono ?_); rintro e w1 ⟨rfl, r1, r2, _⟩; have hr := Lib.hid (And.intro r1 r2); clear r1 r2)
      go_ret
      exact ⟨rfl, hr.out⟩
    | true =>
      rw [hb] at hbu
      have e : r.sync = (0, r.burn.2.wiped) := by unfold Rf.sync; rw [hg, hb]; rfl
      rw [e]
      obtain ⟨R, hR⟩ : ∃ R, r.burn.2 = R := ⟨_, rfl⟩
      rw [hR] at hbu ⊢
      have hb2 : Calls Try.prog 29 #[.pointer (some ⟨q, 0, none⟩)] w fun e W => e = .returned (.bool true) ∧ W.cell? ⟨q, 1, none⟩ = some (.slice (some ⟨l, 0, none⟩) n lc) ∧ Hid (RefD W q s l t n sc lc tc (R.part 0)) ∧ Hid (ROff q s l t w W) ∧ Hid (R.last.length = n ∧ R.safe.length = n ∧ R.dirt.length = n) := by
        refine hbu.mono ?_
        rintro e W ⟨rfl, hD, hO, _⟩
        exact ⟨rfl, hD.cells.2.1, hD, hO, hD.last.1, hD.safe.1, hD.dirt.1⟩
      have hnb : n ≤ 9223372036854775807 := by have h1 := h.safe.2.1; have h2 := h.safe.2.2.1; unfold maxLen at h2; omega
      clear h e hg hl0 hl1 hb hbu hR
      go_enter Try.func16, Try.ntmps16
      go_wp2_with (go_at_call 29; (with_reducible refine hb2.mono ?_); rintro e w1 ⟨rfl, k1, D1, O1, hlens⟩; clear hb2)
      go_loopw [3, 18] (fun _ i wr => ∃ j : Nat, j ≤ n ∧ i = .int .i64 (j : Int) ∧ Hid (RefD wr q s l t n sc lc tc (R.part j)) ∧ Hid (ROff q s l t w wr)) (fun _ i _ => n - (intOf i).toNat)
      case atStart => exact ⟨0, by omega, rfl, D1, O1⟩
      case round =>
        obtain ⟨u, hu⟩ : ∃ x, x = wr := ⟨_, rfl⟩
        subst hu
        obtain ⟨j, hj, rfl, D, O⟩ := hrel
        clear D1 O1 k1
        by_cases hlt : j < n
        · have hlt' : (j : Int) < (n : Int) := by omega
          obtain ⟨x0, x1, x2, _, _, _⟩ := D.out.drew.cells
          obtain ⟨v, hv, hB⟩ := D.out.drew.last.get hlt
          have hixS := ixRow s n sc j hlt
          have hixL := ixRow l n lc j hlt
          have hixT := ixBool t n tc j hlt
          obtain ⟨V, rV, R2, O2⟩ := D.out.drew.putSafe hlt hB
          obtain ⟨kb, fb, R3, O3⟩ := R2.putDirt hlt false
          have rT : (Instr.storeAt 4 (.pointer (some ⟨t, j, none⟩)) (.bool false)).run Try.prog V = .ok () (V.setCell ⟨t, j, none⟩ (.bool false)) := by go_simp
          obtain ⟨l1, l2, l3⟩ := hlens.out
          have e3 := Rf.part_next (r := R) (j := j) (by omega) (by omega) (by omega)
          obtain ⟨V2, hV2⟩ : ∃ X, V.setCell ⟨t, j, none⟩ (.bool false) = X := ⟨_, rfl⟩
          rw [hV2] at rT R3 O3
          have D3 : Hid (RefD V2 q s l t n sc lc tc (R.part (j + 1))) := by rw [← e3]; exact R3
          have O4 : Hid (ROff q s l t w V2) := O.out.trans (ROff.trans (v := u.drew) ⟨rfl, rfl, rfl, Nat.le_refl _, fun _ _ _ _ _ _ => rfl⟩ (O2.trans O3))
          clear R2 R3 O2 O3 e3 l1 l2 l3 hB kb fb hV2
          go_wp2_with fail
          refine wp_region_L [(18, fun w' => w'.cell? ⟨q, 0, none⟩ = some (.slice (some ⟨s, 0, none⟩) n sc) ∧ w'.cell? ⟨q, 1, none⟩ = some (.slice (some ⟨l, 0, none⟩) n lc) ∧ w'.cell? ⟨q, 2, none⟩ = some (.slice (some ⟨t, 0, none⟩) n tc) ∧ w'.cell? ⟨l, j, none⟩ = some v)] (by kernel_rfl) (fun c hc _ => by simp only [List.mem_cons, List.not_mem_nil, or_false] at hc; subst hc; exact ⟨x0, x1, x2, hv⟩) (fun hS => ?_)
          refine regL_pure (i := 0) rfl (by rfl) (by kernel_rfl) (by kernel_rfl) (by kernel_rfl) (fun _ _ _ h => h) (by rfl) hS (v := ?vr1) ?hyr1 ?rtr1
          case hyr1 => (intro w'; go_simp <;> try rfl)
          intro hS
          try simp only [Act.put, List.setIfInBounds_toArray, List.set_cons_zero, List.set_cons_succ]
          refine regL_pure (i := 1) rfl (by rfl) (by kernel_rfl) (by kernel_rfl) (by kernel_rfl) (fun _ _ _ h => h) (by rfl) hS (v := ?vr2) ?hyr2 ?rtr2
          case hyr2 => (intro w'; go_simp <;> try rfl)
          intro hS
          try simp only [Act.put, List.setIfInBounds_toArray, List.set_cons_zero, List.set_cons_succ]
          refine regL_pure (i := 2) rfl (by rfl) (by kernel_rfl) (by kernel_rfl) (by kernel_rfl) (fun _ _ _ h => h) (by rfl) hS (v := ?vr3) ?hyr3 ?rtr3
          case hyr3 => (intro w'; go_simp <;> try rfl)
          intro hS
          try simp only [Act.put, List.setIfInBounds_toArray, List.set_cons_zero, List.set_cons_succ]
          refine regL_take (i := 3) (18, fun w' => w'.cell? ⟨q, 0, none⟩ = some (.slice (some ⟨s, 0, none⟩) n sc) ∧ w'.cell? ⟨q, 1, none⟩ = some (.slice (some ⟨l, 0, none⟩) n lc) ∧ w'.cell? ⟨q, 2, none⟩ = some (.slice (some ⟨t, 0, none⟩) n tc) ∧ w'.cell? ⟨l, j, none⟩ = some v) rfl (by simp) (by rfl) (by kernel_rfl) (by rfl) (by kernel_rfl) (by kernel_rfl) (by kernel_rfl) (fun _ _ _ h => h) (by rfl) hS (v := ?vr4) ?hyr4 ?rtr4
          case hyr4 => (intro w' hc; dsimp only at hc; obtain ⟨c0, c1, c2, c3⟩ := hc; go_simp <;> try rfl)
          intro hS
          try simp only [Act.put, List.setIfInBounds_toArray, List.set_cons_zero, List.set_cons_succ]
          refine regL_pure (i := 4) rfl (by rfl) (by kernel_rfl) (by kernel_rfl) (by kernel_rfl) (fun _ _ _ h => h) (by rfl) hS (v := ?vr5) ?hyr5 ?rtr5
          case hyr5 => (intro w'; go_simp <;> try rfl)
          intro hS
          try simp only [Act.put, List.setIfInBounds_toArray, List.set_cons_zero, List.set_cons_succ]
          refine regL_pure (i := 5) rfl (by rfl) (by kernel_rfl) (by kernel_rfl) (by kernel_rfl) (fun _ _ _ h => h) (by rfl) hS (v := ?vr6) ?hyr6 ?rtr6
          case hyr6 => (intro w'; go_simp <;> try rfl)
          intro hS
          try simp only [Act.put, List.setIfInBounds_toArray, List.set_cons_zero, List.set_cons_succ]
          refine regL_pure (i := 6) rfl (by rfl) (by kernel_rfl) (by kernel_rfl) (by kernel_rfl) (fun _ _ _ h => h) (by rfl) hS (v := ?vr7) ?hyr7 ?rtr7
          case hyr7 => (intro w'; go_simp <;> try rfl)
          intro hS
          try simp only [Act.put, List.setIfInBounds_toArray, List.set_cons_zero, List.set_cons_succ]
          refine regL_pure (i := 7) rfl (by rfl) (by kernel_rfl) (by kernel_rfl) (by kernel_rfl) (fun _ _ _ h => h) (by rfl) hS (v := ?vr8) ?hyr8 ?rtr8
          case hyr8 => (intro w'; go_simp <;> try rfl)
          intro hS
          try simp only [Act.put, List.setIfInBounds_toArray, List.set_cons_zero, List.set_cons_succ]
          refine regL_take (i := 8) (18, fun w' => w'.cell? ⟨q, 0, none⟩ = some (.slice (some ⟨s, 0, none⟩) n sc) ∧ w'.cell? ⟨q, 1, none⟩ = some (.slice (some ⟨l, 0, none⟩) n lc) ∧ w'.cell? ⟨q, 2, none⟩ = some (.slice (some ⟨t, 0, none⟩) n tc) ∧ w'.cell? ⟨l, j, none⟩ = some v) rfl (by simp) (by rfl) (by kernel_rfl) (by rfl) (by kernel_rfl) (by kernel_rfl) (by kernel_rfl) (fun _ _ _ h => h) (by rfl) hS (v := ?vr9) ?hyr9 ?rtr9
          case hyr9 => (intro w' hc; dsimp only at hc; obtain ⟨c0, c1, c2, c3⟩ := hc; go_simp <;> try rfl)
          intro hS
          try simp only [Act.put, List.setIfInBounds_toArray, List.set_cons_zero, List.set_cons_succ]
          refine regL_pure (i := 9) rfl (by rfl) (by kernel_rfl) (by kernel_rfl) (by kernel_rfl) (fun _ _ _ h => h) (by rfl) hS (v := ?vr10) ?hyr10 ?rtr10
          case hyr10 => (intro w'; go_simp <;> try rfl)
          intro hS
          try simp only [Act.put, List.setIfInBounds_toArray, List.set_cons_zero, List.set_cons_succ]
          refine regL_pure (i := 10) rfl (by rfl) (by kernel_rfl) (by kernel_rfl) (by kernel_rfl) (fun _ _ _ h => h) (by rfl) hS (v := ?vr11) ?hyr11 ?rtr11
          case hyr11 => (intro w'; go_simp <;> try rfl)
          intro hS
          try simp only [Act.put, List.setIfInBounds_toArray, List.set_cons_zero, List.set_cons_succ]
          refine regL_pure (i := 11) rfl (by rfl) (by kernel_rfl) (by kernel_rfl) (by kernel_rfl) (fun _ _ _ h => h) (by rfl) hS (v := ?vr12) ?hyr12 ?rtr12
          case hyr12 => (intro w'; go_simp <;> try rfl)
          intro hS
          try simp only [Act.put, List.setIfInBounds_toArray, List.set_cons_zero, List.set_cons_succ]
          refine regL_pure (i := 12) rfl (by rfl) (by kernel_rfl) (by kernel_rfl) (by kernel_rfl) (fun _ _ _ h => h) (by rfl) hS (v := ?vr13) ?hyr13 ?rtr13
          case hyr13 => (intro w'; go_simp <;> try rfl)
          intro hS
          try simp only [Act.put, List.setIfInBounds_toArray, List.set_cons_zero, List.set_cons_succ]
          refine regL_take (i := 13) (18, fun w' => w'.cell? ⟨q, 0, none⟩ = some (.slice (some ⟨s, 0, none⟩) n sc) ∧ w'.cell? ⟨q, 1, none⟩ = some (.slice (some ⟨l, 0, none⟩) n lc) ∧ w'.cell? ⟨q, 2, none⟩ = some (.slice (some ⟨t, 0, none⟩) n tc) ∧ w'.cell? ⟨l, j, none⟩ = some v) rfl (by simp) (by rfl) (by kernel_rfl) (by rfl) (by kernel_rfl) (by kernel_rfl) (by kernel_rfl) (fun _ _ _ h => h) (by rfl) hS (v := ?vr14) ?hyr14 ?rtr14
          case hyr14 => (intro w' hc; dsimp only at hc; obtain ⟨c0, c1, c2, c3⟩ := hc; go_simp <;> try rfl)
          intro hS
          try simp only [Act.put, List.setIfInBounds_toArray, List.set_cons_zero, List.set_cons_succ]
          refine regL_pure (i := 14) rfl (by rfl) (by kernel_rfl) (by kernel_rfl) (by kernel_rfl) (fun _ _ _ h => h) (by rfl) hS (v := ?vr15) ?hyr15 ?rtr15
          case hyr15 => (intro w'; go_simp <;> try rfl)
          intro hS
          try simp only [Act.put, List.setIfInBounds_toArray, List.set_cons_zero, List.set_cons_succ]
          refine regL_pure (i := 15) rfl (by rfl) (by kernel_rfl) (by kernel_rfl) (by kernel_rfl) (fun _ _ _ h => h) (by rfl) hS (v := ?vr16) ?hyr16 ?rtr16
          case hyr16 => (intro w'; go_simp <;> try rfl)
          intro hS
          try simp only [Act.put, List.setIfInBounds_toArray, List.set_cons_zero, List.set_cons_succ]
          refine regL_take (i := 16) (18, fun w' => w'.cell? ⟨q, 0, none⟩ = some (.slice (some ⟨s, 0, none⟩) n sc) ∧ w'.cell? ⟨q, 1, none⟩ = some (.slice (some ⟨l, 0, none⟩) n lc) ∧ w'.cell? ⟨q, 2, none⟩ = some (.slice (some ⟨t, 0, none⟩) n tc) ∧ w'.cell? ⟨l, j, none⟩ = some v) rfl (by simp) (by rfl) (by kernel_rfl) (by rfl) (by kernel_rfl) (by kernel_rfl) (by kernel_rfl) (fun _ _ _ h => h) (by rfl) hS (v := ?vr17) ?hyr17 ?rtr17
          case hyr17 => (intro w' hc; dsimp only at hc; obtain ⟨c0, c1, c2, c3⟩ := hc; go_simp <;> try rfl)
          intro hS
          try simp only [Act.put, List.setIfInBounds_toArray, List.set_cons_zero, List.set_cons_succ]
          refine regL_pure (i := 17) rfl (by rfl) (by kernel_rfl) (by kernel_rfl) (by kernel_rfl) (fun _ _ _ h => h) (by rfl) hS (v := ?vr18) ?hyr18 ?rtr18
          case hyr18 => (intro w'; go_simp <;> try rfl)
          intro hS
          try simp only [Act.put, List.setIfInBounds_toArray, List.set_cons_zero, List.set_cons_succ]
          refine regL_ready (rs := [18]) (by kernel_rfl) (by simp) ?_
          refine regL_cons rfl (by rfl) (fun K hK => ?_) regL_nil
          refine wp_storeBy rfl rfl rV ?_
          refine hK.out _ _ (fun c hc hl => by simp only [List.mem_cons, List.not_mem_nil, or_false] at hc; subst hc; exact Bool.noConfusion (show true = false from hl)) ?_
          clear hK K
          intro hS
          try simp only [Act.put, List.setIfInBounds_toArray, List.set_cons_zero, List.set_cons_succ]
          refine regL_pure (i := 19) rfl (by rfl) (by kernel_rfl) (by kernel_rfl) (by kernel_rfl) (fun _ _ _ h => h) (by rfl) hS (v := ?vr19) ?hyr19 ?rtr19
          case hyr19 => (intro w'; go_simp <;> try rfl)
          intro hS
          try simp only [Act.put, List.setIfInBounds_toArray, List.set_cons_zero, List.set_cons_succ]
          refine regL_ready (rs := [20]) (by kernel_rfl) (by simp) ?_
          refine regL_cons rfl (by rfl) (fun K hK => ?_) regL_nil
          refine wp_storeBy rfl rfl rT ?_
          refine hK.out _ _ (fun c hc hl => by simp only [List.mem_cons, List.not_mem_nil, or_false] at hc; subst hc; exact Bool.noConfusion (show true = false from hl)) ?_
          clear hK K
          intro hS
          try simp only [Act.put, List.setIfInBounds_toArray, List.set_cons_zero, List.set_cons_succ]
          refine regL_done (by kernel_rfl) ?_ _
          go_wp2_with fail
          go_roundw
          case rel => exact ⟨j + 1, by omega, by go_num, D3, O4⟩
          case measure => simp [intOf]; omega
        · have hlt' : ¬ (j : Int) < (n : Int) := by omega
          obtain rfl : j = n := by omega
          obtain ⟨l1, l2, l3⟩ := hlens.out
          have e4 : R.part j = R.wiped := by
            unfold Rf.part Rf.wiped
            rw [List.take_of_length_le (by omega), List.drop_of_length_le (by omega), List.drop_of_length_le (by omega), List.append_nil, List.append_nil, l3]
          have hr : Hid (RefD u q s l t j sc lc tc R.wiped ∧ ROff q s l t w u) := ⟨e4 ▸ D.out, O.out⟩
          clear D O e4 l1 l2 l3
          go_wp2_with fail
          go_ret
          exact ⟨rfl, hr.out⟩
end
end Go.Proofs.Ytbnomkcliejcaaa
