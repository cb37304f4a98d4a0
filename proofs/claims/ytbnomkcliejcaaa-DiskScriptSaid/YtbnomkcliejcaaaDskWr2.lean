/-
  Write: its contract.
-/
import Derived.Test.YtbnomkcliejcaaaDskWrite
namespace Go.Proofs.Ytbnomkcliejcaaa
open Go.RowKit Ds
set_option linter.unusedSimpArgs false

section
variable {w : World} {g a m c n : Nat} {d : Dk} {bo : Option Addr} {m' e0 : Nat} {b : List Int}
/-- What Write leaves. -/
def WrOut (w : World) (g a m c : Nat) (d : Dk) (x : Int) (b : List Int) (e : Ending) (w' : World) : Prop := e = .returned (.int .i64 (d.write x b).1) ∧ Dsk w' g a m c (d.write x b).2 ∧ Off g a m w w'
theorem Lst.off {g a m : Nat} {w w' : World} (h : Lst .u8 w bo m' e0 b) (k : Off g a m w w') (hfar : ∀ j, j < m' → (pt bo j).block ≠ g ∧ (pt bo j).block ≠ a ∧ (pt bo j).block ≠ m) : Lst .u8 w' bo m' e0 b :=
  ⟨h.len, h.cap, h.room, h.isSome, fun j hj => (World.cell?_of_block (k.block _ (h.block j hj) (hfar j hj).1 (hfar j hj).2.1 (hfar j hj).2.2)).trans (h.cell j hj), h.wf⟩
/-- Bytes never lie in a disk's box or map. -/
theorem Lst.far (h : Lst .u8 w bo m' e0 b) (hD : Dsk w g a m c d) (hfar : ∀ j, j < m' → (pt bo j).block ≠ a) : ∀ j, j < m' → (pt bo j).block ≠ g ∧ (pt bo j).block ≠ a ∧ (pt bo j).block ≠ m := by
  intro j hj
  have hc := h.cell j hj
  refine ⟨fun e => ?_, hfar j hj, fun e => ?_⟩
  · have hb := hD.box
    rw [← e] at hb
    have hb : w.heap[(pt bo j).block]? = _ := hb
    simp only [World.cell?, hb] at hc
    split at hc
    · cases hc
    · generalize (pt bo j).off = o at hc
      match o with
      | 0 => simp at hc
      | 1 => simp at hc
      | 2 => simp at hc
      | 3 => simp at hc
      | 4 => simp at hc
      | o + 5 => simp at hc
  · obtain ⟨D, ⟨es, clock, hb, _⟩, _⟩ := hD.map
    rw [← e] at hb
    simp only [World.cell?, hb] at hc
    cases hc
set_option maxHeartbeats 6400000 in
set_option maxRecDepth 100000 in
theorem write_c (h : Dsk w g a m c d) (hk : d.Ok n) (x : Int) (hL : Lst .u8 w bo m' e0 b) (hfar : ∀ j, j < m' → (pt bo j).block ≠ a) :
    Calls Try.prog 10 #[.pointer (some ⟨g, 0, none⟩), .int .i64 x, .slice bo m' e0] w fun e w' => WrOut w g a m c d x b e w' := by
  have hdead := dead_c h
  have hbl := hL.len
  cases hd : d.dead with
  | true =>
    rw [hd] at hdead
    have hE : Hid (WrOut w g a m c d x b (.returned (.int .i64 12)) w) := by
      refine ⟨?_, ?_, Off.refl _ _ _ _⟩
      · unfold Dk.write; rw [hd]; rfl
      · unfold Dk.write; rw [hd]; exact h
    clear h hk hd hL hfar
    go_enter Try.func10, Try.ntmps10
    go_wp2_with (go_at_call 23; (with_reducible refine hdead.mono ?_); rintro e w1 ⟨rfl, rfl⟩)
    go_ret
    exact hE.out
  | false =>
    rw [hd] at hdead
    have hhas := has_c h x
    by_cases hx : 0 ≤ x ∧ x < d.cur.length
    case neg =>
      rw [decide_eq_false hx] at hhas
      have hE : Hid (WrOut w g a m c d x b (.returned (.int .i64 4)) w) := by
        refine ⟨?_, ?_, Off.refl _ _ _ _⟩
        · unfold Dk.write; rw [hd, if_neg hx]; rfl
        · unfold Dk.write; rw [hd, if_neg hx]; exact h
      clear h hk hd hL hfar hx
      go_enter Try.func10, Try.ntmps10
      go_wp2_with (first
        | (go_at_call 23; (with_reducible refine hdead.mono ?_); rintro e w1 ⟨rfl, rfl⟩)
        | (go_at_call 27; (with_reducible refine hhas.mono ?_); rintro e w1 ⟨rfl, rfl⟩))
      go_ret
      exact hE.out
    case pos =>
      rw [decide_eq_true hx] at hhas
      obtain ⟨i, rfl⟩ : ∃ i : Nat, x = i := ⟨x.toNat, by omega⟩
      have hi : i < d.cur.length := by omega
      by_cases hm : m' ≤ 64
      case neg =>
        have hE : Hid (WrOut w g a m c d i b (.returned (.int .i64 7)) w) := by
          have hb : ¬ b.length ≤ 64 := by omega
          refine ⟨?_, ?_, Off.refl _ _ _ _⟩
          · unfold Dk.write; rw [hd, if_pos hx, if_neg hb]; rfl
          · unfold Dk.write; rw [hd, if_pos hx, if_neg hb]; exact h
        have hgt : (m' : Int) > 64 := by omega
        clear h hk hd hL hfar hx hm hbl
        go_enter Try.func10, Try.ntmps10
        go_wp2_with (first
          | (go_at_call 23; (with_reducible refine hdead.mono ?_); rintro e w1 ⟨rfl, rfl⟩)
          | (go_at_call 27; (with_reducible refine hhas.mono ?_); rintro e w1 ⟨rfl, rfl⟩))
        go_ret
        exact hE.out
      case pos =>
        have hgt : ¬ (m' : Int) > 64 := by omega
        have hble : b.length ≤ 64 := by omega
        have hb := burn_c h hk
        have hk1 := hk.burn
        have hcur : d.burn.2.cur = d.cur := by unfold Dk.burn; split <;> (try split) <;> rfl
        have hold : d.burn.2.old = d.old := by unfold Dk.burn; split <;> (try split) <;> rfl
        have hlf := hL.far h hfar
        cases hbb : d.burn.1 with
        | false =>
          rw [hbb] at hb
          have hE : Hid (∀ w', Dsk w' g a m c d.burn.2 → Off g a m w w' → WrOut w g a m c d i b (.returned (.int .i64 12)) w') := by
            intro w' r1 r2
            refine ⟨?_, ?_, r2⟩
            · unfold Dk.write; rw [hd, if_pos hx, if_pos hble, hbb]; rfl
            · unfold Dk.write; rw [hd, if_pos hx, if_pos hble, hbb]; exact r1
          clear h hk hd hL hfar hx hm hbl hlf hk1
          go_enter Try.func10, Try.ntmps10
          go_wp2_with (first
            | (go_at_call 23; (with_reducible refine hdead.mono ?_); rintro e w1 ⟨rfl, rfl⟩)
            | (go_at_call 27; (with_reducible refine hhas.mono ?_); rintro e w1 ⟨rfl, rfl⟩)
            | (go_at_call 28; (with_reducible refine hb.mono ?_); rintro e w1 ⟨rfl, r1, r2, _⟩; have hr := Lib.hid (hE.out _ r1 r2); clear r1 r2))
          go_ret
          exact hr.out
        | true =>
          rw [hbb] at hb
          have hi1 := Lib.hid (show i < d.burn.2.cur.length by rw [hcur]; exact hi)
          have hz1 := Lib.hid hk1.size
          have hE : Hid (∀ w', Dsk w' g a m c (d.burn.2.put i b) → Off g a m w w' → WrOut w g a m c d i b (.returned (.int .i64 0)) w') := by
            intro w' r1 r2
            refine ⟨?_, ?_, r2⟩
            · unfold Dk.write; rw [hd, if_pos hx, if_pos hble, hbb]; rfl
            · unfold Dk.write; rw [hd, if_pos hx, if_pos hble, hbb]; exact r1
          have hix := ixS a d.burn.2.cur.length c i hi1.out
          have hsl := slS a (64 * i)
          have hb2 : Calls Try.prog 28 #[.pointer (some ⟨g, 0, none⟩)] w fun e w1 => e = .returned (.bool true) ∧ w1.cell? ⟨g, 1, none⟩ = some (.map (some m)) ∧
              ∃ s V, (Instr.lookup 58 (.map (some m)) (.int .i64 (i : Int)) true).run Try.prog w1 = .ok (.tuple #[secV s, .bool (d.old.getD i none).isSome]) w1 ∧
                (Instr.storeAt 56 (.pointer (some ⟨w1.heap.size, 0, none⟩)) (secV s)).run Try.prog (w1.alloc (.cells (zeroS.map (Value.int .u8)).toArray 56)) = .ok () V ∧ V.cell? ⟨g, 0, none⟩ = some (.slice (some ⟨a, 0, none⟩) d.burn.2.cur.length c) ∧
                Hid (Dsk V g a m c d.burn.2) ∧ Hid (Off g a m w V) ∧ Hid (Lst .u8 V bo m' e0 b) := by
            refine hb.mono ?_
            rintro e w1 ⟨rfl, hD, hO, hz⟩
            obtain ⟨s, hsl, hrun⟩ := hD.map.look (fun o ho => hk1.osize o ho) (i := i) (by have := hk1.len; have := hk1.max; have := hi1.out; omega)
            rw [hold] at hrun
            have hst := run_storeAt_new (P := Try.prog) w1 56 (zeroS.map (Value.int .u8)).toArray (s.map (Value.int .u8)).toArray (by rw [sizeS]; simp [hsl]) (by simp [hsl, zeroS]) (Array.all_eq_true_iff_forall_mem.2 (fun v hv => sec_one s v (by simpa using hv)))
            have bV : Below w1.heap.size w1 (w1.alloc (.cells (s.map (Value.int .u8)).toArray 56)) := (Below.refl _ _).alloc (Nat.le_refl _) _
            have hDV := hD.below bV
            have hOV := hO.trans (Off.of_below bV)
            exact ⟨rfl, hD.cells.2.1, s, _, hrun, hst, hDV.cells.1, hDV, hOV, hL.off hOV hlf⟩
          have hnn : n ≤ 4096 := hk1.max
          have hll : d.burn.2.old.length = d.burn.2.cur.length := by rw [hk1.len, hk1.olen]
          have hfar' := Lib.hid hfar
          have hle := Lib.hid (show d.burn.2.old.length ≤ 4096 by rw [hk1.olen]; exact hk1.max)
          have hm' := Lib.hid hm
          have hi2 := Lib.hid (show i < d.burn.2.old.length by rw [hll]; exact hi1.out)
          clear h hk hd hL hfar hx hbl hlf hb hm hi hble hk1 hll hcur
          cases ho : d.old.getD i none with
          | some o =>
            rw [ho] at hb2
            have hput : Hid ({ d.burn.2 with cur := d.burn.2.cur.set i (pad b) } = d.burn.2.put i b) := put_dirty (by rw [hold]; exact ho) hi2.out
            clear ho hold
            go_enter Try.func10, Try.ntmps10
            go_wp2_with (first
              | (go_at_call 23; (with_reducible refine hdead.mono ?_); rintro e w1 ⟨rfl, rfl⟩)
              | (go_at_call 27; (with_reducible refine hhas.mono ?_); rintro e w1 ⟨rfl, rfl⟩)
              | (go_at_call 28; (with_reducible refine hb2.mono ?_); rintro e w1 ⟨rfl, k1, s, V, rl, rs, k0, DV, OV, LV⟩; obtain ⟨W2, W3, r2, k2, r3, D3, O3, _⟩ := write_tail DV.out hz1.out hi1.out LV.out hm'.out hfar'.out; have hr := Lib.hid (hE.out W3 (hput.out ▸ D3) (OV.out.trans O3)); clear D3 O3 hb2)
              | (refine wpList_allocS ?_)
              | (refine wpList_storeBy rfl rfl rs ?_)
              | (refine wpList_buildS ?_)
              | (refine wpList_storeBy rfl rfl r2 ?_))
            go_ret
            exact hr.out
          | none =>
            rw [ho] at hb2
            rw [← hold] at ho
            go_enter Try.func10, Try.ntmps10
            go_wp2_with (first
              | (go_at_call 23; (with_reducible refine hdead.mono ?_); rintro e w1 ⟨rfl, rfl⟩)
              | (go_at_call 27; (with_reducible refine hhas.mono ?_); rintro e w1 ⟨rfl, rfl⟩)
              | (go_at_call 28; (with_reducible refine hb2.mono ?_); rintro e w1 ⟨rfl, k1, s, V, rl, rs, k0, DV, OV, LV⟩; clear hb2)
              | (refine wpList_allocS ?_)
              | (refine wpList_storeBy rfl rfl rs ?_))
            obtain ⟨U, rU, MU, gU, zU⟩ := DV.out.drew.map.store hle.out hi2.out ho (d.burn.2.cur.getD i [])
            have DU : Dsk U g a m c { d.burn.2 with old := d.burn.2.old.set i (some (d.burn.2.cur.getD i [])) } := ⟨DV.out.drew.box.grownBy gU DV.out.gm.symm, DV.out.drew.secs.grown gU (by simpa using DV.out.am.symm), MU⟩
            have OU : Off g a m w U := OV.out.trans (Off.trans (v := V.drew) ⟨rfl, rfl, rfl, Nat.le_refl _, fun _ _ _ _ _ => rfl⟩ (Off.of_grown gU (Or.inr (Or.inr rfl))))
            have LU : Lst .u8 U bo m' e0 b := (LV.out.drewN 1).off (Off.of_grown gU (Or.inr (Or.inr rfl))) ((LV.out.drewN 1).far DV.out.drew hfar'.out)
            obtain ⟨W2, W3, r2, k2, r3, D3, O3, _⟩ := write_tail DU hz1.out hi1.out LU hm'.out hfar'.out
            have hput := put_clean (d := d.burn.2) (b := b) ho
            have hr := Lib.hid (hE.out W3 (hput ▸ D3) (OU.trans O3))
            have kU := DU.cells.1
            clear D3 O3 OU DU LU gU zU MU hput ho hold
            refine wp_region_L [(12, fun w' => Dsk w' g a m c d.burn.2)] (by kernel_rfl) (fun c hc _ => by simp only [List.mem_cons, List.not_mem_nil, or_false] at hc; subst hc; exact DV.out.drew) (fun hS => ?_)
            refine regL_pure (i := 0) rfl (by rfl) (by kernel_rfl) (by kernel_rfl) (by kernel_rfl) (fun _ _ _ h => h) (by rfl) hS (v := ?vr1) ?hyr1 ?rtr1
            case hyr1 => (intro w'; go_simp <;> try rfl)
            intro hS
            try simp only [Act.put, List.setIfInBounds_toArray, List.set_cons_zero, List.set_cons_succ]
            refine regL_pure (i := 1) rfl (by rfl) (by kernel_rfl) (by kernel_rfl) (by kernel_rfl) (fun _ _ _ h => h) (by rfl) hS (v := ?vr2) ?hyr2 ?rtr2
            case hyr2 => (intro w'; go_simp <;> try rfl)
            intro hS
            try simp only [Act.put, List.setIfInBounds_toArray, List.set_cons_zero, List.set_cons_succ]
            refine regL_pure (i := 2) rfl (by rfl) (by kernel_rfl) (by kernel_rfl) (by kernel_rfl) (fun _ _ _ h => h) (by rfl) hS (v := ?vr3) ?hyr3 ?rtr3
            case hyr3 => (intro w'; go_simp <;> try rfl)
            intro hS
            try simp only [Act.put, List.setIfInBounds_toArray, List.set_cons_zero, List.set_cons_succ]
            refine regL_take (i := 3) (12, fun w' => Dsk w' g a m c d.burn.2) rfl (by simp) (by rfl) (by kernel_rfl) (by rfl) (by kernel_rfl) (by kernel_rfl) (by kernel_rfl) (fun _ _ _ h => h) (by rfl) hS (v := ?vr4) ?hyr4 ?rtr4
            case hyr4 => (intro w' hc; dsimp only at hc; have k := hc.cells.2.1; go_simp <;> try rfl)
            intro hS
            try simp only [Act.put, List.setIfInBounds_toArray, List.set_cons_zero, List.set_cons_succ]
            refine regL_pure (i := 4) rfl (by rfl) (by kernel_rfl) (by kernel_rfl) (by kernel_rfl) (fun _ _ _ h => h) (by rfl) hS (v := ?vr5) ?hyr5 ?rtr5
            case hyr5 => (intro w'; go_simp <;> try rfl)
            intro hS
            try simp only [Act.put, List.setIfInBounds_toArray, List.set_cons_zero, List.set_cons_succ]
            refine regL_pure (i := 5) rfl (by rfl) (by kernel_rfl) (by kernel_rfl) (by kernel_rfl) (fun _ _ _ h => h) (by rfl) hS (v := ?vr6) ?hyr6 ?rtr6
            case hyr6 => (intro w'; go_simp <;> try rfl)
            intro hS
            try simp only [Act.put, List.setIfInBounds_toArray, List.set_cons_zero, List.set_cons_succ]
            refine regL_pure (i := 6) rfl (by rfl) (by kernel_rfl) (by kernel_rfl) (by kernel_rfl) (fun _ _ _ h => h) (by rfl) hS (v := ?vr7) ?hyr7 ?rtr7
            case hyr7 => (intro w'; go_simp <;> try rfl)
            intro hS
            try simp only [Act.put, List.setIfInBounds_toArray, List.set_cons_zero, List.set_cons_succ]
            refine regL_pure (i := 7) rfl (by rfl) (by kernel_rfl) (by kernel_rfl) (by kernel_rfl) (fun _ _ _ h => h) (by rfl) hS (v := ?vr8) ?hyr8 ?rtr8
            case hyr8 => (intro w'; go_simp <;> try rfl)
            intro hS
            try simp only [Act.put, List.setIfInBounds_toArray, List.set_cons_zero, List.set_cons_succ]
            refine regL_take (i := 8) (12, fun w' => Dsk w' g a m c d.burn.2) rfl (by simp) (by rfl) (by kernel_rfl) (by rfl) (by kernel_rfl) (by kernel_rfl) (by kernel_rfl) (fun _ _ _ h => h) (by rfl) hS (v := ?vr9) ?hyr9 ?rtr9
            case hyr9 => (intro w' hc; dsimp only at hc; have k := hc.cells.1; go_simp <;> try rfl)
            intro hS
            try simp only [Act.put, List.setIfInBounds_toArray, List.set_cons_zero, List.set_cons_succ]
            refine regL_pure (i := 9) rfl (by rfl) (by kernel_rfl) (by kernel_rfl) (by kernel_rfl) (fun _ _ _ h => h) (by rfl) hS (v := ?vr10) ?hyr10 ?rtr10
            case hyr10 => (intro w'; go_simp <;> try rfl)
            intro hS
            try simp only [Act.put, List.setIfInBounds_toArray, List.set_cons_zero, List.set_cons_succ]
            refine regL_pure (i := 10) rfl (by rfl) (by kernel_rfl) (by kernel_rfl) (by kernel_rfl) (fun _ _ _ h => h) (by rfl) hS (v := ?vr11) ?hyr11 ?rtr11
            case hyr11 => (intro w'; go_simp <;> try rfl)
            intro hS
            try simp only [Act.put, List.setIfInBounds_toArray, List.set_cons_zero, List.set_cons_succ]
            refine regL_take (i := 11) (12, fun w' => Dsk w' g a m c d.burn.2) rfl (by simp) (by rfl) (by kernel_rfl) (by rfl) (by kernel_rfl) (by kernel_rfl) (by kernel_rfl) (fun _ _ _ h => h) (by rfl) hS (v := secV (d.burn.2.cur.getD i [])) ?hyr12 ?rtr12
            case hyr12 => (intro w' hc; dsimp only at hc; exact exec_loadBy (X := .pointer (some ⟨a, 64 * i, none⟩)) (by rfl) (hc.secs.load hz1.out hi1.out))
            intro hS
            try simp only [Act.put, List.setIfInBounds_toArray, List.set_cons_zero, List.set_cons_succ]
            refine regL_ready (rs := [12]) (by kernel_rfl) (by simp) ?_
            refine regL_cons rfl (by rfl) (fun K hK => ?_) regL_nil
            refine wp_updBy rfl rfl rfl rU ?_
            refine hK.out _ _ (fun c hc hl => by simp only [List.mem_cons, List.not_mem_nil, or_false] at hc; subst hc; exact Bool.noConfusion (show true = false from hl)) ?_
            clear hK K
            intro hS
            try simp only [Act.put, List.setIfInBounds_toArray, List.set_cons_zero, List.set_cons_succ]
            refine regL_done (by kernel_rfl) ?_ _
            go_wp2_with (first
              | (refine wpList_buildS ?_)
              | (refine wpList_storeBy rfl rfl r2 ?_))
            go_ret
            exact hr.out
end
end Go.Proofs.Ytbnomkcliejcaaa
