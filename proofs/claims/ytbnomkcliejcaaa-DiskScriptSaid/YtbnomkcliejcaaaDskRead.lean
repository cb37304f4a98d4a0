/-
  Read and Sync.
-/
import Derived.Test.YtbnomkcliejcaaaDskSmall
namespace Go.Proofs.Ytbnomkcliejcaaa
open Go.RowKit Ds
attribute [local go_sem] Oper.semAt_some

set_option maxHeartbeats 3200000 in
set_option maxRecDepth 100000 in
theorem clone_c (a : Addr) (n c : Nat) (bs : List Int) (w : World) (h : Lst .u8 w (some a) n c bs) (hn : n ≤ 1000000) :
    Calls Try.prog 30 #[.slice (some a) n c] w fun e w' => ∃ ro d, e = .returned (.slice ro n d) ∧ Own 5 .u8 w.heap.size w' ro n d bs ∧ Below w.heap.size w w' := by
  have q26 := fun (w : World) (a : Option Addr) (n c n' c' : Nat) => Lib.run_eql_slice_nil (P := Try.prog) w 27 _ a n c n' c' Try.underlying27
  have OM : Own 5 .u8 w.heap.size (w.alloc (.cells #[] 5)) (some ⟨w.heap.size, 0, none⟩) 0 0 [] := ⟨World.ownsRow_made w #[] 0 (Nat.le_refl _) (Nat.zero_le _) rfl, fun _ hx => by cases hx⟩
  obtain ⟨V, e1⟩ : ∃ V, w.alloc (.cells #[] 5) = V := ⟨_, rfl⟩
  have BV : Below w.heap.size w V := by rw [← e1]; exact (Below.refl _ _).alloc (Nat.le_refl _) _
  rw [e1] at OM
  have H := h.below BV
  have HB : Hid (Below w.heap.size w V) := BV
  have hzV : w.heap.size ≤ V.heap.size := BV.size
  clear h BV
  go_enter Try.func30, Try.ntmps30
  go_wp2_with (at_builtin; refine wpList_appL OM H (fun e => by cases e) hzV (by omega) (by omega) rfl rfl ?_)
  intro ro d w2 O2 B2
  rw [Nat.zero_add, List.nil_append] at O2
  have O3 := Lib.hid O2
  have B3 : Hid (Below w.heap.size w w2) := HB.out.trans B2
  rw [Nat.zero_add]
  clear O2 B2 OM H hzV
  go_wp2_with fail
  go_ret
  exact ⟨ro, d, rfl, O3.out, B3.out⟩
theorem ixS (a n c i : Nat) (hi : i < n) (W : World) : (Instr.indexAt 51 (.slice (some ⟨a, 0, none⟩) n c) (.int .i64 (i : Int))).run Try.prog W = .ok (.pointer (some ⟨a, 64 * i, none⟩)) W := by
  obtain ⟨inf, hinf, hs⟩ := Option.map_eq_some_iff.1 sizeS
  have e : (⟨a, 0, none⟩ : Addr).add (i * 64) = ⟨a, 64 * i, none⟩ := by
    have := pt_own a (i * 64)
    simp only [pt, Option.getD_some] at this
    rw [this, Nat.mul_comm]
  simp [Instr.indexAt, run_underlying Try.underlying51, asIntOf, sizeOf, typeInfo, hinf, hs, hi, e]
theorem slS (a k : Nat) (W : World) : (Instr.sliceAt 56 (.pointer (some ⟨a, k, none⟩)) none none none).run Try.prog W = .ok (.slice (some ⟨a, k, none⟩) 64 64) W := by
  have e : (⟨a, k, none⟩ : Addr).add 0 = ⟨a, k, none⟩ := by unfold Addr.add; split <;> simp_all
  obtain ⟨inf, hinf, hs⟩ := Option.map_eq_some_iff.1 size5
  simp [Instr.sliceAt, run_underlying Try.underlying56, Instr.sureAddr, Instr.sliceBounds, sizeOf, typeInfo, hinf, Result.andThen, e]
section
variable {w : World} {g a m c : Nat} {d : Dk}
set_option maxHeartbeats 3200000 in
theorem read_c {n : Nat} (h : Dsk w g a m c d) (hk : d.Ok n) (hd : d.dead = false) (i : Nat) (hi : i < n) : Calls Try.prog 12 #[.pointer (some ⟨g, 0, none⟩), .int .i64 (i : Int)] w fun e w' =>
    ∃ ro b, e = .returned (.tuple #[.slice ro 64 b, .int .i64 0]) ∧ Own 5 .u8 w.heap.size w' ro 64 b (d.cur.getD i []) ∧ Below w.heap.size w w' := by
  have hi' : i < d.cur.length := by rw [hk.len]; exact hi
  have hdead := dead_c h
  rw [hd] at hdead
  have hhas := has_c h (i : Int)
  rw [show decide ((0 : Int) ≤ (i : Int) ∧ (i : Int) < (d.cur.length : Int)) = true by rw [decide_eq_true_eq]; omega] at hhas
  have hL := h.secs.lst hk.size hk.byte hi'
  have hcl := clone_c _ _ _ _ w hL (by omega)
  obtain ⟨k0, _, _, _, _⟩ := h.cells
  obtain ⟨N, hN⟩ : ∃ N, d.cur.length = N := ⟨_, rfl⟩
  rw [hN] at hi' k0
  have hix := ixS a N c i hi'
  have hsl := slS a (64 * i)
  clear h hk hd hL hN
  go_enter Try.func12, Try.ntmps12
  go_wp2_with (first
    | (go_at_call 23; (with_reducible refine hdead.mono ?_); rintro e w1 ⟨rfl, rfl⟩)
    | (go_at_call 27; (with_reducible refine hhas.mono ?_); rintro e w1 ⟨rfl, rfl⟩)
    | (go_at_call 30; (with_reducible refine hcl.mono ?_); rintro e w1 ⟨ro, b, rfl, hO, hB⟩; have hO' := Lib.hid hO; have hB' : Hid (Below w.heap.size w w1) := hB; clear hO hB))
  go_ret2
  exact ⟨ro, b, rfl, hO'.out, hB'.out⟩
set_option maxHeartbeats 3200000 in
theorem readDown_c (h : Dsk w g a m c d) (hd : d.dead = true) (x : Int) : Calls Try.prog 12 #[.pointer (some ⟨g, 0, none⟩), .int .i64 x] w fun e w' => e = .returned (.tuple #[.slice none 0 0, .int .i64 12]) ∧ w = w' := by
  have hdead := dead_c h
  rw [hd] at hdead
  clear h hd
  go_enter Try.func12, Try.ntmps12
  go_wp2_with (go_at_call 23; (with_reducible refine hdead.mono ?_); rintro e w1 ⟨rfl, rfl⟩)
  go_ret2
  exact ⟨rfl, rfl⟩
set_option maxHeartbeats 3200000 in
theorem readOut_c {n : Nat} (h : Dsk w g a m c d) (hk : d.Ok n) (hd : d.dead = false) (x : Int) (hx : ¬ (0 ≤ x ∧ x < n)) : Calls Try.prog 12 #[.pointer (some ⟨g, 0, none⟩), .int .i64 x] w fun e w' => e = .returned (.tuple #[.slice none 0 0, .int .i64 4]) ∧ w = w' := by
  have hdead := dead_c h
  rw [hd] at hdead
  have hhas := has_c h x
  rw [show decide ((0 : Int) ≤ x ∧ x < (d.cur.length : Int)) = false by rw [decide_eq_false_iff_not, hk.len]; exact hx] at hhas
  clear h hd hk
  go_enter Try.func12, Try.ntmps12
  go_wp2_with (first
    | (go_at_call 23; (with_reducible refine hdead.mono ?_); rintro e w1 ⟨rfl, rfl⟩)
    | (go_at_call 27; (with_reducible refine hhas.mono ?_); rintro e w1 ⟨rfl, rfl⟩))
  go_ret2
  exact ⟨rfl, rfl⟩
set_option maxHeartbeats 3200000 in
theorem sync_c {n : Nat} (h : Dsk w g a m c d) (hk : d.Ok n) : Calls Try.prog 15 #[.pointer (some ⟨g, 0, none⟩)] w fun e w' => e = .returned (.int .i64 d.sync.1) ∧ Dsk w' g a m c d.sync.2 ∧ Off g a m w w' ∧ w'.heap.size = w.heap.size := by
  have hdead := dead_c h
  cases hd : d.dead with
  | true =>
    rw [hd] at hdead
    have e : d.sync = (12, d) := by unfold Dk.sync; rw [hd]; rfl
    rw [e]
    have hD : Hid (Dsk w g a m c d) := h
    clear h hk hd e
    go_enter Try.func15, Try.ntmps15
    go_wp2_with (go_at_call 23; (with_reducible refine hdead.mono ?_); rintro e w1 ⟨rfl, rfl⟩)
    go_ret
    exact ⟨rfl, hD.out, Off.refl _ _ _ _, rfl⟩
  | false =>
    rw [hd] at hdead
    have hb := burn_c h hk
    have ho := hk.burn.olen
    cases hbb : d.burn.1 with
    | false =>
      rw [hbb] at hb
      have e : d.sync = (12, d.burn.2) := by unfold Dk.sync; rw [hd, hbb]; rfl
      rw [e]
      clear h hk hd e
      go_enter Try.func15, Try.ntmps15
      go_wp2_with (first
        | (go_at_call 23; (with_reducible refine hdead.mono ?_); rintro e w1 ⟨rfl, rfl⟩)
        | (go_at_call 28; (with_reducible refine hb.mono ?_); rintro e w1 ⟨rfl, r⟩; have hr := Lib.hid r; clear r))
      go_ret
      exact ⟨rfl, hr.out⟩
    | true =>
      rw [hbb] at hb
      have e : d.sync = (0, d.burn.2.wipe) := by unfold Dk.sync; rw [hd, hbb]; rfl
      rw [e]
      clear h hk hd e
      have hb2 : Calls Try.prog 28 #[.pointer (some ⟨g, 0, none⟩)] w fun e w' => e = .returned (.bool true) ∧ w'.cell? ⟨g, 1, none⟩ = some (.map (some m)) ∧
          ∃ w2, (∀ ty, (Builtin.clear_ #[58] ty #[.map (some m)]).run Try.prog w' = .ok (.tuple #[]) w2) ∧ Hid (Dsk w2 g a m c d.burn.2.wipe ∧ Off g a m w w2 ∧ w2.heap.size = w.heap.size) := by
        refine hb.mono ?_
        rintro e w' ⟨rfl, hD, hO, hz⟩
        obtain ⟨w2, hc, hM, hg, hz2⟩ := hD.map.clear d.burn.2.old.length
        exact ⟨rfl, hD.cells.2.1, w2, hc, ⟨⟨(hg.block g hD.box.lt (by simpa using hD.gm.symm)).trans hD.box, hD.secs.grown hg (by simpa using hD.am.symm), hM⟩, hO.trans (Off.of_grown hg (Or.inr (Or.inr rfl))), hz2.trans hz⟩⟩
      clear hb
      go_enter Try.func15, Try.ntmps15
      go_wp2_with (first
        | (go_at_call 23; (with_reducible refine hdead.mono ?_); rintro e w1 ⟨rfl, rfl⟩)
        | (go_at_call 28; (with_reducible refine hb2.mono ?_); rintro e w1 ⟨rfl, k1, w2, hc, hr⟩))
      go_ret
      exact ⟨rfl, hr.out⟩
theorem syncN_c (w : World) : Calls Try.prog 15 #[.pointer none] w fun e w' => e = .returned (.int .i64 12) ∧ w = w' := by
  have hdead := deadN_c w
  go_enter Try.func15, Try.ntmps15
  go_wp2_with (go_at_call 23; (with_reducible refine hdead.mono ?_); rintro e w1 ⟨rfl, rfl⟩)
  go_ret
  exact ⟨rfl, rfl⟩
end
end Go.Proofs.Ytbnomkcliejcaaa
