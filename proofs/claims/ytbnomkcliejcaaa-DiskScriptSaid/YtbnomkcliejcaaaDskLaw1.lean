/-
  DiskNew, DiskFuse.
-/
import Derived.Test.YtbnomkcliejcaaaDskAwake
import Derived.Test.YtbnomkcliejcaaaDskEq
namespace Go.Proofs.Ytbnomkcliejcaaa
open Go.RowKit Ds
attribute [local go_sem] Oper.semAt_some
set_option linter.unusedSimpArgs false

theorem writeN_c (x : Int) (bo : Option Addr) (m e0 : Nat) (w : World) : Calls Try.prog 10 #[.pointer none, .int .i64 x, .slice bo m e0] w fun e w' => e = .returned (.int .i64 12) ∧ w = w' := by
  have hdead := deadN_c w
  go_enter Try.func10, Try.ntmps10
  go_wp2_with (go_at_call 23; (with_reducible refine hdead.mono ?_); rintro e w1 ⟨rfl, rfl⟩)
  go_ret
  exact ⟨rfl, rfl⟩
theorem crashN_c (ko : Option Addr) (kn kc : Nat) (w : World) : Calls Try.prog 19 #[.pointer none, .slice ko kn kc] w fun e w' => e = .returned (.pointer none) ∧ w = w' := by
  go_enter Try.func19, Try.ntmps19
  go_wp2
  go_ret
  exact ⟨rfl, rfl⟩
theorem eqT_c {ao bo : Option Addr} {n c m e0 : Nat} {xs : List Int} {w : World} (hX : Lst .u8 w ao n c xs) (hY : Lst .u8 w bo m e0 xs) :
    Calls Try.prog 14 #[.slice ao n c, .slice bo m e0] w fun e w' => e = .returned (.bool true) ∧ Below w.heap.size w w' := by
  have := eqB_c ao n c xs bo m e0 xs w hX hY
  rw [decide_eq_true (rfl : xs = xs)] at this
  exact this
/-- make([]byte, 64). -/
theorem make64 (W : World) : (Instr.makeSlice 27 (.int .i64 64) (.int .i64 64)).run Try.prog W = .ok (.slice (some ⟨W.heap.size, 0, none⟩) 64 64) (W.alloc (.cells (madeCells #[.int .u8 0] 64) 5)) :=
  run_make_row' _ _ _ 1 Try.underlying27 info5 rfl .i64 .i64 64 (by omega) (by omega) W
theorem made64 (U : World) : Own 5 .u8 U.heap.size (U.alloc (.cells (madeCells #[.int .u8 0] 64) 5)) (some ⟨U.heap.size, 0, none⟩) 64 64 zeroS := by
  have e : (madeCells #[Value.int .u8 0] 64).toList = zeroS.map (Value.int .u8) := by rw [toList_madeCells_one]; unfold zeroS; rw [List.map_replicate]
  refine ⟨?_, fun x hx => by have := zeroS_bytes x hx; exact wf_u8 this.1 this.2⟩
  rw [← e]
  exact World.ownsRow_lit U (madeCells #[.int .u8 0] 64) 64 (Nat.le_refl _) (by unfold maxLen; omega) (by rw [size_madeCells])
theorem blank_at {n i : Nat} (hi : i < n) : (Ds.blank n).cur.getD i [] = zeroS := by simp [Ds.blank, fresh, List.getD, hi]
set_option maxHeartbeats 6400000 in
set_option maxRecDepth 100000 in
theorem newLaw_c (x : Int) (w : World) (h0 : -9223372036854775808 ≤ x) (h1 : x ≤ 9223372036854775807) : Calls Try.prog 7 #[.int .i64 x] w fun e w' => e = .returned (.bool true) ∧ Below w.heap.size w w' := by
  by_cases hx : 1 ≤ x ∧ x ≤ 4096
  · obtain ⟨n, rfl⟩ : ∃ n : Nat, x = n := ⟨x.toNat, by omega⟩
    have n1 : 1 ≤ n := by omega
    have n2 : n ≤ 4096 := by omega
    have hok := blank_ok n1 n2
    have hN := newN_c n n1 n2 w
    have hR1 : ∀ W, DskN w W (w.heap.size + 2) w.heap.size (w.heap.size + 1) n (Ds.blank n) → Calls Try.prog 12 #[.pointer (some ⟨w.heap.size + 2, 0, none⟩), .int .i64 ((n : Int) - 1)] W fun e w' =>
        ∃ ro b, e = .returned (.tuple #[.slice ro 64 b, .int .i64 0]) ∧ Hid (Lst .u8 w' ro 64 b zeroS) ∧ Hid (DskN w w' (w.heap.size + 2) w.heap.size (w.heap.size + 1) n (Ds.blank n)) := fun W h => by
      have := read_c h.dsk hok rfl (n - 1) (by omega)
      rw [show ((n - 1 : Nat) : Int) = (n : Int) - 1 by omega, blank_at (by omega)] at this
      exact this.mono fun _ _ ⟨ro, b, r1, r2, r3⟩ => ⟨ro, b, r1, r2.lst, h.below r3⟩
    have hR2 : ∀ W, Hid (DskN w W (w.heap.size + 2) w.heap.size (w.heap.size + 1) n (Ds.blank n)) → Calls Try.prog 12 #[.pointer (some ⟨w.heap.size + 2, 0, none⟩), .int .i64 (n : Int)] W fun e w' =>
        e = .returned (.tuple #[.slice none 0 0, .int .i64 4]) ∧ W = w' := fun W h => readOut_c h.out.dsk hok rfl _ (by omega)
    have hSec : ∀ W, DskN w W (w.heap.size + 2) w.heap.size (w.heap.size + 1) n (Ds.blank n) → Calls Try.prog 25 #[.pointer (some ⟨w.heap.size + 2, 0, none⟩)] W fun e w' => e = .returned (.int .i64 (n : Int)) ∧ W = w' := fun W h => by
      have := sectors_c h.dsk
      rw [show (Ds.blank n).cur.length = n from hok.len] at this
      exact this
    have hw : IntKind.i64.wrap ((n : Int) - 1) = (n : Int) - 1 := by rw [IntKind.wrap_i64]; omega
    have g1 : ¬ (n : Int) < 1 := by omega
    have g2 : ¬ (n : Int) > 4096 := by omega
    clear hx h0 h1
    go_enter Try.func7, Try.ntmps7
    go_wp2_with (first
      | (go_at_call 8; (with_reducible refine hN.mono ?_); rintro e w1 ⟨rfl, D1⟩; have hr1 := hR1 w1 D1; clear hR1)
      | (go_at_call 12; (with_reducible refine hr1.mono ?_); rintro e w2 ⟨ro, b, rfl, L2, D2⟩)
      | (go_at_call 12; (with_reducible refine (hR2 w2 D2).mono ?_); rintro e w3 ⟨rfl, rfl⟩)
      | (go_at_call 22; (with_reducible refine (awake_c w2).mono ?_); rintro e w4 ⟨rfl, B4⟩; have D4 := D2.out.below B4; have L4 := L2.out.below B4; have hs := hSec w4 D4; have hmk := make64 w4; have bU : Below w4.heap.size w4 (w4.alloc (.cells (madeCells #[.int .u8 0] 64) 5)) := (Below.refl _ _).alloc (Nat.le_refl _) _; have hE := eqT_c (L4.below bU) (made64 w4).lst; have D5 := Lib.hid (D4.below bU); clear D4 L4 B4 bU L2 D2)
      | (go_at_call 25; (with_reducible refine hs.mono ?_); rintro e w5 ⟨rfl, rfl⟩)
      | (go_at_call 14; (with_reducible refine hE.mono ?_); rintro e w6 ⟨rfl, B6⟩; have D6 := Lib.hid (D5.out.below B6); have hd := dead_c D6.out.dsk)
      | (go_at_call 23; (with_reducible refine hd.mono ?_); rintro e w7 ⟨rfl, rfl⟩))
    go_ret
    exact ⟨rfl, D6.out.bel⟩
  · have hN := newNo_c x hx w
    by_cases hx1 : x < 1
    · clear hx h0 h1
      go_enter Try.func7, Try.ntmps7
      go_wp2_with (first
        | (go_at_call 8; (with_reducible refine hN.mono ?_); rintro e w1 ⟨rfl, rfl⟩)
        | (go_at_call 22; (with_reducible refine (awake_c w).mono ?_); rintro e w2 ⟨rfl, B2⟩; have B2 := Lib.hid B2)
        | (go_at_call 25; (with_reducible refine (sectorsN_c w2).mono ?_); rintro e w3 ⟨rfl, rfl⟩)
        | (go_at_call 23; (with_reducible refine (deadN_c w2).mono ?_); rintro e w3 ⟨rfl, rfl⟩)
        | (go_at_call 10; (with_reducible refine (writeN_c _ _ _ _ w2).mono ?_); rintro e w3 ⟨rfl, rfl⟩)
        | (go_at_call 15; (with_reducible refine (syncN_c w2).mono ?_); rintro e w3 ⟨rfl, rfl⟩)
        | (go_at_call 19; (with_reducible refine (crashN_c _ _ _ w2).mono ?_); rintro e w3 ⟨rfl, rfl⟩)
        | (go_at_call 24; (with_reducible refine (dirtyN_c w2).mono ?_); rintro e w3 ⟨rfl, rfl⟩))
      go_ret
      exact ⟨rfl, B2.out⟩
    · have hx2 : x > 4096 := by omega
      clear hx h0 h1
      go_enter Try.func7, Try.ntmps7
      go_wp2_with (first
        | (go_at_call 8; (with_reducible refine hN.mono ?_); rintro e w1 ⟨rfl, rfl⟩)
        | (go_at_call 22; (with_reducible refine (awake_c w).mono ?_); rintro e w2 ⟨rfl, B2⟩; have B2 := Lib.hid B2)
        | (go_at_call 25; (with_reducible refine (sectorsN_c w2).mono ?_); rintro e w3 ⟨rfl, rfl⟩)
        | (go_at_call 23; (with_reducible refine (deadN_c w2).mono ?_); rintro e w3 ⟨rfl, rfl⟩)
        | (go_at_call 10; (with_reducible refine (writeN_c _ _ _ _ w2).mono ?_); rintro e w3 ⟨rfl, rfl⟩)
        | (go_at_call 15; (with_reducible refine (syncN_c w2).mono ?_); rintro e w3 ⟨rfl, rfl⟩)
        | (go_at_call 19; (with_reducible refine (crashN_c _ _ _ w2).mono ?_); rintro e w3 ⟨rfl, rfl⟩)
        | (go_at_call 24; (with_reducible refine (dirtyN_c w2).mono ?_); rintro e w3 ⟨rfl, rfl⟩))
      go_ret
      exact ⟨rfl, B2.out⟩
end Go.Proofs.Ytbnomkcliejcaaa
