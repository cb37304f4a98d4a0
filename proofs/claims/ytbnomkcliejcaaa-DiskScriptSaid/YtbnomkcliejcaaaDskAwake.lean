/-
  The chapter's example: electionlaw15.Awake.
-/
import Derived.Test.YtbnomkcliejcaaaDskCrash
import Derived.Lib.SlBytesConst
namespace Go.Proofs.Ytbnomkcliejcaaa
open Go.RowKit Ds
attribute [local go_sem] Oper.semAt_some
set_option linter.unusedSimpArgs false

/-- A disk since the world w0: all of it new. -/
structure DskN (w0 w : World) (g a m c : Nat) (d : Dk) : Prop where
  dsk : Dsk w g a m c d
  g0 : w0.heap.size ≤ g
  a0 : w0.heap.size ≤ a
  m0 : w0.heap.size ≤ m
  bel : Below w0.heap.size w0 w
section
variable {w0 w w' : World} {g a m c n : Nat} {d d' : Dk}
theorem DskN.off (h : DskN w0 w g a m c d) (hD : Dsk w' g a m c d') (hO : Off g a m w w') : DskN w0 w' g a m c d' := ⟨hD, h.g0, h.a0, h.m0, hO.below h.bel h.bel.size h.g0 h.a0 h.m0⟩
theorem DskN.below (h : DskN w0 w g a m c d) (hb : Below w.heap.size w w') : DskN w0 w' g a m c d := ⟨h.dsk.below hb, h.g0, h.a0, h.m0, h.bel.trans (hb.mono h.bel.size)⟩
theorem newN_c (n : Nat) (h1 : 1 ≤ n) (h2 : n ≤ 4096) (w : World) : Calls Try.prog 8 #[.int .i64 (n : Int)] w fun e w' => e = .returned (.pointer (some ⟨w.heap.size + 2, 0, none⟩)) ∧ DskN w w' (w.heap.size + 2) w.heap.size (w.heap.size + 1) n (Ds.blank n) :=
  (new_c n h1 h2 w).mono fun _ _ ⟨r1, r2, r3, _⟩ => ⟨r1, r2, by omega, Nat.le_refl _, by omega, r3⟩
theorem one_lstF (w : World) (x : Int) (fr : Nat × Nat) (h0 : 0 ≤ x) (h1 : x ≤ 255) : Lst .u8 (w.alloc (.cells #[.int .u8 x] 5 fr)) (some ⟨w.heap.size, 0, none⟩) 1 1 [x] := by
  refine ⟨rfl, Nat.le_refl _, by omega, fun _ => ⟨_, rfl⟩, fun i hi => ?_, fun y hy => ?_⟩
  · obtain rfl : i = 0 := by omega
    rw [pt_own]
    have hh : (w.alloc (.cells #[.int .u8 x] 5 fr)).heap[w.heap.size]? = some (.cells #[.int .u8 x] 5 fr) := heap_alloc_last w _
    unfold World.cell?
    rw [hh]
    rfl
  · rw [List.mem_singleton.1 hy]; exact wf_u8 h0 h1
/-- A Write of one byte, in a slice that has just been made. -/
theorem write1_c (fr : Nat × Nat) (h : DskN w0 w g a m c d) (hk : d.Ok n) (x v : Int) (h0 : 0 ≤ v) (h1 : v ≤ 255) :
    Calls Try.prog 10 #[.pointer (some ⟨g, 0, none⟩), .int .i64 x, .slice (some ⟨w.heap.size, 0, none⟩) 1 1] (w.alloc (.cells #[.int .u8 v] 5 fr)) fun e w' =>
      e = .returned (.int .i64 (d.write x [v]).1) ∧ DskN w0 w' g a m c (d.write x [v]).2 := by
  have b1 : Below w.heap.size w (w.alloc (.cells #[.int .u8 v] 5 fr)) := (Below.refl _ _).alloc (Nat.le_refl _) _
  have h' := h.below b1
  have ha := h.dsk.secs.lt
  refine (write_c h'.dsk hk x (one_lstF w v fr h0 h1) (fun j _ => ?_)).mono fun _ _ ⟨r1, r2, r3⟩ => ⟨r1, h'.off r2 r3⟩
  show (pt (some ⟨w.heap.size, 0, none⟩) j).block ≠ a
  rw [pt_own]
  show w.heap.size ≠ a
  omega
theorem syncN2_c (h : DskN w0 w g a m c d) (hk : d.Ok n) : Calls Try.prog 15 #[.pointer (some ⟨g, 0, none⟩)] w fun e w' => e = .returned (.int .i64 d.sync.1) ∧ DskN w0 w' g a m c d.sync.2 :=
  (sync_c h.dsk hk).mono fun _ _ ⟨r1, r2, r3, _⟩ => ⟨r1, h.off r2 r3⟩
theorem oneT_lst (w : World) (b : Bool) : LstT (w.alloc (.cells #[.bool b] 4)) (some ⟨w.heap.size, 0, none⟩) 1 1 [b] := by
  refine ⟨rfl, Nat.le_refl _, by omega, fun _ => ⟨_, rfl⟩, fun i hi => ?_⟩
  obtain rfl : i = 0 := by omega
  rw [pt_own]
  exact (Arr.new w 4 [.bool b]).cell 0
/-- Crash with one bool: another disk, the first one as it was. -/
theorem crash1_c (h : DskN w0 w g a m c d) (hk : d.Ok n) (b : Bool) :
    Calls Try.prog 19 #[.pointer (some ⟨g, 0, none⟩), .slice (some ⟨w.heap.size, 0, none⟩) 1 1] (w.alloc (.cells #[.bool b] 4)) fun e w' =>
      ∃ g' a' m' c', e = .returned (.pointer (some ⟨g', 0, none⟩)) ∧ DskN w0 w' g' a' m' c' (d.crash [b]) ∧ w.heap.size ≤ g' ∧ w.heap.size ≤ a' ∧ w.heap.size ≤ m' ∧ Below w.heap.size w w' := by
  have b1 : Below w.heap.size w (w.alloc (.cells #[.bool b] 4)) := (Below.refl _ _).alloc (Nat.le_refl _) _
  have hz := b1.size
  have hz0 := h.bel.size
  refine (crash_c (h.below b1).dsk hk (oneT_lst w b)).mono fun _ _ hh => ?_
  obtain ⟨g', a', m', c', r1, r2, r3, r4, r5, r6⟩ := hh
  exact ⟨g', a', m', c', r1, ⟨r2, by omega, by omega, by omega, (h.bel.trans (b1.mono hz0)).trans (r6.mono (by omega))⟩, by omega, by omega, by omega, b1.trans (r6.mono hz)⟩
end
set_option maxHeartbeats 6400000 in
set_option maxRecDepth 100000 in
theorem awake_c (w : World) : Calls Try.prog 22 #[] w fun e w' => e = .returned (.bool true) ∧ Below w.heap.size w w' := by
  have hN : Calls Try.prog 8 #[.int .i64 5] w fun e w' => e = .returned (.pointer (some ⟨w.heap.size + 2, 0, none⟩)) ∧ Hid (DskN w w' (w.heap.size + 2) w.heap.size (w.heap.size + 1) 5 (Ds.blank 5)) := newN_c 5 (by omega) (by omega) w
  have hS : ∀ W, Hid (DskN w W (w.heap.size + 2) w.heap.size (w.heap.size + 1) 5 (Ds.blank 5)) → Calls Try.prog 25 #[.pointer (some ⟨w.heap.size + 2, 0, none⟩)] W fun e w' => e = .returned (.int .i64 5) ∧ W = w' := fun W h => sectors_c h.out.dsk
  have hW1 : ∀ W, Hid (DskN w W (w.heap.size + 2) w.heap.size (w.heap.size + 1) 5 (Ds.blank 5)) → Calls Try.prog 10 #[.pointer (some ⟨w.heap.size + 2, 0, none⟩), .int .i64 3, .slice (some ⟨W.heap.size, 0, none⟩) 1 1] (W.alloc (.cells #[.int .u8 97] 5 (1, 2))) fun e w' =>
      e = .returned (.int .i64 0) ∧ Hid (DskN w w' (w.heap.size + 2) w.heap.size (w.heap.size + 1) 5 ex1) := fun W h => by have := write1_c (1, 2) h.out (blank_ok (by omega) (by omega)) 3 97 (by omega) (by omega); rw [ex1_out] at this; exact this
  have hY : ∀ W, Hid (DskN w W (w.heap.size + 2) w.heap.size (w.heap.size + 1) 5 ex1) → Calls Try.prog 15 #[.pointer (some ⟨w.heap.size + 2, 0, none⟩)] W fun e w' =>
      e = .returned (.int .i64 0) ∧ Hid (DskN w w' (w.heap.size + 2) w.heap.size (w.heap.size + 1) 5 ex2) := fun W h => by have := syncN2_c h.out ex1_ok; rw [ex2_out] at this; exact this
  have hW2 : ∀ W, Hid (DskN w W (w.heap.size + 2) w.heap.size (w.heap.size + 1) 5 ex2) → Calls Try.prog 10 #[.pointer (some ⟨w.heap.size + 2, 0, none⟩), .int .i64 3, .slice (some ⟨W.heap.size, 0, none⟩) 1 1] (W.alloc (.cells #[.int .u8 98] 5 (1, 2))) fun e w' =>
      e = .returned (.int .i64 0) ∧ Hid (DskN w w' (w.heap.size + 2) w.heap.size (w.heap.size + 1) 5 ex3) := fun W h => by have := write1_c (1, 2) h.out ex2_ok 3 98 (by omega) (by omega); rw [ex3_out] at this; exact this
  have hW3 : ∀ W, Hid (DskN w W (w.heap.size + 2) w.heap.size (w.heap.size + 1) 5 ex3) → Calls Try.prog 10 #[.pointer (some ⟨w.heap.size + 2, 0, none⟩), .int .i64 1, .slice (some ⟨W.heap.size, 0, none⟩) 1 1] (W.alloc (.cells #[.int .u8 99] 5 (1, 2))) fun e w' =>
      e = .returned (.int .i64 0) ∧ Hid (DskN w w' (w.heap.size + 2) w.heap.size (w.heap.size + 1) 5 ex4) := fun W h => by have := write1_c (1, 2) h.out ex3_ok 1 99 (by omega) (by omega); rw [ex4_out] at this; exact this
  have hC : ∀ W, Hid (DskN w W (w.heap.size + 2) w.heap.size (w.heap.size + 1) 5 ex4) → Calls Try.prog 19 #[.pointer (some ⟨w.heap.size + 2, 0, none⟩), .slice (some ⟨W.heap.size, 0, none⟩) 1 1] (W.alloc (.cells #[.bool true] 4)) fun e w' =>
      ∃ g a m c, e = .returned (.pointer (some ⟨g, 0, none⟩)) ∧ Hid (DskN w w' g a m c ex5) ∧ Hid (DskN w w' (w.heap.size + 2) w.heap.size (w.heap.size + 1) 5 ex4) := fun W h => (crash1_c h.out ex4_ok true).mono fun _ _ ⟨g, a, m, c, r1, r2, _, _, _, r3⟩ => ⟨g, a, m, c, r1, r2, h.out.below r3⟩
  have hR : ∀ (i : Nat) (v : Int), i < 5 → (ex5.cur.getD i []).getD 0 0 = v → ∀ W g a m c, Hid (DskN w W g a m c ex5) → Hid (DskN w W (w.heap.size + 2) w.heap.size (w.heap.size + 1) 5 ex4) → Calls Try.prog 12 #[.pointer (some ⟨g, 0, none⟩), .int .i64 (i : Int)] W fun e w' =>
      ∃ ro b, e = .returned (.tuple #[.slice ro 64 b, .int .i64 0]) ∧ w'.cell? (pt ro 0) = some (.int .u8 v) ∧ (∀ W, (Instr.indexAt 27 (.slice ro 64 b) (.int .i64 0)).run Try.prog W = .ok (.pointer (some (pt ro 0))) W) ∧ Hid (DskN w w' g a m c ex5) ∧ Hid (DskN w w' (w.heap.size + 2) w.heap.size (w.heap.size + 1) 5 ex4) ∧ Hid (Below W.heap.size W w') := fun i v hi hv W g a m c h h' =>
    (read_c h.out.dsk ex5_ok ex5_live i hi).mono fun _ _ ⟨ro, b, r1, r2, r3⟩ => ⟨ro, b, r1, by rw [r2.lst.cell 0 (by omega), hv], ix8 r2.lst 0 0 rfl (by omega), h.out.below r3, h'.out.below r3, r3⟩
  have hR1 : ∀ W g a m c, _ → _ → Calls Try.prog 12 #[.pointer (some ⟨g, 0, none⟩), .int .i64 1] W _ := hR 1 99 (by omega) ex5_one
  have hR3 : ∀ W g a m c, _ → _ → Calls Try.prog 12 #[.pointer (some ⟨g, 0, none⟩), .int .i64 3] W _ := hR 3 97 (by omega) ex5_three
  have hD : ∀ W, Hid (DskN w W (w.heap.size + 2) w.heap.size (w.heap.size + 1) 5 ex4) → Calls Try.prog 24 #[.pointer (some ⟨w.heap.size + 2, 0, none⟩)] W fun e w' => e = .returned (.int .i64 2) ∧ W = w' := fun W h => by have := dirty_c h.out.dsk; rw [ex4_dirt] at this; exact this
  clear hR
  have kc := fun (w : World) (C : Array Value) (n c : Nat) => Lib.run_convert_bytes_const (P := Try.prog) w 27 5 C n c Try.underlying27 Try.underlying5
  go_enter Try.func22, Try.ntmps22
  go_wp2_with (first
    | (go_at_call 8; (with_reducible refine hN.mono ?_); rintro e w1 ⟨rfl, D1⟩)
    | (go_at_call 25; (with_reducible refine (hS w1 D1).mono ?_); rintro e w1' ⟨rfl, rfl⟩)
    | (go_at_call 10; (with_reducible refine (hW1 w1 D1).mono ?_); rintro e w2 ⟨rfl, D2⟩)
    | (go_at_call 15; (with_reducible refine (hY w2 D2).mono ?_); rintro e w3 ⟨rfl, D3⟩)
    | (go_at_call 10; (with_reducible refine (hW2 w3 D3).mono ?_); rintro e w4 ⟨rfl, D4⟩)
    | (go_at_call 10; (with_reducible refine (hW3 w4 D4).mono ?_); rintro e w5 ⟨rfl, D5⟩)
    | (go_at_call 19; (with_reducible refine (hC w5 D5).mono ?_); rintro e w6 ⟨g, a, m, c, rfl, D6, D7⟩)
    | (go_at_call 12; (with_reducible refine (hR1 w6 g a m c D6 D7).mono ?_); rintro e w7 ⟨ro, b, rfl, x1, x2, D8, D9, _⟩)
    | (go_at_call 12; (with_reducible refine (hR3 w7 g a m c D8 D9).mono ?_); rintro e w8 ⟨so, b', rfl, y1, y2, D10, D11, B8⟩; have x3 := (World.cell?_of_block (B8.out.block _ (World.block_lt_of_cell? w7 _ x1))).trans x1)
    | (go_at_call 24; (with_reducible refine (hD w8 D11).mono ?_); rintro e w9 ⟨rfl, rfl⟩))
  go_ret
  exact ⟨rfl, D11.out.bel⟩
end Go.Proofs.Ytbnomkcliejcaaa
