/-
  DiskFuse.
-/
import Derived.Test.YtbnomkcliejcaaaDskLaw1
namespace Go.Proofs.Ytbnomkcliejcaaa
open Go.RowKit Ds
attribute [local go_sem] Oper.semAt_some
set_option linter.unusedSimpArgs false

theorem and15 (n : Int) : bits .and .i64 n 15 = n % 16 := by
  have h15 : (BitVec.ofInt 64 15).toNat = 2 ^ 4 - 1 := by decide
  have key : (BitVec.ofInt 64 n &&& BitVec.ofInt 64 15).toNat = (n % ((2 ^ 64 : Nat) : Int)).toNat % 2 ^ 4 := by
    rw [BitVec.toNat_and, BitVec.toNat_ofInt, h15, Nat.and_two_pow_sub_one_eq_mod]
  show IntKind.i64.wrap ((BitVec.ofInt 64 n &&& BitVec.ofInt 64 15).toNat : Nat) = n % 16
  rw [key, IntKind.wrap_i64]
  omega
theorem and1 (n : Int) : bits .and .i64 n 1 = n % 2 := by
  have h1 : (BitVec.ofInt 64 1).toNat = 2 ^ 1 - 1 := by decide
  have key : (BitVec.ofInt 64 n &&& BitVec.ofInt 64 1).toNat = (n % ((2 ^ 64 : Nat) : Int)).toNat % 2 ^ 1 := by
    rw [BitVec.toNat_and, BitVec.toNat_ofInt, h1, Nat.and_two_pow_sub_one_eq_mod]
  show IntKind.i64.wrap ((BitVec.ofInt 64 n &&& BitVec.ofInt 64 1).toNat : Nat) = n % 2
  rw [key, IntKind.wrap_i64]
  omega
/-- A disk of two sectors, with a fuse of the length N, before the call number j. -/
def FuseI (N j : Nat) (d : Dk) : Prop := d.Ok 2 ∧ d.fused = true ∧ ((j ≤ N ∧ d.dead = false ∧ d.fuse = (N : Int) - j) ∨ (N < j ∧ d.dead = true))
theorem burn_lit {d : Dk} (h : d.fused = true) (h0 : ¬ d.fuse = 0) : d.burn = (true, { d with fuse := d.fuse - 1 }) := by unfold Dk.burn; rw [if_pos h, if_neg h0]
theorem burn_out {d : Dk} (h : d.fused = true) (h0 : d.fuse = 0) : d.burn = (false, { d with dead := true }) := by unfold Dk.burn; rw [if_pos h, if_pos h0]
theorem fuse_write {N j : Nat} {d : Dk} (h : FuseI N j d) {x v : Int} (hx : 0 ≤ x ∧ x < 2) (h0 : 0 ≤ v) (h1 : v ≤ 255) : (d.write x [v]).1 = (if N ≤ j then 12 else 0) ∧ FuseI N (j + 1) (d.write x [v]).2 ∧ (d.write x [v]).2.dead = decide (N ≤ j) := by
  obtain ⟨hk, hf, hr⟩ := h
  have hok := hk.write x (one_bytes h0 h1)
  have hxl : 0 ≤ x ∧ x < d.cur.length := by rw [hk.len]; exact hx
  have hl : ([v] : List Int).length ≤ 64 := by simp
  rcases hr with ⟨hj, hd, hz⟩ | ⟨hj, hd⟩
  · by_cases hjn : j = N
    · subst hjn
      have h0' : d.fuse = 0 := by omega
      have e : d.write x [v] = (12, { d with dead := true }) := by
        unfold Dk.write
        rw [hd, if_pos hxl, if_pos hl, burn_out hf h0']
        rfl
      rw [e] at hok ⊢
      exact ⟨by rw [if_pos (Nat.le_refl _)], ⟨hok, hf, Or.inr ⟨by omega, rfl⟩⟩, by simp⟩
    · have h0' : ¬ d.fuse = 0 := by omega
      have e : d.write x [v] = (0, ({ d with fuse := d.fuse - 1 } : Dk).put x.toNat [v]) := by
        unfold Dk.write
        rw [if_neg (show ¬ d.dead = true by rw [hd]; decide), if_pos hxl, if_pos hl, burn_lit hf h0']
        rfl
      rw [e] at hok ⊢
      have hnle : ¬ N ≤ j := by omega
      exact ⟨by rw [if_neg hnle], ⟨hok, hf, Or.inl ⟨by omega, hd, by show d.fuse - 1 = _; omega⟩⟩, by rw [decide_eq_false hnle]; exact hd⟩
  · have e : d.write x [v] = (12, d) := by
      unfold Dk.write
      rw [hd]
      rfl
    rw [e] at hok ⊢
    have hle : N ≤ j := by omega
    exact ⟨by rw [if_pos hle], ⟨hok, hf, Or.inr ⟨by omega, hd⟩⟩, by rw [decide_eq_true hle]; exact hd⟩
theorem fuse_sync {N j : Nat} {d : Dk} (h : FuseI N j d) : d.sync.1 = (if N ≤ j then 12 else 0) ∧ FuseI N (j + 1) d.sync.2 ∧ d.sync.2.dead = decide (N ≤ j) := by
  obtain ⟨hk, hf, hr⟩ := h
  have hok := hk.sync
  rcases hr with ⟨hj, hd, hz⟩ | ⟨hj, hd⟩
  · by_cases hjn : j = N
    · subst hjn
      have h0' : d.fuse = 0 := by omega
      have e : d.sync = (12, { d with dead := true }) := by
        unfold Dk.sync
        rw [hd, burn_out hf h0']
        rfl
      rw [e] at hok ⊢
      exact ⟨by rw [if_pos (Nat.le_refl _)], ⟨hok, hf, Or.inr ⟨by omega, rfl⟩⟩, by simp⟩
    · have h0' : ¬ d.fuse = 0 := by omega
      have e : d.sync = (0, ({ d with fuse := d.fuse - 1 } : Dk).wipe) := by
        unfold Dk.sync
        rw [if_neg (show ¬ d.dead = true by rw [hd]; decide), burn_lit hf h0']
        rfl
      rw [e] at hok ⊢
      have hnle : ¬ N ≤ j := by omega
      exact ⟨by rw [if_neg hnle], ⟨hok, hf, Or.inl ⟨by omega, hd, by show d.fuse - 1 = _; omega⟩⟩, by rw [decide_eq_false hnle]; exact hd⟩
  · have e : d.sync = (12, d) := by
      unfold Dk.sync
      rw [hd]
      rfl
    rw [e] at hok ⊢
    have hle : N ≤ j := by omega
    exact ⟨by rw [if_pos hle], ⟨hok, hf, Or.inr ⟨by omega, hd⟩⟩, by rw [decide_eq_true hle]; exact hd⟩
theorem fuseN_c {w0 w : World} {g a m c : Nat} {d : Dk} (h : DskN w0 w g a m c d) (x : Int) : Calls Try.prog 17 #[.pointer (some ⟨g, 0, none⟩), .int .i64 x] w fun e w' => e = .returned (.tuple #[]) ∧ DskN w0 w' g a m c (d.light x) :=
  (fuse_c h.dsk x).mono fun _ _ ⟨r1, r2, r3, _⟩ => ⟨r1, h.off r2 r3⟩
set_option maxHeartbeats 6400000 in
set_option maxRecDepth 100000 in
theorem fuseLaw_c (x : Int) (co : Option Addr) (cn cc : Nat) (cs : List Bool) (w : World) (_h0 : -9223372036854775808 ≤ x) (_h1 : x ≤ 9223372036854775807) (hC : LstT w co cn cc cs) : Calls Try.prog 5 #[.int .i64 x, .slice co cn cc] w fun e w' => e = .returned (.bool true) ∧ Below w.heap.size w w' := by
  obtain ⟨N, hN, hN15⟩ : ∃ N : Nat, bits .and .i64 x 15 = (N : Int) ∧ N ≤ 15 := ⟨(x % 16).toNat, by rw [and15]; omega, by omega⟩
  have hNew : Calls Try.prog 8 #[.int .i64 2] w fun e w' => e = .returned (.pointer (some ⟨w.heap.size + 2, 0, none⟩)) ∧ Hid (DskN w w' (w.heap.size + 2) w.heap.size (w.heap.size + 1) 2 (Ds.blank 2)) := newN_c 2 (by omega) (by omega) w
  have hFu : ∀ W, Hid (DskN w W (w.heap.size + 2) w.heap.size (w.heap.size + 1) 2 (Ds.blank 2)) → Calls Try.prog 17 #[.pointer (some ⟨w.heap.size + 2, 0, none⟩), .int .i64 (N : Int)] W fun e w' =>
      e = .returned (.tuple #[]) ∧ Hid (DskN w w' (w.heap.size + 2) w.heap.size (w.heap.size + 1) 2 ((Ds.blank 2).light N)) := fun W h => fuseN_c h.out N
  have hI0 : Hid (FuseI N 0 ((Ds.blank 2).light N)) := ⟨(blank_ok (by omega) (by omega)).light (by omega) (by omega), by simp [Dk.light], Or.inl ⟨Nat.zero_le _, rfl, by simp [Dk.light]⟩⟩
  have HC := Lib.hid hC
  have hcap := hC.cap
  have hroom := hC.room
  clear hC
  go_enter Try.func5, Try.ntmps5
  go_wp2_with (first
    | (go_at_call 8; (with_reducible refine hNew.mono ?_); rintro e w1 ⟨rfl, D1⟩)
    | (go_at_call 17; (with_reducible refine (hFu w1 D1).mono ?_); rintro e w2 ⟨rfl, D2⟩))
  clear hNew hFu D1
  go_loopw [6, 7, 8] (fun i _ _ wr => ∃ (j : Nat) (d : Dk), j ≤ 30 ∧ i = .int .i64 (j : Int) ∧ Hid (DskN w wr (w.heap.size + 2) w.heap.size (w.heap.size + 1) 2 d) ∧ Hid (FuseI N j d)) (fun i _ _ _ => 30 - (intOf i).toNat)
  case atStart => exact ⟨0, _, by omega, rfl, D2, hI0⟩
  case round =>
    obtain ⟨u, hu⟩ : ∃ x, x = wr := ⟨_, rfl⟩
    subst hu
    obtain ⟨j, d, hj, rfl, D, I⟩ := hrel
    clear D2 hI0
    by_cases hlt : j < cn ∧ j < 30
    · obtain ⟨l1, l2⟩ := hlt
      have l1' : (j : Int) < (cn : Int) := by omega
      have l2' : (j : Int) < 30 := by omega
      have CL := HC.out.below D.out.bel
      have hix := ixT HC.out j l1
      have hcell := CL.cell j l1
      obtain ⟨bb, hbb⟩ : ∃ bb, cs.getD j false = bb := ⟨_, rfl⟩
      rw [hbb] at hcell
      clear CL hbb
      cases bb with
      | true =>
        obtain ⟨s1, s2, s3⟩ := fuse_sync I.out
        have hY := syncN2_c D.out I.out.1
        rw [s1] at hY
        have hdd : ∀ W, Hid (DskN w W (w.heap.size + 2) w.heap.size (w.heap.size + 1) 2 d.sync.2) → Calls Try.prog 23 #[.pointer (some ⟨w.heap.size + 2, 0, none⟩)] W fun e w' => e = .returned (.bool (decide (N ≤ j))) ∧ W = w' := fun W h => by
          have := dead_c h.out.dsk
          rw [s3] at this
          exact this
        have s4 := Lib.hid s2
        clear s1 s2 s3
        by_cases hge : N ≤ j
        · have hge' : (j : Int) ≥ (N : Int) := by omega
          rw [if_pos hge] at hY
          rw [decide_eq_true hge] at hdd
          go_wp2_with (first
            | (go_at_call 15; (with_reducible refine hY.mono ?_); rintro e w3 ⟨rfl, D3⟩; have D3 := Lib.hid D3)
            | (go_at_call 23; (with_reducible refine (hdd w3 D3).mono ?_); rintro e w4 ⟨rfl, rfl⟩))
          go_roundw
          case rel => exact ⟨j + 1, _, by omega, by go_num, D3, s4⟩
          case measure => simp [intOf]; omega
        · have hge' : ¬ (j : Int) ≥ (N : Int) := by omega
          rw [if_neg hge] at hY
          rw [decide_eq_false hge] at hdd
          go_wp2_with (first
            | (go_at_call 15; (with_reducible refine hY.mono ?_); rintro e w3 ⟨rfl, D3⟩; have D3 := Lib.hid D3)
            | (go_at_call 23; (with_reducible refine (hdd w3 D3).mono ?_); rintro e w4 ⟨rfl, rfl⟩))
          go_roundw
          case rel => exact ⟨j + 1, _, by omega, by go_num, D3, s4⟩
          case measure => simp [intOf]; omega
      | false =>
        obtain ⟨v, hv⟩ : ∃ v : Int, v = (j : Int) % 2 := ⟨_, rfl⟩
        have ha1 : bits .and .i64 (j : Int) 1 = v := by rw [and1, hv]
        have hw8 : IntKind.u8.wrap (j : Int) = (j : Int) := by rw [IntKind.wrap_u8]; omega
        have hv2 : 0 ≤ v ∧ v < 2 := by omega
        obtain ⟨s1, s2, s3⟩ := fuse_write I.out (x := v) (v := (j : Int)) hv2 (by omega) (by omega)
        have hY := write1_c (0, 0) D.out I.out.1 v (j : Int) (by omega) (by omega)
        rw [s1] at hY
        have hdd : ∀ W, Hid (DskN w W (w.heap.size + 2) w.heap.size (w.heap.size + 1) 2 (d.write v [(j : Int)]).2) → Calls Try.prog 23 #[.pointer (some ⟨w.heap.size + 2, 0, none⟩)] W fun e w' => e = .returned (.bool (decide (N ≤ j))) ∧ W = w' := fun W h => by
          have := dead_c h.out.dsk
          rw [s3] at this
          exact this
        have s4 := Lib.hid s2
        clear s1 s2 s3 hv hv2
        by_cases hge : N ≤ j
        · have hge' : (j : Int) ≥ (N : Int) := by omega
          rw [if_pos hge] at hY
          rw [decide_eq_true hge] at hdd
          go_wp2_with (first
            | (go_at_call 10; (with_reducible refine hY.mono ?_); rintro e w3 ⟨rfl, D3⟩; have D3 := Lib.hid D3)
            | (go_at_call 23; (with_reducible refine (hdd w3 D3).mono ?_); rintro e w4 ⟨rfl, rfl⟩))
          go_roundw
          case rel => exact ⟨j + 1, _, by omega, by go_num, D3, s4⟩
          case measure => simp [intOf]; omega
        · have hge' : ¬ (j : Int) ≥ (N : Int) := by omega
          rw [if_neg hge] at hY
          rw [decide_eq_false hge] at hdd
          go_wp2_with (first
            | (go_at_call 10; (with_reducible refine hY.mono ?_); rintro e w3 ⟨rfl, D3⟩; have D3 := Lib.hid D3)
            | (go_at_call 23; (with_reducible refine (hdd w3 D3).mono ?_); rintro e w4 ⟨rfl, rfl⟩))
          go_roundw
          case rel => exact ⟨j + 1, _, by omega, by go_num, D3, s4⟩
          case measure => simp [intOf]; omega
    · have hend : ¬ (j : Int) < (cn : Int) ∨ (j : Int) < (cn : Int) ∧ ¬ (j : Int) < 30 := by omega
      have B := Lib.hid D.out.bel
      rcases hend with h1 | ⟨h1, h2⟩
      · clear hlt
        go_wp2_with (go_at_call 22; (with_reducible refine (awake_c u).mono ?_); rintro e w4 ⟨rfl, B4⟩; have hB := Lib.hid (B.out.trans (B4.mono B.out.size)); clear B4)
        go_ret
        exact ⟨rfl, hB.out⟩
      · clear hlt
        go_wp2_with (go_at_call 22; (with_reducible refine (awake_c u).mono ?_); rintro e w4 ⟨rfl, B4⟩; have hB := Lib.hid (B.out.trans (B4.mono B.out.size)); clear B4)
        go_ret
        exact ⟨rfl, hB.out⟩
end Go.Proofs.Ytbnomkcliejcaaa
