/-
  electionlaw15.same: the disk and the reference's disk agree in all.
-/
import Derived.Test.YtbnomkcliejcaaaDskRel
import Derived.Deep.Draws
import Derived.Deep.QuietTactic
import Derived.BigQuiet
namespace Go.Proofs.Ytbnomkcliejcaaa
open Go.RowKit Ds
attribute [local go_sem] Oper.semAt_some
set_option linter.unusedSimpArgs false

set_option maxHeartbeats 6400000 in
set_option maxRecDepth 100000 in
theorem same_c {w : World} {g a m c q s l t n sc lc tc K : Nat} {d : Dk} {r : Rf} (hD : Dsk w g a m c d) (hk : d.Ok n) (hR : RefD w q s l t n sc lc tc r) (hr : Rel n K d r) :
    Calls Try.prog 21 #[.pointer (some ⟨g, 0, none⟩), .pointer (some ⟨q, 0, none⟩)] w fun e w' => e = .returned (.bool true) ∧ Below w.heap.size w w' := by
  have hn := hk.max
  have bd : ∀ k, Below w.heap.size w (w.drewN k) := fun k => below_drewN (Below.refl _ _) k
  obtain ⟨_, k1, _, _, _, k5⟩ := hR.cells
  have hS : Hid (∀ k, Calls Try.prog 25 #[.pointer (some ⟨g, 0, none⟩)] (w.drewN k) fun e w' => e = .returned (.int .i64 (n : Int)) ∧ w' = w.drewN k) := fun k => (sectors_c (hD.below (bd k))).mono fun _ _ ⟨h1, h2⟩ => ⟨by rw [h1, hk.len], h2.symm⟩
  obtain ⟨N, hN⟩ : ∃ N, dirt d.old = N := ⟨_, rfl⟩
  have hDi : Hid (∀ k, Calls Try.prog 24 #[.pointer (some ⟨g, 0, none⟩)] (w.drewN k) fun e w' => e = .returned (.int .i64 (N : Int)) ∧ w' = w.drewN k) := fun k => (dirty_c (hD.below (bd k))).mono fun _ _ ⟨h1, h2⟩ => ⟨by rw [h1, hN], h2.symm⟩
  have hRd : Hid (∀ k, Calls Try.prog 34 #[.pointer (some ⟨q, 0, none⟩)] (w.drewN k) fun e w' => e = .returned (.int .i64 (N : Int)) ∧ w' = w.drewN k) := fun k => (rdirty_c (hR.below (bd k)) hn).mono fun _ _ ⟨h1, h2⟩ => ⟨by rw [h1, hr.dirt, dirt_count d.old 0, ← hN]; rfl, h2.symm⟩
  have hDe : Hid (∀ k, Calls Try.prog 23 #[.pointer (some ⟨g, 0, none⟩)] (w.drewN k) fun e w' => e = .returned (.bool d.dead) ∧ w' = w.drewN k) := fun k => (dead_c (hD.below (bd k))).mono fun _ _ ⟨h1, h2⟩ => ⟨h1, h2.symm⟩
  rw [hr.gone] at k5
  have HD := Lib.hid hD
  have HR := Lib.hid hR
  have Hk := Lib.hid hk
  have Hr := Lib.hid hr
  clear hD hR hr hN
  have hnn : n ≤ 4096 := hn
  clear hk
  cases hd : d.dead with
  | true =>
    rw [hd] at k5 hDe
    have hdr := Lib.hid hd
    clear hd
    go_enter Try.func21, Try.ntmps21
    go_wp2_with fail
    go_quiet ((first | (go_at_call 25; exact Calls.quiet_of_same (hS.out _)) | (go_at_call 24; exact Calls.quiet_of_same (hDi.out _)) | (go_at_call 34; exact Calls.quiet_of_same (hRd.out _)) | (go_at_call 23; exact Calls.quiet_of_same (hDe.out _))))
    have B0 : Hid (Below w.heap.size w (w.drewN nq)) := bd nq
    clear hS hDi hRd hDe bd k1 k5
    go_wp2_with fail
    go_loopw [5, 6, 7, 8, 9] (fun i _ _ _ _ wr => ∃ j : Nat, j ≤ n ∧ i = .int .i64 (j : Int) ∧ Hid (Below w.heap.size w wr)) (fun i _ _ _ _ _ => n - (intOf i).toNat)
    case atStart => exact ⟨0, by omega, rfl, B0⟩
    case round =>
      obtain ⟨u, hu⟩ : ∃ x, x = wr := ⟨_, rfl⟩
      subst hu
      obtain ⟨j, hj, rfl, B⟩ := hrel
      clear B0
      have DU := HD.out.below B.out
      have RU := HR.out.below B.out
      obtain ⟨_, k1, _, _, _, _⟩ := RU.cells
      by_cases hlt : j < n
      · have hlt' : (j : Int) < (n : Int) := by omega
        have hr1 := readDown_c DU hdr.out (j : Int)
        have hr2 := rreadDown_c RU (by rw [Hr.out.gone]; exact hdr.out) (j : Int)
        have hE := eqT_c (Lst.nil .u8 u) (Lst.nil .u8 u)
        clear DU RU
        go_wp2_with (first
          | (go_at_call 12; (with_reducible refine hr1.mono ?_); rintro e w2 ⟨rfl, rfl⟩)
          | (go_at_call 13; (with_reducible refine hr2.mono ?_); rintro e w3 ⟨rfl, rfl⟩)
          | (go_at_call 14; (with_reducible refine hE.mono ?_); rintro e w4 ⟨rfl, E4⟩; have B4 := Lib.hid (B.out.trans (E4.mono B.out.size)); clear E4))
        go_roundw
        case rel => exact ⟨j + 1, by omega, by go_num, B4⟩
        case measure => simp [intOf]; omega
      · have hlt' : ¬ (j : Int) < (n : Int) := by omega
        clear DU RU
        go_wp2_with fail
        go_ret
        exact ⟨rfl, B.out⟩
  | false =>
    rw [hd] at k5 hDe
    have hdr := Lib.hid hd
    clear hd
    go_enter Try.func21, Try.ntmps21
    go_wp2_with fail
    go_quiet ((first | (go_at_call 25; exact Calls.quiet_of_same (hS.out _)) | (go_at_call 24; exact Calls.quiet_of_same (hDi.out _)) | (go_at_call 34; exact Calls.quiet_of_same (hRd.out _)) | (go_at_call 23; exact Calls.quiet_of_same (hDe.out _))))
    have B0 : Hid (Below w.heap.size w (w.drewN nq)) := bd nq
    clear hS hDi hRd hDe bd k1 k5
    go_wp2_with fail
    go_loopw [5, 6, 7, 8, 9] (fun i _ _ _ _ wr => ∃ j : Nat, j ≤ n ∧ i = .int .i64 (j : Int) ∧ Hid (Below w.heap.size w wr)) (fun i _ _ _ _ _ => n - (intOf i).toNat)
    case atStart => exact ⟨0, by omega, rfl, B0⟩
    case round =>
      obtain ⟨u, hu⟩ : ∃ x, x = wr := ⟨_, rfl⟩
      subst hu
      obtain ⟨j, hj, rfl, B⟩ := hrel
      clear B0
      have DU := HD.out.below B.out
      have RU := HR.out.below B.out
      obtain ⟨_, k1, _, _, _, _⟩ := RU.cells
      by_cases hlt : j < n
      · have hlt' : (j : Int) < (n : Int) := by omega
        have hr1 := read_c DU Hk.out hdr.out j hlt
        have hgo : r.gone = false := by rw [Hr.out.gone]; exact hdr.out
        have RUh := Lib.hid RU
        clear DU RU
        go_wp2_with (first
          | (go_at_call 12; (with_reducible refine hr1.mono ?_); rintro e w2 ⟨ro, b, rfl, O2, B2⟩; have hr2 := rread_c (RUh.out.below B2) hgo j hlt; have L2 := Lib.hid O2.lst; replace B2 := Lib.hid B2; clear O2 hr1)
          | (go_at_call 13; (with_reducible refine hr2.mono ?_); rintro e w3 ⟨v, rfl, hB, rfl⟩; obtain ⟨p, cc, rfl, LB, _⟩ := hB; rw [Hr.out.last] at LB; have hE := eqT_c L2.out LB; clear LB hr2)
          | (go_at_call 14; (with_reducible refine hE.mono ?_); rintro e w4 ⟨rfl, E4⟩; have B4 := Lib.hid ((B.out.trans (B2.out.mono B.out.size)).trans (E4.mono (Nat.le_trans B.out.size B2.out.size))); clear E4))
        go_roundw
        case rel => exact ⟨j + 1, by omega, by go_num, B4⟩
        case measure => simp [intOf]; omega
      · have hlt' : ¬ (j : Int) < (n : Int) := by omega
        clear DU RU
        go_wp2_with fail
        go_ret
        exact ⟨rfl, B.out⟩
end Go.Proofs.Ytbnomkcliejcaaa
