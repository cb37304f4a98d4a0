/-
  nat.divideByWord.
-/
import Derived.Test.YtmojcnlddfijjaaGreatDoorNatNorm
import Derived.Deep.RegionLaw
namespace Go.Proofs.YtmojcnlddfijjaaGreatDoor
open Go.RowKit NatMath

set_option maxHeartbeats 1600000 in
theorem divideByWord_c (B : Nat) (ao : Option Addr) (n c : Nat) (xs : List Int) (wd : Nat) (w : World) (h : Own 66 .u32 B w ao n c xs) (h0 : 0 < wd) (h1 : wd ≤ 4294967295) :
    Calls Tryz.prog 73 #[.slice ao n c, .int .u32 wd] w fun e w' => ∃ ys, e = .returned (.int .u32 ((val xs % wd : Nat) : Int)) ∧ Own 66 .u32 B w' ao n c ys ∧ val ys = val xs / wd ∧ w.grownBy w' (Value.slice ao n c).ownBlock := by
  have hst := DivInv.start h.lst.ok h0 (n := n) (by rw [h.len]; exact Nat.le_refl _)
  have hlen := Lib.hid h.len
  have hroom := h.lst.room
  have hcap := h.lst.cap
  have H := h
  go_enter Tryz.func73, Tryz.ntmps73
  go_wp2_with fail
  go_loopw [5, 6] (fun s5 i wr => ∃ (j r : Nat) (D : List Int), j ≤ n ∧ i = .int .i64 ((j : Int) - 1) ∧ s5 = .int .u32 r ∧ DivInv xs D wd r j ∧ Own 66 .u32 B wr ao n c D ∧ w.grownBy wr (Value.slice ao n c).ownBlock)
    (fun _ i _ => (intOf i + 1).toNat)
  case atStart => exact ⟨n, 0, xs, Nat.le_refl _, rfl, rfl, hst, H, World.grownBy.refl _ _⟩
  case round =>
    obtain ⟨j, r, D, hj, rfl, rfl, hinv, ho, hg⟩ := hrel
    have hrl := hinv.lt
    by_cases hlt : 0 < j
    · have hia := ix ho.lst (j - 1) (by omega)
      rw [show ((j - 1 : Nat) : Int) = (j : Int) - 1 from by omega] at hia
      obtain ⟨x, HX, hx0, hx1, hcx⟩ := ho.lst.at (j - 1) (by omega)
      have hfz := ho.frozen (i := j - 1) (by omega)
      have hs := hinv.step hlt (by rw [hlen.out]; exact hj) HX.out h1
      have hq := hs.ok.getD (j - 1)
      have hqe : (D.set (j - 1) (((r : Int) * 4294967296 + x) / (wd : Int))).getD (j - 1) 0 = ((r : Int) * 4294967296 + x) / (wd : Int) := by
        have : j - 1 < D.length := by rw [ho.len]; omega
        simp [List.getD, this]
      rw [hqe] at hq
      have hr2 : ((((r : Int) * 4294967296 + x) % (wd : Int)).toNat : Int) = ((r : Int) * 4294967296 + x) % (wd : Int) := Int.toNat_of_nonneg (Int.emod_nonneg _ (by omega))
      have R1 := Lib.hid hs
      have R2 := Lib.hid (ho.set (i := j - 1) (by omega) (wf_u32 hq.1 hq.2))
      have R3 := Lib.hid (grown_trans hg (ho.setOnly (i := j - 1) (by omega) (.int .u32 (((r : Int) * 4294967296 + x) / (wd : Int)))))
      have R4 := Lib.hid hr2
      clear hs hq hqe hr2 hst H h
      go_wp2_with (go_at_call 87; refine (div32_c _ _ _ _ (by omega) (by omega) (by omega) (by omega) (by omega)).mono ?_; rintro e w' ⟨rfl, q, rfl⟩)
      go_roundw
      case rel => exact ⟨j - 1, (((r : Int) * 4294967296 + x) % (wd : Int)).toNat, _, by omega, by go_num, by rw [R4.out], R1.out, R2.out, grown_drewN_set R3.out q⟩
      case measure => simp [intOf]; omega
    · obtain rfl : j = 0 := by omega
      have hd := hinv.done
      have HD := Lib.hid hd; clear hd
      go_wp2_with fail
      go_ret
      exact ⟨D, by rw [← HD.out.2]; rfl, ho, HD.out.1, hg⟩
end Go.Proofs.YtmojcnlddfijjaaGreatDoor
