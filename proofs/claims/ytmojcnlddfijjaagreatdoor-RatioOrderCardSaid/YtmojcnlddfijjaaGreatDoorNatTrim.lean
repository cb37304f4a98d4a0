/-
  nat.trim.
-/
import Derived.Test.YtmojcnlddfijjaaGreatDoorNatBase
import Derived.BigQuiet
import Derived.Outline
namespace Go.Proofs.YtmojcnlddfijjaaGreatDoor
open Go.RowKit NatMath

theorem size60 : (Tryz.prog.info? 66).map (·.size) = some 1 := by kernel_rfl

set_option maxHeartbeats 400000 in
theorem trim_c (ao : Option Addr) (n c : Nat) (xs : List Int) (w : World) (h : Lst .u32 w ao n c xs) :
    Calls Tryz.prog 65 #[.slice ao n c] w fun e w' => w = w' ∧ ∃ ao' n' c', e = .returned (.slice ao' n' c') ∧ Lst .u32 w ao' n' c' (limbs (val xs)) ∧ Head ao c ao' n' c' := by
  have hroom := h.room
  have hcap := h.cap
  go_enter Tryz.func65, Tryz.ntmps65
  go_wp2
  go_loop [3] (fun i => ∃ m : Nat, m ≤ n ∧ i = .int .i64 m ∧ ∀ j, m ≤ j → xs.getD j 0 = 0) (fun i => (intOf i).toNat)
  case atStart => exact ⟨n, Nat.le_refl _, rfl, fun j hj => by simp [List.getD, List.getElem?_eq_none (show xs.length ≤ j by rw [h.len]; omega)]⟩
  case round =>
    obtain ⟨m, hm, rfl, hz⟩ := hrel
    by_cases h0 : 0 < m
    · have hix : ∀ W, (Instr.indexAt 23 (.slice ao n c) (.int .i64 ((m : Int) - 1))).run Tryz.prog W = .ok (.pointer (some (pt ao (m - 1)))) W := fun W => by
        have := run_index (P := Tryz.prog) Tryz.underlying23 size60 h (m - 1) (by omega) W
        rwa [show ((m - 1 : Nat) : Int) = (m : Int) - 1 from by omega] at this
      obtain ⟨x, HX, hx0, hx1, hcl⟩ := h.at (m - 1) (by omega)
      have HZ := Lib.hid hz; clear hz
      by_cases hx : x = 0
      · subst hx
        go_wp2
        go_round
        case rel => exact ⟨m - 1, by omega, by go_num, fun j hj => by
          by_cases e : j = m - 1
          · rw [e]; exact HX.out.symm
          · exact HZ.out j (by omega)⟩
        case measure => simp [intOf]; omega
      · have hb : (x == 0) = false := by simpa using hx
        have e : limbs (val xs) = xs.take m := trimL_eq_take h.ok m (by rw [h.len]; exact hm) HZ.out (Or.inr (by rw [← HX.out]; exact hx))
        have HE := Lib.hid e; clear e
        go_wp2
        go_ret
        exact ⟨rfl, ao, m, c, rfl, by rw [HE.out]; exact h.take hm, Or.inr ⟨rfl, rfl⟩⟩
    · obtain rfl : m = 0 := by omega
      have e : limbs (val xs) = [] := by
        rw [trimL_eq_take h.ok 0 (Nat.zero_le _) (fun j _ => hz j (Nat.zero_le _)) (Or.inl rfl)]; rfl
      have HE := Lib.hid e; clear e
      have HZ := Lib.hid hz; clear hz
      go_wp2
      go_ret
      exact ⟨rfl, none, 0, 0, rfl, by rw [HE.out]; exact Lst.nil _ _, Or.inl ⟨rfl, rfl, rfl⟩⟩
end Go.Proofs.YtmojcnlddfijjaaGreatDoor
