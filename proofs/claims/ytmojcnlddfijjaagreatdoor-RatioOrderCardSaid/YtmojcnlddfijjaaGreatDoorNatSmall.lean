/-
  electionref01: Small.
-/
import Derived.Deep.RegionHeld3
import Derived.Deep.RegionLaw
import Derived.Test.YtmojcnlddfijjaaGreatDoorNatHelp
import Derived.Test.YtmojcnlddfijjaaGreatDoorNatRefMul
namespace Go.Proofs.YtmojcnlddfijjaaGreatDoor
open Go.RowKit NatMath

set_option maxHeartbeats 3200000 in
set_option maxRecDepth 100000 in
theorem small_c (x : Nat) (w : World) (hx : x < 1048576) :
    Calls Tryz.prog 43 #[.int .i64 x] w fun e w' => ∃ ao' n' c', e = .returned (.slice ao' n' c') ∧ OwnT w.heap.size w' ao' n' c' (bitsN x) ∧ Below w.heap.size w w' := by
  obtain ⟨i0, hi, hz0, hz1, hz2⟩ := info_parts info4
  have hl20 := Lib.hid (bitsN_length x 20 hx)
  have h0 : OwnT w.heap.size w none 0 0 [] := OwnT.nil _ _
  go_enter Tryz.func43, Tryz.ntmps43
  go_wp2_with fail
  go_loopw [0, 3] (fun i s3 wr => ∃ (r m d : Nat) (a : Option Addr) (L : List Bool), r < 1048576 ∧ i = .int .i64 r ∧ s3 = .slice a m d ∧ OwnT w.heap.size wr a m d L ∧ Hid (L ++ bitsN r = bitsN x) ∧ Below w.heap.size w wr)
    (fun i _ _ => (intOf i).toNat)
  case atStart => exact ⟨x, 0, 0, none, [], hx, rfl, rfl, h0, rfl, Below.refl _ _⟩
  case round =>
    obtain ⟨r, m, d, a, L, hr, rfl, rfl, ho, hL, hb⟩ := hrel
    clear h0
    have hm : m ≤ 20 := by
      have h1 := congrArg List.length hL.out
      have h2 := hl20.out
      have h3 := ho.len
      rw [List.length_append] at h1
      omega
    by_cases hr0 : r = 0
    · subst hr0
      have e := hL.out
      rw [bitsN_zero, List.append_nil] at e
      rw [e] at ho
      go_wp2_with fail
      go_ret
      exact ⟨a, m, d, rfl, ho, hb⟩
    · obtain ⟨b, hbb⟩ : ∃ b, Hid (b = decide (r % 2 = 1)) := ⟨_, rfl⟩
      have hbit : (((r : Int) % 2) == 1) = b := by
        rw [hbb.out]
        by_cases e : r % 2 = 1
        · rw [decide_eq_true e]; simp; omega
        · rw [decide_eq_false e]; simp; omega
      have hpos : decide ((0 : Int) < (r : Int)) = true := by simp; omega
      have hL2 : Hid ((L ++ [b]) ++ bitsN (r / 2) = bitsN x) := by
        show (L ++ [b]) ++ bitsN (r / 2) = bitsN x
        rw [← hL.out, bitsN_pos hr0, hbb.out, List.append_assoc]
        rfl
      have HC := Lib.hid (World.ownsRow.alloc ho (.cells #[Value.bool b] 4))
      have HO := Lib.hid ho
      have hsz := hb.size
      have HB := Lib.hid hb
      have b63 : Hid (m + 1 ≤ maxLen) := by show m + 1 ≤ maxLen; unfold maxLen; omega
      clear ho hb
      go_wp2_with (at_builtin; refine wpList_append_own _ rfl _ _ 28 rfl w.heap.size 4 i0 (.bool false) 1 1 Tryz.underlying28 hi hz0 hz1 hz2 rfl (by decide) _ _ _ rfl HC.out ⟨wr.heap.size, 0, none⟩ 1 1 [.bool b] rfl rfl ?c1 ?c2 b63.out ?c4 ?c5 ?_)
      case c1 =>
        intro t u ht
        match t, ht with
        | 0, ht => simp at ht; subst ht; simp [Addr.add]
      case c2 => intro u hu; simp at hu; subst hu; rfl
      case c4 => omega
      case c5 => simp; omega
      intro v2 w1 hown hgr _
      obtain ⟨a2, d2, rfl⟩ := own_shape hown
      have o2 : OwnT w.heap.size w1 a2 (m + 1) d2 (L ++ [b]) := by
        show w1.ownsRow _ _ _ _ _ _
        rw [List.map_append]
        exact hown
      have b2 := (HB.out.alloc hsz (.cells #[Value.bool b] 4)).grown hgr (by simp; omega) (fun g hg => (HO.out.lt g hg).1)
      clear hown hgr HC HO HB
      go_wp2_with fail
      go_roundw
      case rel => exact ⟨r / 2, m + 1, d2, a2, L ++ [b], by omega, by go_num, rfl, o2, hL2.out, b2⟩
      case measure => simp [intOf]; omega
end Go.Proofs.YtmojcnlddfijjaaGreatDoor
