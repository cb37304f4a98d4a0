/-
  The walk of DigestSum.
-/
import Derived.Test.YtfmpccfoemgiiaaDoorDigAwake
import Derived.Test.YtfmpccfoemgiiaaDoorDigEqB
namespace Go.Proofs.YtfmpccfoemgiiaaDoor
open Go.RowKit Dig

set_option maxHeartbeats 1600000 in
set_option maxRecDepth 100000 in
theorem sumLaw_c (ao : Option Addr) (n c : Nat) (xs : List Int) (w : World) (h : Lst .u8 w ao n c xs) (hnil : ao = none → c = 0) (hK : KTab 1 w) (hK0 : KTab 0 w) :
    Calls Tryd.prog 3 #[.slice ao n c] w fun e w' => e = .returned (.bool true) ∧ Below w.heap.size w w' := by
  have hcap := h.cap
  have hroom := h.room
  have HN := Lib.hid hnil
  clear hnil
  rcases Nat.lt_or_ge 300 n with hlt | hle
  · have hlti : (300 : Int) < n := by omega
    have hmc : (300 : Int) ≤ c := by omega
    have L := h.take (show 300 ≤ n by omega)
    obtain ⟨F, hF⟩ : ∃ F, Hid (F = sumL (xs.take 300)) := ⟨_, rfl⟩
    have hFl : F.length = 32 := by rw [hF.out]; rfl
    have heq := eq_bytes F hFl
    have HA := Lib.hid (awake_c w hK)
    clear hFl h
    go_enter Tryd.func3, Tryd.ntmps3
    go_wp2_with fail
    refine HA.out.mono ?_
    rintro e w1 ⟨rfl, b1⟩
    have H1 := Lib.hid (sum_c ao 300 c (xs.take 300) w1 (L.below b1) HN.out (by omega) (hK.below b1))
    rw [← hF.out] at H1
    clear HA
    go_wp2_with fail
    refine H1.out.mono ?_
    rintro e w2 ⟨rfl, b2⟩
    have b12 : Below w.heap.size w w2 := b1.trans (b2.mono b1.size)
    have H2 := Lib.hid (refsum_c ao 300 c (xs.take 300) w2 (L.below b12) HN.out (by omega) (hK0.below b12))
    rw [← hF.out] at H2
    clear H1 b1 b2
    go_wp2_with fail
    refine H2.out.mono ?_
    rintro e w3 ⟨rfl, b3⟩
    have b13 : Below w.heap.size w w3 := b12.trans (b3.mono b12.size)
    clear H2 b12 b3
    go_wp2_with fail
    go_ret
    exact ⟨rfl, b13⟩
  · have hlei : (n : Int) ≤ 300 := by omega
    have L := h.take (show n ≤ n by omega)
    obtain ⟨F, hF⟩ : ∃ F, Hid (F = sumL (xs.take n)) := ⟨_, rfl⟩
    have hFl : F.length = 32 := by rw [hF.out]; rfl
    have heq := eq_bytes F hFl
    have HA := Lib.hid (awake_c w hK)
    clear hFl h
    go_enter Tryd.func3, Tryd.ntmps3
    go_wp2_with fail
    refine HA.out.mono ?_
    rintro e w1 ⟨rfl, b1⟩
    have H1 := Lib.hid (sum_c ao n c (xs.take n) w1 (L.below b1) HN.out (by omega) (hK.below b1))
    rw [← hF.out] at H1
    clear HA
    go_wp2_with fail
    refine H1.out.mono ?_
    rintro e w2 ⟨rfl, b2⟩
    have b12 : Below w.heap.size w w2 := b1.trans (b2.mono b1.size)
    have H2 := Lib.hid (refsum_c ao n c (xs.take n) w2 (L.below b12) HN.out (by omega) (hK0.below b12))
    rw [← hF.out] at H2
    clear H1 b1 b2
    go_wp2_with fail
    refine H2.out.mono ?_
    rintro e w3 ⟨rfl, b3⟩
    have b13 : Below w.heap.size w w3 := b12.trans (b3.mono b12.size)
    clear H2 b12 b3
    go_wp2_with fail
    go_ret
    exact ⟨rfl, b13⟩
end Go.Proofs.YtfmpccfoemgiiaaDoor
