/-
  The reference's bit.
-/
import Derived.Test.YtcgfoagfoncjiaaImgBase
namespace Go.Proofs.Ytcgfoagfoncjiaa
open Go.RowKit Im

set_option maxRecDepth 100000 in
theorem bit_forms : ∀ x : Nat, x < 256 → ∀ r : Nat, r < 8 → (bits BinOp.and IntKind.u8 ((x : Int) / 2 ^ min (IntKind.u64.wrap (wrap64 (7 - (r : Int)))).toNat 8) 1 == 1) = decide (x >>> (7 - r) % 2 = 1) := by decide +kernel

set_option maxHeartbeats 1600000 in
set_option maxRecDepth 100000 in
theorem refBit_c (ao : Option Addr) (n c k : Nat) (bs : List Int) (w : World) (h : Lst .u8 w ao n c bs) (hk : k < 8 * n) (hn : n ≤ 1000000) :
    Calls Try.prog 24 #[.slice ao n c, .int .i64 (k : Int)] w fun e w' => e = .returned (.bool (bitL bs k)) ∧ w = w' := by
  obtain ⟨q, hq⟩ : ∃ q, k / 8 = q := ⟨_, rfl⟩
  obtain ⟨r, hr⟩ : ∃ r, k % 8 = r := ⟨_, rfl⟩
  have d1 : (k : Int).tdiv 8 = (q : Int) := by rw [Int.tdiv_eq_ediv_of_nonneg (by omega)]; omega
  have d2 : (k : Int).tmod 8 = (r : Int) := by rw [Int.tmod_eq_emod_of_nonneg (by omega)]; omega
  have w1 : wrap64 (q : Int) = (q : Int) := by unfold wrap64; omega
  have i1 := ix8 h q (q : Int) rfl (by omega)
  obtain ⟨x, hx, hx2, c1⟩ := h.at8 q (by omega)
  have hq2 := Lib.hid hq
  have hr2 : Hid (r < 8 ∧ k % 8 = r) := ⟨by omega, hr⟩
  clear hq hr
  go_enter Try.func24, Try.ntmps24
  go_wp2_with fail
  go_ret
  refine ⟨?_, rfl⟩
  rw [bit_forms x (by omega) r hr2.out.1]
  unfold bitL
  rw [hq2.out, hr2.out.2, hx.out]
  rfl
end Go.Proofs.Ytcgfoagfoncjiaa
