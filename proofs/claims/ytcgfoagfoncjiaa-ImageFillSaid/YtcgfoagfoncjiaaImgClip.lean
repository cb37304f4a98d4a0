/-
  The program's clip.
-/
import Derived.Test.YtcgfoagfoncjiaaImgRect
namespace Go.Proofs.Ytcgfoagfoncjiaa
open Go.RowKit Im
set_option maxHeartbeats 1600000 in
set_option maxRecDepth 100000 in
theorem clip_c (s l : Int) (N : Nat) (w : World) (hN : N ≤ 512) (h1 : -9223372036854775808 ≤ s) (h2 : s ≤ 9223372036854775807) (h3 : -9223372036854775808 ≤ l) (h4 : l ≤ 9223372036854775807) :
    Calls Try.prog 27 #[.int .i64 s, .int .i64 l, .int .i64 (N : Int)] w fun e w' => (∃ F T : Int, e = .returned (.tuple #[.int .i64 F, .int .i64 T]) ∧ ClipO s l N F T) ∧ w = w' := by
  obtain ⟨m, hm⟩ : ∃ m : Int, max 0 l = m := ⟨_, rfl⟩
  have hmb : 0 ≤ m ∧ m ≤ 9223372036854775807 ∧ (l ≤ m) ∧ (m = l ∨ (m = 0 ∧ l ≤ 0)) := by omega
  by_cases hs : s < 0
  · by_cases hle : s + m ≤ N
    · have hw : wrap64 (s + m) = s + m := by unfold wrap64; omega
      go_enter Try.func27, Try.ntmps27
      go_wp2_with fail
      all_goals
        go_ret2
        refine ⟨⟨_, _, rfl, ?_⟩, rfl⟩
        exact ⟨by omega, by omega, by omega, by omega, fun p hp => by omega⟩
    · have hw : wrap64 (s + m) = s + m := by unfold wrap64; omega
      go_enter Try.func27, Try.ntmps27
      go_wp2_with fail
      all_goals
        go_ret2
        refine ⟨⟨_, _, rfl, ?_⟩, rfl⟩
        exact ⟨by omega, by omega, by omega, by omega, fun p hp => by omega⟩
  · have hs' : 0 ≤ s := by omega
    have hw2 : wrap64 ((N : Int) - s) = (N : Int) - s := by unfold wrap64; omega
    by_cases hle : m ≤ (N : Int) - s
    · have hw : wrap64 (s + m) = s + m := by unfold wrap64; omega
      go_enter Try.func27, Try.ntmps27
      go_wp2_with fail
      all_goals
        go_ret2
        refine ⟨⟨_, _, rfl, ?_⟩, rfl⟩
        exact ⟨by omega, by omega, by omega, by omega, fun p hp => by omega⟩
    · have hw : wrap64 (s + ((N : Int) - s)) = N := by unfold wrap64; omega
      go_enter Try.func27, Try.ntmps27
      go_wp2_with fail
      all_goals
        go_ret2
        refine ⟨⟨_, _, rfl, ?_⟩, rfl⟩
        exact ⟨by omega, by omega, by omega, by omega, fun p hp => by omega⟩
end Go.Proofs.Ytcgfoagfoncjiaa
