/-
  The reference's Encode.
-/
import Derived.Test.YtcgfoagfoncjiaaImgValid
import Derived.Test.YtcgfoagfoncjiaaImgCode
import Derived.Deep.Onto
namespace Go.Proofs.Ytcgfoagfoncjiaa
open Go.RowKit Im

namespace Im
def intsN (xs : List Nat) : List Int := xs.map fun (k : Nat) => (k : Int)
theorem intsN_len (xs : List Nat) : (intsN xs).length = xs.length := by simp [intsN]
theorem intsN_snoc (xs : List Nat) (k : Nat) : intsN xs ++ [(k : Int)] = intsN (xs ++ [k]) := by simp [intsN]
theorem emit_len (run : Nat) : (emit run).length ≤ run + 1 := by
  unfold emit
  rw [List.length_append, List.length_replicate, List.length_singleton]
  omega
theorem encR_len : ∀ (l : List Bool) (run : Nat) (on : Bool), (encR l run on).length ≤ 2 * l.length + run + 1
  | [], run, _ => by
    rw [encR]
    have := emit_len run
    simp only [List.length_nil]
    omega
  | b :: l, run, on => by
    rw [encR, List.length_cons]
    split
    · have := encR_len l (run + 1) on
      omega
    · rw [List.length_append]
      have := encR_len l 1 (!on)
      have := emit_len run
      omega
theorem encP_len (v u : Nat) (f : Nat → Bool) : (encP v u f).length ≤ 2 * (v * u) + 5 := by
  unfold encP
  rw [List.length_append, List.length_append]
  have := encR_len (bitsFrom f 0 (v * u)) 0 false
  rw [bitsFrom_len] at this
  show 2 + 2 + _ ≤ _
  omega
/-- What is still to be written at bit i. -/
def cur (f : Nat → Bool) (N i run : Nat) (on : Bool) : List Nat := if i ≤ N then encR (bitsFrom f i (N - i)) run on else []
theorem cur_split {f : Nat → Bool} {N i : Nat} (h : i < N) (run : Nat) (on : Bool) : cur f N i run on = if f i = on then cur f N (i + 1) (run + 1) on else emit run ++ cur f N (i + 1) 1 (!on) := by
  unfold cur
  rw [if_pos (show i ≤ N by omega), if_pos (show i + 1 ≤ N by omega), if_pos (show i + 1 ≤ N by omega), show N - i = N - (i + 1) + 1 by omega, bitsFrom_succ, encR]
theorem cur_last (f : Nat → Bool) (N run : Nat) (on : Bool) : cur f N N run on = emit run ++ cur f N (N + 1) 1 (!on) := by
  unfold cur
  rw [if_pos (Nat.le_refl _), if_neg (by omega), Nat.sub_self, List.append_nil]
  rfl
theorem cur_end (f : Nat → Bool) (N run : Nat) (on : Bool) : cur f N (N + 1) run on = [] := if_neg (by omega)
end Im
end Go.Proofs.Ytcgfoagfoncjiaa
