/-
  The encoding of a bit image as lengths of runs, and back. Plain functions.
-/
import Derived.Test.YtcgfoagfoncjiaaImgMath
namespace Go.Proofs.Ytcgfoagfoncjiaa
namespace Im

/-- The bytes of one length. -/
def emit (run : Nat) : List Nat := List.replicate (run / 255) 255 ++ [run % 255]
/-- The lengths of the runs of l, behind run bits of the kind on. -/
def encR : List Bool → Nat → Bool → List Nat
  | [], run, _ => emit run
  | b :: l, run, on => if b = on then encR l (run + 1) on else emit run ++ encR l 1 (!on)
/-- The bits that lengths say. -/
def decR : List Nat → Bool → List Bool
  | [], _ => []
  | c :: r, on => List.replicate c on ++ decR r (if c < 255 then !on else on)
theorem emit_big {run : Nat} (h : 255 ≤ run) : emit run = 255 :: emit (run - 255) := by
  unfold emit
  have h1 : run / 255 = (run - 255) / 255 + 1 := by omega
  have h2 : run % 255 = (run - 255) % 255 := by omega
  rw [h1, h2, List.replicate_succ]
  rfl
theorem emit_small {run : Nat} (h : run < 255) : emit run = [run] := by
  unfold emit
  rw [Nat.div_eq_of_lt h, Nat.mod_eq_of_lt h]
  rfl
theorem dec_emit (r : List Nat) (on : Bool) : ∀ (k run : Nat), run ≤ k → decR (emit run ++ r) on = List.replicate run on ++ decR r (!on)
  | k, run, hk => by
    by_cases h : 255 ≤ run
    · cases k with
      | zero => omega
      | succ k =>
        rw [emit_big h, List.cons_append, decR, if_neg (by omega), dec_emit r on k (run - 255) (by omega), ← List.append_assoc, List.replicate_append_replicate, show 255 + (run - 255) = run by omega]
    · rw [emit_small (by omega), List.cons_append, decR, if_pos (by omega), List.nil_append]
theorem dec_enc : ∀ (l : List Bool) (run : Nat) (on : Bool), decR (encR l run on) on = List.replicate run on ++ l
  | [], run, on => by
    have := dec_emit [] on run run (Nat.le_refl _)
    rw [List.append_nil] at this
    rw [encR, this]
    rfl
  | b :: l, run, on => by
    rw [encR]
    by_cases h : b = on
    · rw [if_pos h, dec_enc l (run + 1) on, h, List.replicate_succ', List.append_assoc]
      rfl
    · have hb : b = !on := by cases b <;> cases on <;> simp_all
      rw [if_neg h, dec_emit _ _ run run (Nat.le_refl _), dec_enc l 1 (!on), hb]
      rfl
theorem emit_le (run : Nat) : ∀ x ∈ emit run, x ≤ 255 := by
  intro x hx
  rcases List.mem_append.1 hx with h | h
  · rw [List.eq_of_mem_replicate h]; exact Nat.le_refl _
  · have : x = run % 255 := by simpa using h
    omega
theorem encR_le : ∀ (l : List Bool) (run : Nat) (on : Bool), ∀ x ∈ encR l run on, x ≤ 255
  | [], run, _ => emit_le run
  | b :: l, run, on => by
    rw [encR]
    split
    · exact encR_le l _ on
    · intro x hx
      rcases List.mem_append.1 hx with h | h
      · exact emit_le run x h
      · exact encR_le l _ _ x h
/-- The bits of a row, from bit n on, k of them. -/
def bitsFrom (f : Nat → Bool) (n k : Nat) : List Bool := (List.range k).map fun j => f (n + j)
theorem bitsFrom_succ (f : Nat → Bool) (n k : Nat) : bitsFrom f n (k + 1) = f n :: bitsFrom f (n + 1) k := by
  unfold bitsFrom
  rw [List.range_succ_eq_map, List.map_cons, List.map_map, Nat.add_zero]
  congr 1
  apply List.map_congr_left
  intro j _
  show f (n + (j + 1)) = f (n + 1 + j)
  congr 1
  omega
theorem bitsFrom_len (f : Nat → Bool) (n k : Nat) : (bitsFrom f n k).length = k := by simp [bitsFrom]
theorem bitsFrom_get (f : Nat → Bool) (n k j : Nat) (h : j < k) : (bitsFrom f n k)[j]? = some (f (n + j)) := by
  unfold bitsFrom
  rw [List.getElem?_map, List.getElem?_range h]
  rfl
/-- The two bytes of a number. -/
def two (n : Nat) : List Nat := [n / 256 % 256, n % 256]
/-- The encoding of an image of w columns and h rows. -/
def encP (w h : Nat) (f : Nat → Bool) : List Nat := two w ++ two h ++ encR (bitsFrom f 0 (w * h)) 0 false
end Im
end Go.Proofs.Ytcgfoagfoncjiaa
