/-
  The padding: digest.appendNumber, digest.tail.
-/
import Derived.Test.YtfmpccfoemgiiaaDoorDigApp
namespace Go.Proofs.YtfmpccfoemgiiaaDoor
open Go.RowKit Dig

namespace Dig
theorem beN_len (n k : Nat) : (beN n k).length = k := by
  induction k with
  | zero => rfl
  | succ k ih => rw [beN, List.length_cons, ih]
theorem byte_shift (n j : Nat) : (n : Int) / 2 ^ (8 * j) % 256 = ((n / 256 ^ j % 256 : Nat) : Int) := by
  have e : (2 : Int) ^ (8 * j) = ((256 ^ j : Nat) : Int) := by
    rw [show (256 : Nat) = 2 ^ 8 from rfl, ← Nat.pow_mul]
    simp
  rw [e]
  simp
end Dig

theorem below_size {B : Nat} {w w' : World} (h : Below B w w') : w.heap.size ≤ w'.heap.size := by
  have := h.size
  first | exact this | omega

set_option maxHeartbeats 1600000 in
set_option maxRecDepth 100000 in
theorem appendNumber_c (B : Nat) (ao : Option Addr) (m c : Nat) (xs : List Int) (n k : Nat) (w : World) (hO : Own 5 .u8 B w ao m c xs) (hB : B ≤ w.heap.size) (hm : m ≤ 549755813888) (_ : n ≤ 18446744073709551615) (hk : k ≤ 8) :
    Calls Tryd.prog 26 #[.slice ao m c, .int .u64 (n : Int), .int .i64 (k : Int)] w fun e w' => ∃ ao' m' c', e = .returned (.slice ao' m' c') ∧ Own 5 .u8 B w' ao' m' c' (xs ++ beN n k) ∧ Below B w w' := by
  have HN := Lib.hid hO.len
  go_enter Tryd.func26, Tryd.ntmps26
  go_wp2
  go_loopw [0, 7] (fun v i wr => ∃ (z : Int) (a : Option Addr) (l d : Nat) (done : List Int), -1 ≤ z ∧ z ≤ 7 ∧ i = .int .i64 z ∧ v = .slice a l d ∧ Hid (done ++ beN n (z + 1).toNat = beN n k) ∧ Own 5 .u8 B wr a l d (xs ++ done) ∧ B ≤ wr.heap.size ∧ Below B w wr)
    (fun _ i _ => (intOf i + 1).toNat)
  case atStart => exact ⟨(k : Int) - 1, ao, m, c, [], by omega, by omega, rfl, rfl, by show _ = _; rw [show ((k : Int) - 1 + 1).toNat = k by omega]; rfl, by simpa using hO, hB, Below.refl _ _⟩
  case round =>
    clear hO
    obtain ⟨z, a, l, d, done, hz1, hz7, rfl, rfl, hd, O, hB', bb⟩ := hrel
    have hl : l ≤ 549755813900 := by
      have h1 := O.len
      have h2 := congrArg List.length hd.out
      rw [List.length_append, beN_len, beN_len] at h2
      rw [List.length_append, HN.out] at h1
      omega
    by_cases h0 : 0 ≤ z
    · obtain ⟨j, rfl⟩ := Int.eq_ofNat_of_zero_le h0
      have hj : j ≤ 7 := by omega
      have hx := byte_shift n j
      have HX := Lib.hid hx
      clear hx
      go_wp2_with (at_builtin; refine wpList_app1 (B := B) O hB' (by omega) (Int.emod_nonneg _ (by omega)) (Int.le_of_lt_add_one (Int.emod_lt_of_pos _ (by omega))) rfl rfl ?_)
      intro a2 d2 w2 O2 b2
      have hd2 : Hid ((done ++ [(n : Int) / 2 ^ (8 * j) % 256]) ++ beN n ((j : Int) - 1 + 1).toNat = beN n k) := by
        show _ = _
        rw [← hd.out, show ((j : Int) - 1 + 1).toNat = j by omega, show ((j : Int) + 1).toNat = j + 1 by omega, beN, HX.out]
        simp
      rw [List.append_assoc] at O2
      have hB2 : B ≤ w2.heap.size := Nat.le_trans hB' (below_size b2)
      go_wp2
      go_roundw
      case rel => exact ⟨(j : Int) - 1, a2, l + 1, d2, _, by omega, by omega, rfl, rfl, hd2, O2, hB2, bb.trans b2⟩
      case measure => simp [intOf]
    · obtain rfl : z = -1 := by omega
      have hd' : done = beN n k := by have := hd.out; simpa [beN] using this
      subst hd'
      go_wp2
      go_ret
      exact ⟨_, _, _, rfl, O, bb⟩

namespace Dig
theorem zer_lt (n : Nat) : zer n < 64 := Nat.mod_lt _ (by omega)
theorem zer_end (n : Nat) : (n + 1 + zer n) % 64 = 56 := by unfold zer; omega
theorem zer_not (n j : Nat) (h : j < zer n) : (n + 1 + j) % 64 ≠ 56 := by unfold zer at h; omega
end Dig

set_option maxHeartbeats 1600000 in
set_option maxRecDepth 100000 in
theorem tail_c (ao : Option Addr) (n c : Nat) (xs : List Int) (N : Nat) (w : World) (h : Lst .u8 w ao n c xs) (h0 : ao = none → c = 0) (hn : n ≤ 274877906944) (hN : N ≤ 1152921504606846976) :
    Calls Tryd.prog 23 #[.slice ao n c, .int .u64 (N : Int)] w fun e w' => ∃ ao' m' c', e = .returned (.slice ao' m' c') ∧ Own 5 .u8 w.heap.size w' ao' m' c' (tailL xs N) ∧ Below w.heap.size w w' := by
  obtain ⟨i0, hi, hz0, hz1, hz2⟩ := info_parts info5
  have HL := Lib.hid h.len
  have H0 := Lib.hid h0
  clear h0
  go_enter Tryd.func23, Tryd.ntmps23
  go_wp2_with (at_make; refine wpList_make_own _ rfl _ _ 22 rfl w.heap.size 5 i0 (.int .u8 0) 1 Tryd.underlying22 hi hz0 hz1 _ _ _ 128 rfl rfl rfl ?b2 ?b3 (Nat.le_refl _) ?_)
  case b2 => rw [hz2]; omega
  case b3 => unfold maxLen; omega
  intro w1 hown hgr
  have O1 : Own 5 .u8 w.heap.size w1 (some ⟨w.heap.size, 0, none⟩) 0 128 [] := ⟨hown, fun x hx => by cases hx⟩
  have b1 : Below w.heap.size w w1 := (Below.refl _ _).grown hgr (Nat.le_refl _) (fun k hk => by cases hk)
  have L1 := h.below b1
  have z1 := b1.size
  clear hown hgr h
  go_wp2_with (first
    | (at_builtin; refine wpList_appL (p := .tmp 7) (q := .tmp 8) (d := some 9) (B := w.heap.size) O1 L1 H0.out z1 (by omega) (by omega) rfl rfl ?_; intro a2 d2 w2 O2 b2; have z2 := b2.size; rw [Nat.zero_add, List.nil_append] at O2)
    | (at_builtin; refine wpList_app1 (p := .tmp 10) (q := .tmp 11) (d := some 12) (B := w.heap.size) O2 (Nat.le_trans z1 z2) (by omega) (by omega) (by omega) rfl rfl ?_; intro a3 d3 w3 O3 b3; have z3 := b3.size))
  have b123 : Below w.heap.size w w3 := (b1.trans b2).trans b3
  have z123 := b123.size
  clear O1 O2 L1 b1 b2 b3 z1 z2 z3
  go_loopw [5] (fun v wr => ∃ (j l : Nat) (a : Option Addr) (d : Nat), j ≤ zer n ∧ v = .slice a l d ∧ Hid (l = n + 1 + j) ∧ Own 5 .u8 w.heap.size wr a l d (xs ++ [128] ++ List.replicate j 0) ∧ Below w.heap.size w wr)
    (fun v _ => n + 65 - lenOf v)
  case atStart => exact ⟨0, _, _, _, Nat.zero_le _, rfl, rfl, by simpa using O3, b123⟩
  case round =>
    clear O3 b123
    obtain ⟨j, l, a, d, hj, rfl, hl, O, B⟩ := hrel
    have hz := zer_lt n
    have hll : l ≤ 274877907100 := by rw [hl.out]; omega
    have zB := B.size
    by_cases hlt : j < zer n
    · have hne := zer_not n j hlt
      rw [← hl.out] at hne
      have hne1 : ((l : Int) % 64 == 56) = false := by simp; omega
      have hne2 : ¬ ((l : Int) % 64 = 56) := by omega
      have hl65 : Hid (l < n + 65) := by show _ < _; rw [hl.out]; omega
      go_wp2_with (at_builtin; refine wpList_app1 (p := .tmp 17) (q := .tmp 18) (B := w.heap.size) O zB (by omega) (by omega) (by omega) rfl rfl ?_)
      intro a2 d2 w2 O2 b2
      rw [List.append_assoc, show List.replicate j (0 : Int) ++ [0] = List.replicate (j + 1) 0 from (List.replicate_succ' ..).symm] at O2
      go_wp2
      go_roundw
      case rel => exact ⟨j + 1, l + 1, a2, d2, by omega, rfl, by show _ = _; rw [hl.out]; rfl, O2, B.trans b2⟩
      case measure => have := hl65.out; simp [lenOf]; omega
    · obtain rfl : j = zer n := by omega
      have he := zer_end n
      rw [← hl.out] at he
      have he1 : ((l : Int) % 64 == 56) = true := by simp; omega
      have he2 : (l : Int) % 64 = 56 := by omega
      have HC := Lib.hid (appendNumber_c w.heap.size a l d _ (8 * N) 8 wr O zB (by omega) (by omega) (by omega))

      go_wp2_with fail
      refine HC.out.mono ?_
      rintro e w' ⟨a2, m2, d2, rfl, O2, b2⟩
      go_wp2
      go_ret
      exact ⟨_, _, _, rfl, by rw [tailL, HL.out]; exact O2, B.trans b2⟩
end Go.Proofs.YtfmpccfoemgiiaaDoor
