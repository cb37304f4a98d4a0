/-
  nat.Cmp, electionref01.Eq, electionlaw01.Short.
-/
import Derived.Test.YtmojcnlddfijjaaGreatDoorNatTrim
import Derived.Test.YtmojcnlddfijjaaGreatDoorNatLib
import Derived.Deep.LoopGhost
namespace Go.Proofs.YtmojcnlddfijjaaGreatDoor
open Go.RowKit NatMath

/-- The index instruction at a slice of limbs, as the walk asks for it. -/
theorem ix {ao : Option Addr} {n c : Nat} {xs : List Int} {w : World} (h : Lst .u32 w ao n c xs) (i : Nat) (hi : i < n) :
    ∀ W, (Instr.indexAt 23 (.slice ao n c) (.int .i64 (i : Int))).run Tryz.prog W = .ok (.pointer (some (pt ao i))) W :=
  fun W => run_index (P := Tryz.prog) Tryz.underlying23 size60 h i hi W

set_option maxHeartbeats 800000 in
theorem eq_c (ao bo : Option Addr) (n c m d : Nat) (xs ys : List Int) (w : World) (h : Lst .u32 w ao n c xs) (k : Lst .u32 w bo m d ys) :
    Calls Tryz.prog 40 #[.slice ao n c, .slice bo m d] w fun e w' => e = .returned (.bool (decide (xs = ys))) ∧ ∃ q, w.drewN q = w' := by
  have hroom := h.room
  have hcap := h.cap
  by_cases hne : n = m
  · subst hne
    go_enter Tryz.func40, Tryz.ntmps40
    go_wp2
    go_loopw [5] (fun i wr => ∃ j q : Nat, j ≤ n ∧ i = .int .i64 j ∧ w.drewN q = wr ∧ ∀ t, t < j → xs.getD t 0 = ys.getD t 0) (fun i _ => n - (intOf i).toNat)
    case atStart => exact ⟨0, 0, Nat.zero_le _, rfl, rfl, fun t ht => absurd ht (by omega)⟩
    case round =>
      obtain ⟨j, q, hj, rfl, rfl, hz⟩ := hrel
      have HZ := Lib.hid hz; clear hz
      by_cases hlt : j < n
      · have hia := ix h j hlt
        have hib := ix k j hlt
        obtain ⟨x, HX, hx0, hx1, hcx⟩ := h.at j hlt
        obtain ⟨y, HY, hy0, hy1, hcy⟩ := k.at j hlt
        by_cases hxy : x = y
        · subst hxy
          go_wp2
          go_quiet (fail)
          go_wp2
          go_roundw
          case rel => exact ⟨j + 1, _, by omega, by go_num, rfl, fun t ht => by
            by_cases e : t = j
            · rw [e, ← HX.out, ← HY.out]
            · exact HZ.out t (by omega)⟩
          case measure => simp [intOf]; omega
        · have hb : (x == y) = false := by simpa using hxy
          have hb' : (x != y) = true := by simpa using hxy
          go_wp2
          go_quiet (fail)
          go_wp2
          go_ret
          refine ⟨?_, dd _ _ _⟩
          have : xs ≠ ys := by
            intro e
            apply hxy
            rw [HX.out, HY.out, e]
          simp [this]
      · have he : xs = ys := list_eq_of (by rw [h.len, k.len]) (fun t => by
          by_cases e : t < j
          · exact HZ.out t e
          · rw [List.getD, List.getD, List.getElem?_eq_none (by rw [h.len]; omega), List.getElem?_eq_none (by rw [k.len]; omega)])
        have HE := Lib.hid he; clear he
        go_wp2
        go_ret
        exact ⟨by simp [HE.out], _, rfl⟩
  · have hb : ((n : Int) == (m : Int)) = false := by simp; omega
    have he : xs ≠ ys := by
      intro e
      apply hne
      rw [← h.len, ← k.len, e]
    have HE := Lib.hid he; clear he
    go_enter Tryz.func40, Tryz.ntmps40
    go_wp2
    go_ret
    exact ⟨by simp [HE.out], 0, rfl⟩

/-- 's[:min(len(s), k)]'. -/
theorem short_c (ao : Option Addr) (n c : Nat) (xs : List Int) (k : Nat) (w : World) (h : Lst .u32 w ao n c xs) :
    Calls Tryz.prog 24 #[.slice ao n c, .int .i64 k] w fun e w' => w = w' ∧ ∃ n', n' ≤ k ∧ e = .returned (.slice ao n' c) ∧ Lst .u32 w ao n' c (xs.take k) := by
  have hroom := h.room
  have hcap := h.cap
  have hl := Lib.hid h.len
  rcases (show k < n ∨ n ≤ k by omega) with hk | hk
  · have h' := h.take (Nat.le_of_lt hk)
    have H := Lib.hid h; clear h
    go_enter Tryz.func24, Tryz.ntmps24
    go_wp2
    go_ret
    exact ⟨rfl, k, Nat.le_refl _, rfl, h'⟩
  · have h' : Lst .u32 w ao n c (xs.take k) := by rw [List.take_of_length_le (by rw [hl.out]; omega)]; exact h
    have H := Lib.hid h; clear h
    go_enter Tryz.func24, Tryz.ntmps24
    go_wp2
    go_ret
    exact ⟨rfl, n, hk, rfl, h'⟩

set_option maxHeartbeats 1000000 in
theorem cmp_c (ao bo : Option Addr) (n c m d : Nat) (xs ys : List Int) (w : World) (h : Lst .u32 w ao n c xs) (k : Lst .u32 w bo m d ys) :
    Calls Tryz.prog 53 #[.slice ao n c, .slice bo m d] w fun e w' => e = .returned (.int .i64 (cmpI (val xs) (val ys))) ∧ ∃ q, w.drewN q = w' := by
  go_enter Tryz.func53, Tryz.ntmps53
  go_wp2_with fail
  refine (trim_c _ _ _ xs _ h).mono ?_
  rintro e w' ⟨rfl, a1, n1, c1, rfl, h1, -⟩
  go_wp2_with fail
  refine (trim_c _ _ _ ys _ k).mono ?_
  rintro e w' ⟨rfl, b1, m1, d1, rfl, k1, -⟩
  obtain ⟨L, HL⟩ : ∃ L, Hid (L = limbs (val xs)) := ⟨_, rfl⟩
  obtain ⟨M, HM⟩ : ∃ M, Hid (M = limbs (val ys)) := ⟨_, rfl⟩
  rw [← HL.out] at h1
  rw [← HM.out] at k1
  have hroom := h1.room
  have hcap := h1.cap
  have kroom := k1.room
  have kcap := k1.cap
  by_cases hne : n1 = m1
  · subst hne
    go_wp2_with fail
    go_loopw [5] (fun i wr => ∃ j q : Nat, j ≤ n1 ∧ i = .int .i64 ((j : Int) - 1) ∧ w.drewN q = wr ∧ ∀ t, j ≤ t → L.getD t 0 = M.getD t 0) (fun i _ => (intOf i + 1).toNat)
    case atStart => exact ⟨n1, 0, Nat.le_refl _, rfl, rfl, fun t ht => by rw [List.getD, List.getD, List.getElem?_eq_none (by rw [h1.len]; omega), List.getElem?_eq_none (by rw [k1.len]; omega)]⟩
    case round =>
      obtain ⟨j, q, hj, rfl, rfl, hz⟩ := hrel
      have HZ := Lib.hid hz; clear hz
      by_cases hlt : 0 < j
      · have hia := ix h1 (j - 1) (by omega)
        have hib := ix k1 (j - 1) (by omega)
        rw [show ((j - 1 : Nat) : Int) = (j : Int) - 1 from by omega] at hia hib
        obtain ⟨x, HX, hx0, hx1, hcx⟩ := h1.at (j - 1) (by omega)
        obtain ⟨y, HY, hy0, hy1, hcy⟩ := k1.at (j - 1) (by omega)
        by_cases hxy : x = y
        · subst hxy
          go_wp2_with fail
          go_quiet (fail)
          go_wp2_with fail
          go_roundw
          case rel => exact ⟨j - 1, _, by omega, by go_num, rfl, fun t ht => by
            by_cases e : t = j - 1
            · rw [e, ← HX.out, ← HY.out]
            · exact HZ.out t (by omega)⟩
          case measure => simp [intOf]; omega
        · have hb : (x == y) = false := by simpa using hxy
          have hb' : (x != y) = true := by simpa using hxy
          have hc : cmpI x y = cmpI (val xs) (val ys) := by
            have := cmpI_at (i := j - 1) h1.ok k1.ok (by rw [h1.len, k1.len]) (fun t ht => HZ.out t (by omega)) (by rw [← HX.out, ← HY.out]; exact hxy)
            rw [HX.out, HY.out, this, HL.out, HM.out, val_limbs, val_limbs]
          have HC := Lib.hid hc; clear hc
          go_wp2_with fail
          go_quiet (fail)
          go_wp2_with fail
          go_quiet ((go_at_call 77; exact quiet_same2 (cmp_u32_c _ _ _)))
          go_wp2_with fail
          go_ret
          refine ⟨?_, ddd _ _ _ _⟩
          rw [HC.out]
          rfl
      · have he : L = M := list_eq_of (by rw [h1.len, k1.len]) (fun t => HZ.out t (by omega))
        have hc : cmpI (val xs) (val ys) = 0 := by
          have e2 : val xs = val ys := by rw [← val_limbs (val xs), ← val_limbs (val ys), ← HL.out, ← HM.out, he]
          rw [e2, cmpI_self]
        have HC := Lib.hid hc; clear hc he
        go_wp2_with fail
        go_ret
        exact ⟨by rw [HC.out]; rfl, _, rfl⟩
  · have hb : ((n1 : Int) == (m1 : Int)) = false := by simp; omega
    have hc : cmpI (n1 : Int) (m1 : Int) = cmpI (val xs) (val ys) := by
      have := cmpI_len (m := val xs) (n := val ys) (by rw [← HL.out, ← HM.out, h1.len, k1.len]; exact hne)
      rwa [← HL.out, ← HM.out, h1.len, k1.len] at this
    have HC := Lib.hid hc; clear hc
    go_wp2_with fail
    refine (cmp_int_c _ _ _).mono ?_
    rintro e w' ⟨rfl, rfl⟩
    go_wp2_with fail
    go_ret
    exact ⟨by rw [HC.out]; rfl, 0, rfl⟩
end Go.Proofs.YtmojcnlddfijjaaGreatDoor
