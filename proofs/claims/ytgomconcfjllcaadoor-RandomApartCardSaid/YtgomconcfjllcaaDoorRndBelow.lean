/-
  (*random.Source).Below, (*electionref05.Source).Below.
-/
import Derived.Test.YtgomconcfjllcaaDoorRndChoose
namespace Go.Proofs.YtgomconcfjllcaaDoor
open Go.RowKit Dig Rnd

theorem ret_i64 {a b : Int} (h : a = b) : Ending.returned (.int .i64 a) = .returned (.int .i64 b) := by rw [h]

set_option maxHeartbeats 1600000 in
set_option maxRecDepth 100000 in
theorem below_no (p : Option Addr) (n : Int) (w : World) (h : p = none ∨ n < 1 ∨ 2147483648 < n) :
    Calls Tryd.prog 13 #[.pointer p, .int .i64 n] w fun e w' => e = .returned (.int .i64 0) ∧ w = w' := by
  cases p with
  | none =>
    go_enter Tryd.func13, Tryd.ntmps13
    go_wp2_with fail
    go_ret
    exact ⟨rfl, rfl⟩
  | some a =>
    have h' : n < 1 ∨ 2147483648 < n := by
      rcases h with h | h
      · cases h
      · exact h
    clear h
    by_cases h1 : n < 1
    · clear h'
      go_enter Tryd.func13, Tryd.ntmps13
      go_wp2_with fail
      go_ret
      exact ⟨rfl, rfl⟩
    · have h2 : 2147483648 < n := by omega
      clear h'
      go_enter Tryd.func13, Tryd.ntmps13
      go_wp2_with fail
      go_ret
      exact ⟨rfl, rfl⟩

set_option maxHeartbeats 1600000 in
set_option maxRecDepth 100000 in
theorem below_c (g : Nat) (S : ByteArray) (k n : Nat) (w : World) (h : Src 44 w g S k) (hs : S.size ≤ 1000) (hk0 : k ≤ 18446744073709551615) (hn1 : 1 ≤ n) (hn2 : n ≤ 2147483648) (hT0 : KTab 1 w) :
    Calls Tryd.prog 13 #[.pointer (some ⟨g, 0, none⟩), .int .i64 (n : Int)] w fun e w' => e = .returned (.int .i64 ((belN S n 15 k).1 : Nat)) ∧ Src 44 w' g S (belN S n 15 k).2 ∧ w.grownBy w' (some g) := by
  have HC := Lib.hid (draw_c g S k n w h hs hk0 hn1 hn2 hT0)
  have hlt := belN_lt S n (by omega) 15 k
  obtain ⟨J, hJ⟩ : ∃ J, Hid (J = (belN S n 15 k).1) := ⟨_, rfl⟩
  rw [← hJ.out] at HC hlt
  rw [← hJ.out]
  have hmf : ∀ (fn : Fn) (first cap : Array Value) (w : World), (Instr.makeFunc fn first cap).run Tryd.prog w = .ok (.func fn first cap) w := fun _ _ _ _ => rfl
  have hn3 : ¬ ((n : Int) < 1) := by omega
  have hn4 : ¬ ((n : Int) > 2147483648) := by omega
  clear h hs hk0 hT0
  go_enter Tryd.func13, Tryd.ntmps13
  go_wp2_with fail
  refine HC.out.mono ?_
  rintro e w1 ⟨rfl, S1, G1⟩
  go_wp2_with fail
  go_ret
  exact ⟨ret_i64 (by first | rfl | (rw [IntKind.wrap_i64]; omega)), S1, G1⟩

set_option maxHeartbeats 1600000 in
set_option maxRecDepth 100000 in
theorem refbelow_no (p : Option Addr) (n : Int) (w : World) (h : n < 1 ∨ 2147483648 < n) :
    Calls Tryd.prog 14 #[.pointer p, .int .i64 n] w fun e w' => e = .returned (.int .i64 0) ∧ w = w' := by
  by_cases h1 : n < 1
  · clear h
    go_enter Tryd.func14, Tryd.ntmps14
    go_wp2_with fail
    go_ret
    exact ⟨rfl, rfl⟩
  · have h2 : 2147483648 < n := by omega
    clear h
    go_enter Tryd.func14, Tryd.ntmps14
    go_wp2_with fail
    go_ret
    exact ⟨rfl, rfl⟩

set_option maxHeartbeats 3200000 in
set_option maxRecDepth 100000 in
theorem refbelow_c (g : Nat) (S : ByteArray) (k n : Nat) (w : World) (h : Src 29 w g S k) (hs : S.size ≤ 1000) (hk0 : k ≤ 18446744073709551615) (hn1 : 1 ≤ n) (hn2 : n ≤ 2147483648) (hT0 : KTab 0 w) :
    Calls Tryd.prog 14 #[.pointer (some ⟨g, 0, none⟩), .int .i64 (n : Int)] w fun e w' => e = .returned (.int .i64 ((belN S n 15 k).1 : Nat)) ∧ Src 29 w' g S (belN S n 15 k).2 ∧ w.grownBy w' (some g) := by
  have HS := Lib.hid hs
  have hne := Lib.hid (h.apart hT0)
  have HT := Lib.hid hT0
  have HSrc := Lib.hid h
  have HK := Lib.hid hk0
  have hn3 : ¬ ((n : Int) < 1) := by omega
  have hn4 : ¬ ((n : Int) > 2147483648) := by omega
  have hrr := Lib.hid (rest_ref n hn1)
  obtain ⟨Z, hZ⟩ : ∃ Z, Hid (Z = 18446744073709551615 % n) := ⟨_, rfl⟩
  have hZl : Z < n := by rw [hZ.out]; exact Nat.mod_lt _ (by omega)
  have hz : (18446744073709551615 : Int) % (n : Int) = (Z : Int) := by rw [hZ.out]; simp
  rw [← hZ.out] at hrr
  clear h hs hk0 hT0
  have main : ∀ R : Nat, R < n → Hid (R = restN n) → Hid (∀ (i : Nat) (x : Nat), i = 16 ∨ x ≤ 18446744073709551615 - R → ∀ wr, (∃ kk, x = wordN S kk ∧ belN S n 15 k = belN S n (16 - i) kk ∧ Src 29 wr g S (nx kk) ∧ w.grownBy wr (some g)) →
      belN S n 15 k = (x % n, (belN S n 15 k).2) ∧ Src 29 wr g S (belN S n 15 k).2 ∧ w.grownBy wr (some g)) := by
    intro R _ hR i x hc wr hI
    obtain ⟨kk, hx, hb, hS, hG⟩ := hI
    have e : belN S n (16 - i) kk = (x % n, nx kk) := by
      rw [hx]
      refine belN_take S n _ kk ?_
      rcases hc with hc | hc
      · exact Or.inl (by omega)
      · exact Or.inr (by rw [← hx, ← hR.out]; exact hc)
    rw [e] at hb
    rw [hb]
    exact ⟨rfl, hS, hG⟩
  have HM := Lib.hid main
  clear main
  by_cases hzn : Z + 1 = n
  · have hzi : (Z : Int) + 1 = (n : Int) := by omega
    have hzb : ((Z : Int) + 1 == (n : Int)) = true := by simp [hzi]
    obtain ⟨R, HRE⟩ : ∃ R, Hid (R = 0) := ⟨0, rfl⟩
    have hR : Hid (R = restN n) := by show _ = _; rw [hrr.out, if_pos hzn, HRE.out]
    have HF := HM.out R (by rw [HRE.out]; omega) hR
    clear HM
    go_enter Tryd.func14, Tryd.ntmps14
    go_wp2_with fail
    go_loopw [7] (fun i wr => ∃ c : Nat, 1 ≤ c ∧ c ≤ 16 ∧ i = .int .i64 c ∧ Hid (∃ kk, kk ≤ 18446744073709551615 ∧ belN S n 15 k = belN S n (16 - c) kk ∧ Src 29 wr g S kk ∧ w.grownBy wr (some g)))
      (fun i _ => 16 - (intOf i).toNat)
    case atStart => exact ⟨1, by omega, by omega, rfl, ⟨k, HK.out, rfl, HSrc.out, ⟨rfl, rfl, rfl, Nat.le_refl _, fun _ _ _ => rfl⟩⟩⟩
    case round =>
      obtain ⟨c, hc1, hc2, rfl, hI⟩ := hrel
      obtain ⟨kk, hJ⟩ : ∃ kk, Hid (kk ≤ 18446744073709551615 ∧ belN S n 15 k = belN S n (16 - c) kk ∧ Src 29 wr g S kk ∧ w.grownBy wr (some g)) := by
        obtain ⟨kk, h⟩ := hI.out
        exact ⟨kk, h⟩
      clear hI
      obtain ⟨x, hX⟩ : ∃ x, Hid (x = wordN S kk) := ⟨_, rfl⟩
      have hxl : x < 18446744073709551616 := by rw [hX.out]; exact wordN_lt S _
      have HC2 := Lib.hid (refword_c g S kk wr hJ.out.2.2.1 HS.out hJ.out.1 (HT.out.grown hJ.out.2.2.2 hne.out))
      rw [← hX.out] at HC2
      have hmod : ((x : Int) % (n : Int)) ≤ 2147483648 := by have := Int.emod_lt_of_pos (x : Int) (show (0 : Int) < n by omega); omega
      have hmod0 : 0 ≤ ((x : Int) % (n : Int)) := Int.emod_nonneg _ (by omega)
      by_cases hx : x ≤ 18446744073709551615 - R
      · have hxi : (x : Int) ≤ 18446744073709551615 := by omega
        have HXP := Lib.hid hx
        clear hx
        go_wp2_with fail
        refine HC2.out.mono ?_
        rintro e w2 ⟨rfl, S2, G2⟩
        have F := HF.out c x (Or.inr HXP.out) w2 ⟨kk, hX.out, hJ.out.2.1, S2, grown_trans hJ.out.2.2.2 G2⟩
        have HFF := Lib.hid F
        clear F S2 G2 HC2
        go_wp2_with fail
        go_ret
        exact ⟨ret_i64 (fst_eq HFF.out.1), HFF.out.2.1, HFF.out.2.2⟩
      · exact absurd hx (by rw [HRE.out]; omega)
  · obtain ⟨R, HRE⟩ : ∃ R, Hid (R = Z + 1) := ⟨_, rfl⟩
    have hR : Hid (R = restN n) := by show _ = _; rw [hrr.out, if_neg hzn, HRE.out]
    have HF := HM.out R (by rw [HRE.out]; omega) hR
    have hzr : (Z : Int) + 1 = (R : Int) := by have := HRE.out; omega
    have hRn : R < n := by have := HRE.out; omega
    have hzi : ¬ ((R : Int) = (n : Int)) := by omega
    have hzb : ((R : Int) == (n : Int)) = false := by simp [hzi]
    clear hzn
    clear HM
    go_enter Tryd.func14, Tryd.ntmps14
    go_wp2_with fail
    go_loopw [7] (fun i wr => ∃ c : Nat, 1 ≤ c ∧ c ≤ 16 ∧ i = .int .i64 c ∧ Hid (∃ kk, kk ≤ 18446744073709551615 ∧ belN S n 15 k = belN S n (16 - c) kk ∧ Src 29 wr g S kk ∧ w.grownBy wr (some g)))
      (fun i _ => 16 - (intOf i).toNat)
    case atStart => exact ⟨1, by omega, by omega, rfl, ⟨k, HK.out, rfl, HSrc.out, ⟨rfl, rfl, rfl, Nat.le_refl _, fun _ _ _ => rfl⟩⟩⟩
    case round =>
      obtain ⟨c, hc1, hc2, rfl, hI⟩ := hrel
      obtain ⟨kk, hJ⟩ : ∃ kk, Hid (kk ≤ 18446744073709551615 ∧ belN S n 15 k = belN S n (16 - c) kk ∧ Src 29 wr g S kk ∧ w.grownBy wr (some g)) := by
        obtain ⟨kk, h⟩ := hI.out
        exact ⟨kk, h⟩
      clear hI
      obtain ⟨x, hX⟩ : ∃ x, Hid (x = wordN S kk) := ⟨_, rfl⟩
      have hxl : x < 18446744073709551616 := by rw [hX.out]; exact wordN_lt S _
      have HC2 := Lib.hid (refword_c g S kk wr hJ.out.2.2.1 HS.out hJ.out.1 (HT.out.grown hJ.out.2.2.2 hne.out))
      rw [← hX.out] at HC2
      have hmod : ((x : Int) % (n : Int)) ≤ 2147483648 := by have := Int.emod_lt_of_pos (x : Int) (show (0 : Int) < n by omega); omega
      have hmod0 : 0 ≤ ((x : Int) % (n : Int)) := Int.emod_nonneg _ (by omega)
      by_cases hx : x ≤ 18446744073709551615 - R
      · have hxi : (x : Int) ≤ 18446744073709551615 - (R : Int) := by omega
        have HXP := Lib.hid hx
        clear hx
        go_wp2_with fail
        refine HC2.out.mono ?_
        rintro e w2 ⟨rfl, S2, G2⟩
        have F := HF.out c x (Or.inr HXP.out) w2 ⟨kk, hX.out, hJ.out.2.1, S2, grown_trans hJ.out.2.2.2 G2⟩
        have HFF := Lib.hid F
        clear F S2 G2 HC2
        go_wp2_with fail
        go_ret
        exact ⟨ret_i64 (fst_eq HFF.out.1), HFF.out.2.1, HFF.out.2.2⟩
      · have hxi : ¬ ((x : Int) ≤ 18446744073709551615 - (R : Int)) := by omega
        have HXN := Lib.hid hx
        clear hx
        by_cases hc : c = 16
        · have hci : (c : Int) = 16 := by omega
          go_wp2_with fail
          refine HC2.out.mono ?_
          rintro e w2 ⟨rfl, S2, G2⟩
          have F := HF.out c x (Or.inl hc) w2 ⟨kk, hX.out, hJ.out.2.1, S2, grown_trans hJ.out.2.2.2 G2⟩
          have HFF := Lib.hid F
          clear F S2 G2 HC2
          go_wp2_with fail
          go_ret
          exact ⟨ret_i64 (fst_eq HFF.out.1), HFF.out.2.1, HFF.out.2.2⟩
        · have hci : ¬ (c : Int) = 16 := by omega
          have hcb : ((c : Int) == 16) = false := beq_eq_false_iff_ne.2 hci
          have hcl : c < 16 := by omega
          clear hc
          go_wp2_with fail
          refine HC2.out.mono ?_
          rintro e w2 ⟨rfl, S2, G2⟩
          have HN : Hid (∃ kk, kk ≤ 18446744073709551615 ∧ belN S n 15 k = belN S n (16 - (c + 1)) kk ∧ Src 29 w2 g S kk ∧ w.grownBy w2 (some g)) := by
            refine ⟨nx kk, Nat.le_of_lt_succ (nx_lt kk), ?_, S2, grown_trans hJ.out.2.2.2 G2⟩
            rw [hJ.out.2.1, show 16 - c = (16 - (c + 1)) + 1 by omega]
            exact belN_pass S n _ kk (by rw [← hX.out, ← hR.out]; exact HXN.out)
          clear S2 G2 HC2
          go_wp2_with fail
          go_roundw
          case rel => exact ⟨c + 1, by omega, by omega, by go_num, HN⟩
          case measure => simp [intOf]; omega
end Go.Proofs.YtgomconcfjllcaaDoor
