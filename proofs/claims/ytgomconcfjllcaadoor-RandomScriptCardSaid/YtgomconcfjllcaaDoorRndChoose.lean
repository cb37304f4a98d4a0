/-
  random.choose, called with the source's Word; (*random.Source).Below; (*electionref05.Source).Below.
-/
import Derived.Test.YtgomconcfjllcaaDoorRndRefWord
namespace Go.Proofs.YtgomconcfjllcaaDoor
open Go.RowKit Dig Rnd

theorem fst_eq {p : Nat × Nat} {x n b : Nat} (h : p = (x % n, b)) : (x : Int) % (n : Int) = ((p.1 : Nat) : Int) := by rw [h]; simp

set_option maxHeartbeats 3200000 in
set_option maxRecDepth 100000 in
theorem draw_c (g : Nat) (S : ByteArray) (k n : Nat) (w : World) (h : Src 44 w g S k) (hs : S.size ≤ 1000) (hk0 : k ≤ 18446744073709551615) (hn1 : 1 ≤ n) (hn2 : n ≤ 2147483648) (hT0 : KTab 1 w) :
    Calls Tryd.prog 25 #[.func (.func 11) #[.pointer (some ⟨g, 0, none⟩)] #[], .int .u64 (n : Int)] w fun e w' => e = .returned (.int .u64 ((belN S n 15 k).1 : Nat)) ∧ Src 44 w' g S (belN S n 15 k).2 ∧ w.grownBy w' (some g) := by
  have HC := Lib.hid (word_c g S k w h hs hk0 hT0)
  have HS := Lib.hid hs
  have hne := Lib.hid (h.apart hT0)
  have HT := Lib.hid hT0
  have hrem := neg_rem n hn1 hn2
  have hRn : restN n < n := restN_lt n hn1
  obtain ⟨R, hR⟩ : ∃ R, Hid (R = restN n) := ⟨_, rfl⟩
  rw [← hR.out] at hrem hRn
  obtain ⟨X, hX⟩ : ∃ X, Hid (X = wordN S k) := ⟨_, rfl⟩
  have hXl : X < 18446744073709551616 := by rw [hX.out]; exact wordN_lt S k
  rw [← hX.out] at HC
  clear h hs hk0 hT0
  go_enter Tryd.func25, Tryd.ntmps25
  go_wp2_with fail
  refine HC.out.mono ?_
  rintro e w1 ⟨rfl, S1, G1⟩
  have I0 : Hid (X = wordN S k ∧ belN S n 15 k = belN S n 15 k ∧ Src 44 w1 g S (nx k) ∧ w.grownBy w1 (some g)) := ⟨hX.out, rfl, S1, G1⟩
  clear S1 G1 HC
  go_wp2_with fail
  go_loopw [6, 7] (fun v i wr => ∃ (c x : Nat), 1 ≤ c ∧ c ≤ 16 ∧ x < 18446744073709551616 ∧ i = .int .i64 c ∧ v = .int .u64 (x : Int) ∧ Hid (∃ kk, x = wordN S kk ∧ belN S n 15 k = belN S n (16 - c) kk ∧ Src 44 wr g S (nx kk) ∧ w.grownBy wr (some g)))
    (fun _ i _ => 16 - (intOf i).toNat)
  case atStart => exact ⟨1, X, by omega, by omega, hXl, rfl, rfl, ⟨k, I0.out.1, rfl, I0.out.2.2.1, I0.out.2.2.2⟩⟩
  case round =>
    obtain ⟨c, x, hc1, hc2, hxl, rfl, rfl, hI⟩ := hrel
    have fin : (c = 16 ∨ x ≤ 18446744073709551615 - R) → Hid (belN S n 15 k = (x % n, (belN S n 15 k).2) ∧ Src 44 wr g S (belN S n 15 k).2 ∧ w.grownBy wr (some g)) := by
      intro hc
      obtain ⟨kk, hx, hb, hS, hG⟩ := hI.out
      have e : belN S n (16 - c) kk = (x % n, nx kk) := by
        rw [hx]
        refine belN_take S n _ kk ?_
        rcases hc with hc | hc
        · exact Or.inl (by omega)
        · exact Or.inr (by rw [← hx, ← hR.out]; exact hc)
      rw [e] at hb
      show _ ∧ _ ∧ _
      rw [hb]
      exact ⟨rfl, hS, hG⟩
    by_cases hc : c < 16
    · have hci : (c : Int) < 16 := by omega
      by_cases hx : x ≤ 18446744073709551615 - R
      · have hxi : ¬ ((x : Int) > 18446744073709551615 - (R : Int)) := by omega
        have F := fin (Or.inr hx)
        clear fin hI
        go_wp2_with fail
        go_ret
        exact ⟨ret_u64 (fst_eq F.out.1), F.out.2.1, F.out.2.2⟩
      · have hxi : ((x : Int) > 18446744073709551615 - (R : Int)) := by omega
        clear fin
        obtain ⟨kk, hJ⟩ : ∃ kk, Hid (x = wordN S kk ∧ belN S n 15 k = belN S n (16 - c) kk ∧ Src 44 wr g S (nx kk) ∧ w.grownBy wr (some g)) := by
          obtain ⟨kk, h⟩ := hI.out
          exact ⟨kk, h⟩
        clear hI
        obtain ⟨Y, hY⟩ : ∃ Y, Hid (Y = wordN S (nx kk)) := ⟨_, rfl⟩
        have hYl : Y < 18446744073709551616 := by rw [hY.out]; exact wordN_lt S _
        have HC2 := Lib.hid (word_c g S (nx kk) wr hJ.out.2.2.1 HS.out (Nat.le_of_lt_succ (nx_lt kk)) (HT.out.grown hJ.out.2.2.2 hne.out))
        rw [← hY.out] at HC2
        go_wp2_with fail
        refine HC2.out.mono ?_
        rintro e w2 ⟨rfl, S2, G2⟩
        have HN : Hid (∃ kk, Y = wordN S kk ∧ belN S n 15 k = belN S n (16 - (c + 1)) kk ∧ Src 44 w2 g S (nx kk) ∧ w.grownBy w2 (some g)) := by
          refine ⟨nx kk, hY.out, ?_, S2, grown_trans hJ.out.2.2.2 G2⟩
          rw [hJ.out.2.1, show 16 - c = (16 - (c + 1)) + 1 by omega]
          exact belN_pass S n _ kk (by rw [← hJ.out.1, ← hR.out]; exact hx)
        clear S2 G2 HC2
        go_wp2_with fail
        go_roundw
        case rel => exact ⟨c + 1, Y, by omega, by omega, hYl, by go_num, rfl, HN⟩
        case measure => simp [intOf]; omega
    · have hci : ¬ ((c : Int) < 16) := by omega
      have F := fin (Or.inl (by omega))
      clear fin hI
      go_wp2_with fail
      go_ret
      exact ⟨ret_u64 (fst_eq F.out.1), F.out.2.1, F.out.2.2⟩
end Go.Proofs.YtgomconcfjllcaaDoor
