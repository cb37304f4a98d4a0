/-
  The walk of FixedDigits.
-/
import Derived.Test.YtmojcnlddfijjaaDoorFixNo
import Derived.Test.YtmojcnlddfijjaaDoorFixRef
import Derived.Test.YtmojcnlddfijjaaDoorRatEq
import Derived.Deep.QuietTactic
import Derived.BigQuiet
namespace Go.Proofs.YtmojcnlddfijjaaDoor
open Go.RowKit NatMath RatMath FixMath

theorem short_any (ao : Option Addr) (n c : Nat) (xs : List Int) (k : Nat) (w : World) (h : Lst .u32 w ao n c xs) :
    Calls Tryd.prog 18 #[.slice ao n c, .int .i64 k] w fun e w' => e = .returned (.slice ao (xs.take k).length c) ∧ w' = w := by
  refine (short_c ao n c xs k w h).mono ?_
  rintro e w' ⟨rfl, n', hn', rfl, L⟩
  exact ⟨by rw [L.len], rfl⟩
theorem short_lst {ao : Option Addr} {n c : Nat} {xs : List Int} {k : Nat} {w : World} (h : Lst .u32 w ao n c xs) : Lst .u32 w ao (xs.take k).length c (xs.take k) ∧ (xs.take k).length ≤ k := by
  have hl := h.len
  have ht := h.take (m := (xs.take k).length) (by rw [List.length_take]; omega)
  have e : xs.take (xs.take k).length = xs.take k := by rw [List.take_eq_take_iff, List.length_take]; omega
  rw [e] at ht
  exact ⟨ht, by rw [List.length_take]; omega⟩

set_option maxHeartbeats 3200000 in
set_option maxRecDepth 100000 in
theorem fdigits_c (ao bo : Option Addr) (n c m d : Nat) (xs ys : List Int) (x : Int) (s : ByteArray) (w : World) (h : Lst .u32 w ao n c xs) (k : Lst .u32 w bo m d ys) (_ : s.size ≤ maxLen) (htab : Tab w) :
    Calls Tryd.prog 10 #[.agg #[.slice ao n c, .slice bo m d, .int .i64 x, .string s]] w fun e w' => e = .returned (.bool true) ∧ Below w.heap.size w w' := by
  have HT := Lib.hid htab
  have kA := Blk.new w 63 #[.slice ao n c, .slice bo m d, .int .i64 x, .string s]
  have bb := (Below.refl w.heap.size w).alloc (Nat.le_refl _) (.cells #[.slice ao n c, .slice bo m d, .int .i64 x, .string s] 63)
  have L1 := h.below bb
  have L2 := k.below bb
  obtain ⟨W0, hW0⟩ : ∃ W0, W0 = w.alloc (.cells #[.slice ao n c, .slice bo m d, .int .i64 x, .string s] 63) := ⟨_, rfl⟩
  rw [← hW0] at kA bb L1 L2
  have y0 := kA.cell 0; have y1 := kA.cell 1; have y2 := kA.cell 2; have y3 := kA.cell 3
  clear htab h k
  by_cases hx : 0 ≤ x ∧ x ≤ 6
  · have HM := Lib.hid (fun w1 => may_yes_c x w1 hx.1 hx.2)
    clear hx
    go_enter Tryd.func10, Tryd.ntmps10
    go_wp2_with fail
    rw [← hW0]
    clear hW0
    refine (HM.out W0).mono ?_
    rintro e w1 ⟨rfl, rfl⟩
    go_wp2_with fail
    refine (fawake_c _ (HT.out.below bb)).mono ?_
    rintro e w2 ⟨rfl, b2⟩
    go_wp2_with fail
    go_ret
    exact ⟨rfl, bb.trans (b2.mono bb.size)⟩
  · have hx' : x < 0 ∨ 6 < x := by omega
    have HM := Lib.hid (fun w1 => may_no_c x w1 hx')
    have HX := Lib.hid hx'
    obtain ⟨S1, hS1⟩ := short_lst (k := 3) L1
    obtain ⟨S2, hS2⟩ := short_lst (k := 3) L2
    obtain ⟨X, hX⟩ : ∃ X, Hid (X = xs.take 3) := ⟨_, rfl⟩
    obtain ⟨Y, hY⟩ : ∃ Y, Hid (Y = ys.take 3) := ⟨_, rfl⟩
    have HS1 := fun q => short_any ao n c xs 3 (W0.drewN q) (L1.drewN q)
    have HS2 := fun q => short_any bo m d ys 3 (W0.drewN q) (L2.drewN q)
    rw [← hX.out] at HS1 S1 hS1
    rw [← hY.out] at HS2 S2 hS2
    have HS1 := Lib.hid HS1; have HS2 := Lib.hid HS2
    have S1 := Lib.hid S1; have S2 := Lib.hid S2
    clear hx hx' hX hY L1 L2
    go_enter Tryd.func10, Tryd.ntmps10
    go_wp2_with fail
    rw [← hW0]
    refine (HM.out W0).mono ?_
    rintro e w1 ⟨rfl, rfl⟩
    clear hW0 HM
    go_wp2_with fail
    go_quiet ((first | (go_at_call_of 18 (Value.slice ao n c); exact Calls.quiet_of_same (HS1.out _)) | (go_at_call 18; exact Calls.quiet_of_same (HS2.out _))))
    clear HS1 HS2 kA y0 y1 y2 y3
    obtain ⟨T, hT⟩ : ∃ T, s.extract 0 (min (s.size : Int) 30).toNat = T := ⟨_, rfl⟩
    obtain ⟨n1, hn1⟩ : ∃ n1, Hid (n1 = X.length) := ⟨_, rfl⟩
    obtain ⟨n2, hn2⟩ : ∃ n2, Hid (n2 = Y.length) := ⟨_, rfl⟩
    have L1 := S1.out.drewN nq
    have L2 := S2.out.drewN nq
    replace bb := below_drewN bb nq
    rw [← hn1.out] at L1 hS1
    rw [← hn2.out] at L2 hS2
    rw [hT, ← hn1.out, ← hn2.out]
    clear hT hn1 hn2 S1 S2
    obtain ⟨u, hu⟩ : ∃ u, u = W0.drewN nq := ⟨_, rfl⟩
    rw [← hu] at L1 L2 bb ⊢
    clear hu
    have HC := Lib.hid (fdiv_no_c ao bo n1 c n2 d x true u HX.out)
    go_wp2_with fail
    refine HC.out.mono ?_
    rintro e w' ⟨rfl, rfl⟩
    clear HC
    have HC := Lib.hid (fparse_nod_c T x u HX.out)
    go_wp2_with fail
    refine HC.out.mono ?_
    rintro e w' ⟨rfl, rfl⟩
    clear HC
    have HC := Lib.hid (fawake_c u (HT.out.below bb))
    go_wp2_with fail
    refine HC.out.mono ?_
    rintro e v1 ⟨rfl, k1⟩
    clear HC
    replace L1 := L1.below k1; replace L2 := L2.below k1
    replace bb := Below.on bb k1 bb.size
    clear k1
    have HC := Lib.hid (fof_no_c 3 x v1 HX.out)
    go_wp2_with fail
    refine HC.out.mono ?_
    rintro e w' ⟨rfl, rfl⟩
    clear HC
    have HC := Lib.hid (fmul_no_c ao bo n1 c n2 d x true v1 HX.out)
    go_wp2_with fail
    refine HC.out.mono ?_
    rintro e w' ⟨rfl, rfl⟩
    clear HC
    have HC := Lib.hid (ftext_no_c ao n1 c x v1 HX.out)
    go_wp2_with fail
    refine HC.out.mono ?_
    rintro e w' ⟨rfl, rfl⟩
    clear HC
    have HC := Lib.hid (fratio_no_c ao n1 c x v1 HX.out)
    go_wp2_with fail
    refine HC.out.mono ?_
    rintro e v2 ⟨rfl, k2⟩
    clear HC
    replace L1 := L1.below k2; replace L2 := L2.below k2
    replace bb := Below.on bb k2 bb.size
    clear k2
    have he := eq2_c false false none none none none 0 0 0 0 0 0 0 0 [] [] [] [] v2 (Lst.nil _ _) (Lst.nil _ _) (Lst.nil _ _) (Lst.nil _ _)
    rw [decide_eq_true ⟨rfl, rfl, rfl⟩] at he
    have HC := Lib.hid (he)
    go_wp2_with fail
    refine HC.out.mono ?_
    rintro e v3 ⟨rfl, k3⟩
    clear HC
    replace L1 := L1.below k3; replace L2 := L2.below k3
    replace bb := Below.on bb k3 bb.size
    clear k3
    clear he
    go_wp2_with fail
    go_ret
    exact ⟨rfl, bb⟩
end Go.Proofs.YtmojcnlddfijjaaDoor
