/-
  ratio.magnitude, ratio.Frac, ratio.Of.
-/
import Derived.Test.YtmojcnlddfijjaaGreatDoorRatBase
import Derived.Deep.RegionHeld3
import Derived.Test.YtmojcnlddfijjaaGreatDoorRatParse
import Derived.Test.YtmojcnlddfijjaaGreatDoorRatOps
import Derived.Test.YtmojcnlddfijjaaGreatDoorNatHelp
namespace Go.Proofs.YtmojcnlddfijjaaGreatDoor
open Go.RowKit NatMath RatMath

theorem u64_of_neg {n : Int} (h : n < 0) (h0 : -9223372036854775808 ≤ n) : IntKind.u64.wrap n = n + 18446744073709551616 := by
  rw [IntKind.wrap_u64]; omega
theorem u64_of_pos {n : Int} (h : 0 ≤ n) (h1 : n ≤ 9223372036854775807) : IntKind.u64.wrap n = n := by
  rw [IntKind.wrap_u64]; omega

set_option maxHeartbeats 1600000 in
theorem magnitude_c (n : Int) (w : World) (h0 : -9223372036854775808 ≤ n) (h1 : n ≤ 9223372036854775807) :
    Calls Tryz.prog 55 #[.int .i64 n] w fun e w' => ∃ a n' c', n' ≤ 2 ∧ e = .returned (.slice a n' c') ∧ Own 66 .u32 w.heap.size w' a n' c' (limbs n.natAbs) ∧ Below w.heap.size w w' := by
  obtain ⟨m, hm⟩ : ∃ m : Nat, Hid (m = n.natAbs) := ⟨_, rfl⟩
  have hmb : m ≤ 9223372036854775808 := by rw [hm.out]; omega
  have HO := of_c (m : Int) w (by omega) (by omega)
  rw [Int.toNat_natCast] at HO
  rw [← hm.out]
  have HO := Lib.hid HO
  by_cases hn : n < 0
  · have hd : decide (n < 0) = true := by simpa using hn
    have e1 := u64_of_neg hn h0
    have e2 : n = -(m : Int) := by rw [hm.out]; omega
    subst e2
    go_enter Tryz.func55, Tryz.ntmps55
    go_wp2_with fail
    rw [show IntKind.u64.wrap (-(-(m : Int) + 18446744073709551616)) = (m : Int) by rw [IntKind.wrap_u64]; omega]
    refine HO.out.mono ?_
    rintro e w1 ⟨a, n', c', hn', rfl, o, b⟩
    go_wp2_with fail
    go_ret
    exact ⟨a, n', c', hn', rfl, o, b⟩
  · have hd : decide (n < 0) = false := by simpa using hn
    have e2 : n = (m : Int) := by rw [hm.out]; omega
    subst e2
    go_enter Tryz.func55, Tryz.ntmps55
    go_wp2_with fail
    refine HO.out.mono ?_
    rintro e w1 ⟨a, n', c', hn', rfl, o, b⟩
    go_wp2_with fail
    go_ret
    exact ⟨a, n', c', hn', rfl, o, b⟩

set_option maxHeartbeats 3200000 in
set_option maxRecDepth 100000 in
theorem frac_c (x y : Int) (w : World) (x0 : -9223372036854775808 ≤ x) (x1 : x ≤ 9223372036854775807) (y0 : -9223372036854775808 ≤ y) (y1 : y ≤ 9223372036854775807) :
    Calls Tryz.prog 30 #[.int .i64 x, .int .i64 y] w fun e w' => ∃ s a n c b m d, e = .returned (.agg #[.bool s, .slice a n c, .slice b m d]) ∧ s = (nf ⟨decide (x < 0) != decide (y < 0), x.natAbs, y.natAbs⟩).s ∧ Own 66 .u32 w.heap.size w' a n c (limbs (nf ⟨decide (x < 0) != decide (y < 0), x.natAbs, y.natAbs⟩).p) ∧ Own 66 .u32 w.heap.size w' b m d (limbs (nf ⟨decide (x < 0) != decide (y < 0), x.natAbs, y.natAbs⟩).q) ∧ n ≤ 2 ∧ m ≤ 3 ∧ Below w.heap.size w w' := by
  obtain ⟨sg, hsg⟩ : ∃ sg, Hid (sg = (decide (x < 0) != decide (y < 0))) := ⟨_, rfl⟩
  rw [← hsg.out]
  have hsgn : (!(decide (x < 0) == decide (y < 0))) = sg := hsg.out.symm
  go_enter Tryz.func30, Tryz.ntmps30
  go_wp2_with fail
  have kZ := Blk.new w 25 #[.bool false, .slice none 0 0, .slice none 0 0]
  have bb := (Below.refl w.heap.size w).alloc (Nat.le_refl _) (.cells #[.bool false, .slice none 0 0, .slice none 0 0] 25)
  obtain ⟨W0, hW0⟩ : ∃ W0, W0 = w.alloc (.cells #[.bool false, .slice none 0 0, .slice none 0 0] 25) := ⟨_, rfl⟩
  rw [← hW0] at kZ bb ⊢
  clear hW0
  refine (magnitude_c x W0 x0 x1).mono ?_
  rintro e w1 ⟨a1, n1, c1, hn1, rfl, o1, B1⟩
  have K1 := kZ.on B1
  have BB1 := bb.trans (B1.mono bb.size)
  go_wp2_with fail
  refine (magnitude_c y w1 y0 y1).mono ?_
  rintro e w2 ⟨a2, n2, c2, hn2, rfl, o2, B2⟩
  have K2 := K1.on B2
  have BB2 := BB1.trans (B2.mono BB1.size)
  have hmk := make_c sg a1 a2 n1 c1 n2 c2 _ _ w2 (o1.kept B2).lst o2.lst (by omega) (by omega)
  rw [val_limbs, val_limbs] at hmk
  have HM := Lib.hid hmk
  clear hmk o1 o2 B1 B2 K1 kZ bb BB1
  go_wp2_with fail
  try rw [hsgn]
  refine HM.out.mono ?_
  rintro e w3 ⟨s3, a3, n3, c3, b3, m3, d3, rfl, hs3, o3, o4, hn3, hm3, bb3⟩
  have K3 := K2.on bb3
  have BB3 := BB2.trans (bb3.mono BB2.size)
  have h3 := o3.hi (g := w.heap.size) K2.lt
  have h4 := o4.hi (g := w.heap.size) K2.lt
  have O3 := Lib.hid (o3.low BB2.size)
  have O4 := Lib.hid (o4.low BB2.size)
  obtain ⟨q0, q1, q2, q3, q4, q5⟩ := K3.store3 (.bool s3) (.slice a3 n3 c3)
  have HS3 := Lib.hid hs3
  clear hs3 bb3 o3 o4 BB2 K2 HM
  go_wp2_with fail
  have pbox := K3.put3 (.bool s3) (.slice a3 n3 c3) (.slice b3 m3 d3)
  have pbel := below_put3 BB3 (Nat.le_refl _) (.bool s3) (.slice a3 n3 c3) (.slice b3 m3 d3)
  have p3 := O3.out.put3 h3 (.bool s3) (.slice a3 n3 c3) (.slice b3 m3 d3)
  have p4 := O4.out.put3 h4 (.bool s3) (.slice a3 n3 c3) (.slice b3 m3 d3)
  obtain ⟨W, hW⟩ : ∃ W, W = put3 w3 w.heap.size (.bool s3) (.slice a3 n3 c3) (.slice b3 m3 d3) := ⟨_, rfl⟩
  change bodyPost _ _ _ _ _ (put3 w3 w.heap.size (.bool s3) (.slice a3 n3 c3) (.slice b3 m3 d3))
  rw [← hW] at pbox pbel p3 p4 ⊢
  obtain ⟨r0, r1, r2⟩ := pbox.cells3
  refine bodyPost_ret (v := .agg #[.bool s3, .slice a3 n3 c3, .slice b3 m3 d3]) (by simp [results, Tryz.results30, go_sem, r0, r1, r2]) rfl ?_
  exact ⟨s3, a3, n3, c3, b3, m3, d3, rfl, HS3.out, p3, p4, by omega, by omega, pbel⟩

theorem frac_one (x : Int) : nf ⟨decide (x < 0) != decide ((1 : Int) < 0), x.natAbs, (1 : Int).natAbs⟩ = nf ⟨decide (x < 0), x.natAbs, 1⟩ := by
  have : (decide (x < 0) != decide ((1 : Int) < 0)) = decide (x < 0) := by
    rw [show decide ((1 : Int) < 0) = false from rfl]
    cases decide (x < 0) <;> rfl
  rw [this]
  rfl

set_option maxHeartbeats 3200000 in
set_option maxRecDepth 100000 in
theorem rof_c (x : Int) (w : World) (x0 : -9223372036854775808 ≤ x) (x1 : x ≤ 9223372036854775807) :
    Calls Tryz.prog 29 #[.int .i64 x] w fun e w' => ∃ s a n c b m d, e = .returned (.agg #[.bool s, .slice a n c, .slice b m d]) ∧ s = (nf ⟨decide (x < 0), x.natAbs, 1⟩).s ∧ Own 66 .u32 w.heap.size w' a n c (limbs (nf ⟨decide (x < 0), x.natAbs, 1⟩).p) ∧ Own 66 .u32 w.heap.size w' b m d (limbs (nf ⟨decide (x < 0), x.natAbs, 1⟩).q) ∧ n ≤ 2 ∧ m ≤ 3 ∧ Below w.heap.size w w' := by
  go_enter Tryz.func29, Tryz.ntmps29
  go_wp2_with fail
  have kZ := Blk.new w 25 #[.bool false, .slice none 0 0, .slice none 0 0]
  have bb := (Below.refl w.heap.size w).alloc (Nat.le_refl _) (.cells #[.bool false, .slice none 0 0, .slice none 0 0] 25)
  obtain ⟨W0, hW0⟩ : ∃ W0, W0 = w.alloc (.cells #[.bool false, .slice none 0 0, .slice none 0 0] 25) := ⟨_, rfl⟩
  rw [← hW0] at kZ bb ⊢
  clear hW0
  have hfr := frac_c x 1 W0 x0 x1 (by omega) (by omega)
  rw [frac_one] at hfr
  have HM := Lib.hid hfr
  clear hfr
  refine HM.out.mono ?_
  rintro e w3 ⟨s3, a3, n3, c3, b3, m3, d3, rfl, hs3, o3, o4, hn3, hm3, bb3⟩
  have K3 := kZ.on bb3
  have BB3 := bb.trans (bb3.mono bb.size)
  have h3 := o3.hi (g := w.heap.size) kZ.lt
  have h4 := o4.hi (g := w.heap.size) kZ.lt
  have O3 := Lib.hid (o3.low bb.size)
  have O4 := Lib.hid (o4.low bb.size)
  obtain ⟨q0, q1, q2, q3, q4, q5⟩ := K3.store3 (.bool s3) (.slice a3 n3 c3)
  have HS3 := Lib.hid hs3
  clear hs3 bb3 o3 o4 bb kZ HM
  go_wp2_with fail
  have pbox := K3.put3 (.bool s3) (.slice a3 n3 c3) (.slice b3 m3 d3)
  have pbel := below_put3 BB3 (Nat.le_refl _) (.bool s3) (.slice a3 n3 c3) (.slice b3 m3 d3)
  have p3 := O3.out.put3 h3 (.bool s3) (.slice a3 n3 c3) (.slice b3 m3 d3)
  have p4 := O4.out.put3 h4 (.bool s3) (.slice a3 n3 c3) (.slice b3 m3 d3)
  obtain ⟨W, hW⟩ : ∃ W, W = put3 w3 w.heap.size (.bool s3) (.slice a3 n3 c3) (.slice b3 m3 d3) := ⟨_, rfl⟩
  change bodyPost _ _ _ _ _ (put3 w3 w.heap.size (.bool s3) (.slice a3 n3 c3) (.slice b3 m3 d3))
  rw [← hW] at pbox pbel p3 p4 ⊢
  obtain ⟨r0, r1, r2⟩ := pbox.cells3
  refine bodyPost_ret (v := .agg #[.bool s3, .slice a3 n3 c3, .slice b3 m3 d3]) (by simp [results, Tryz.results29, go_sem, r0, r1, r2]) rfl ?_
  exact ⟨s3, a3, n3, c3, b3, m3, d3, rfl, HS3.out, p3, p4, hn3, hm3, pbel⟩
end Go.Proofs.YtmojcnlddfijjaaGreatDoor

/-
  electionlaw02.Awake.
-/
namespace Go.Proofs.YtmojcnlddfijjaaGreatDoor
open Go.RowKit NatMath RatMath

theorem tx32 : tx ⟨true, 3, 2⟩ = ⟨#[45, 51, 47, 50]⟩ := by
  apply bytes_ext
  rw [tx_list, Lib.decDigits_one (show (R.mk true 3 2).p < 10 by decide), Lib.decDigits_one (show (R.mk true 3 2).q < 10 by decide)]
  rfl
theorem tx12 : tx ⟨false, 1, 2⟩ = ⟨#[49, 47, 50]⟩ := by
  apply bytes_ext
  rw [tx_list, Lib.decDigits_one (show (R.mk false 1 2).p < 10 by decide), Lib.decDigits_one (show (R.mk false 1 2).q < 10 by decide)]
  rfl
theorem nf32 : nf ⟨true, 3, 2⟩ = ⟨true, 3, 2⟩ := by decide
theorem nf12 : nf (sm (dv ⟨true, 3, 2⟩) (dv ⟨false, 2, 1⟩)) = ⟨false, 1, 2⟩ := by decide
theorem nf64 : nf ⟨true, 6, 4⟩ = ⟨true, 3, 2⟩ := by decide
theorem nf2 : nf ⟨decide ((2 : Int) < 0), (2 : Int).natAbs, 1⟩ = ⟨false, 2, 1⟩ := by decide
theorem nf64' : nf ⟨decide ((-6 : Int) < 0) != decide ((4 : Int) < 0), (-6 : Int).natAbs, (4 : Int).natAbs⟩ = ⟨true, 3, 2⟩ := by decide
theorem cmp32 : RatMath.cmp ⟨true, 3, 2⟩ ⟨true, 3, 2⟩ = 0 := by decide
theorem limbs_small {v : Nat} (h0 : 0 < v) (h : v < 4294967296) : limbs v = [(v : Int)] := by
  rw [limbs_pos (by omega), show v / 4294967296 = 0 by omega, limbs_zero, show v % 4294967296 = v by omega]
theorem parse32_c (w : World) :
    Calls Tryz.prog 27 #[.string ⟨#[45, 51, 47, 50]⟩] w fun e w' => ∃ a n c a' n' c', e = .returned (.tuple #[.agg #[.bool true, .slice a n c, .slice a' n' c'], .bool true]) ∧ Own 66 .u32 w.heap.size w' a n c [3] ∧ Own 66 .u32 w.heap.size w' a' n' c' [2] ∧ Below w.heap.size w w' := by
  have h := rparse_c (tx ⟨true, 3, 2⟩) w (by rw [tx32]; decide) (by rw [(tx_parts _).1]; exact Nat.le_trans (dg_size20 (by decide)) (by omega)) (by rw [(tx_parts _).2]; exact Nat.le_trans (dg_size20 (by decide)) (by omega))
  rw [tx_ok nf32, (tx_parts _).1, (tx_parts _).2, (tx_sign _).1, pv_dg, pv_dg, limbs_small (by decide) (by decide), limbs_small (by decide) (by decide), tx32] at h
  refine h.mono ?_
  rintro e w' ⟨b, a, n, c, a', n', c', rfl, _, _, h1, _, hb⟩
  obtain ⟨rfl, o1, o2⟩ := h1 rfl
  exact ⟨a, n, c, a', n', c', rfl, o1, o2, hb⟩

theorem addS_c {a b a2 b2 : Option Addr} {n c m d n2 c2 m2 d2 : Nat} (w : World) (h1 : Lst .u32 w a n c [3]) (k1 : Lst .u32 w b m d [2]) (h2 : Lst .u32 w a2 n2 c2 (limbs 2)) (k2 : Lst .u32 w b2 m2 d2 (limbs 1)) (hn : 1 = n) (hm : 1 = m) (hn2 : n2 ≤ 2) (hm2 : m2 ≤ 3) :
    Calls Tryz.prog 10 #[.agg #[.bool true, .slice a n c, .slice b m d], .agg #[.bool false, .slice a2 n2 c2, .slice b2 m2 d2]] w fun e w' => ∃ a n c b m d, e = .returned (.agg #[.bool false, .slice a n c, .slice b m d]) ∧ Own 66 .u32 w.heap.size w' a n c [1] ∧ Own 66 .u32 w.heap.size w' b m d [2] ∧ n ≤ 4 ∧ m ≤ 4 ∧ Below w.heap.size w w' := by
  have h := radd_c true false a b a2 b2 n c m d n2 c2 m2 d2 3 _ _ _ _ w h1 k1 h2 k2 (by omega) (by omega) (by omega) (by omega) (by omega)
  rw [val_limbs, val_limbs, show val [3] = 3 from rfl, show val [2] = 2 from rfl, nf12] at h
  refine h.mono ?_
  rintro e w' ⟨s, a, n, c, b, m, d, rfl, rfl, o1, o2, _, _, hb⟩
  rw [show limbs (R.mk false 1 2).p = [1] from limbs_small (v := 1) (by decide) (by decide)] at o1
  rw [show limbs (R.mk false 1 2).q = [2] from limbs_small (v := 2) (by decide) (by decide)] at o2
  have e1 := o1.len
  have e2 := o2.len
  simp only [List.length_cons, List.length_nil] at e1 e2
  exact ⟨a, n, c, b, m, d, rfl, o1, o2, by omega, by omega, hb⟩
theorem cmpS_c {a b a2 b2 : Option Addr} {n c m d n2 c2 m2 d2 : Nat} (w : World) (h1 : Lst .u32 w a n c [3]) (k1 : Lst .u32 w b m d [2]) (h2 : Lst .u32 w a2 n2 c2 (limbs 3)) (k2 : Lst .u32 w b2 m2 d2 (limbs 2)) (hn : 1 = n) (hm : 1 = m) (hn2 : n2 ≤ 2) (hm2 : m2 ≤ 3) :
    Calls Tryz.prog 21 #[.agg #[.bool true, .slice a n c, .slice b m d], .agg #[.bool true, .slice a2 n2 c2, .slice b2 m2 d2]] w fun e w' => e = .returned (.int .i64 0) ∧ Below w.heap.size w w' := by
  have h := rcmp_c true true a b a2 b2 n c m d n2 c2 m2 d2 3 _ _ _ _ w h1 k1 h2 k2 (by omega) (by omega) (by omega) (by omega) (by omega)
  rw [val_limbs, val_limbs, show val [3] = 3 from rfl, show val [2] = 2 from rfl, cmp32] at h
  exact h

set_option maxHeartbeats 6400000 in
set_option maxRecDepth 100000 in
theorem awake2_c (w : World) (htab : Tab w) :
    Calls Tryz.prog 8 #[] w fun e w' => e = .returned (.bool true) ∧ Below w.heap.size w w' := by
  have HT := Lib.hid htab
  clear htab
  go_enter Tryz.func8, Tryz.ntmps8
  go_wp2_with fail
  refine (parse32_c w).mono ?_
  rintro e w1 ⟨a1, n1, c1, b1, m1, d1, rfl, o1, o2, B1⟩
  have N1 : Hid (1 = n1) := o1.len
  have N2 : Hid (1 = m1) := o2.len
  obtain ⟨g, hg⟩ : ∃ g, Hid (g = w1.heap.size) := ⟨_, rfl⟩
  have kA := Blk.new w1 25 #[.bool true, .slice a1 n1 c1, .slice b1 m1 d1]
  have bb := B1.alloc B1.size (.cells #[.bool true, .slice a1 n1 c1, .slice b1 m1 d1] 25)
  have L1 := (o1.kept ((Below.refl w1.heap.size w1).alloc (Nat.le_refl _) (.cells #[.bool true, .slice a1 n1 c1, .slice b1 m1 d1] 25))).lst
  have L2 := (o2.kept ((Below.refl w1.heap.size w1).alloc (Nat.le_refl _) (.cells #[.bool true, .slice a1 n1 c1, .slice b1 m1 d1] 25))).lst
  go_wp2_with fail
  obtain ⟨W0, hW0⟩ : ∃ W0, W0 = w1.alloc (.cells #[.bool true, .slice a1 n1 c1, .slice b1 m1 d1] 25) := ⟨_, rfl⟩
  rw [← hW0] at kA bb L1 L2 ⊢
  rw [← hg.out] at kA ⊢
  clear hW0 o1 o2 B1
  clear hg
  have DA : Hid (Blk W0.drew g 25 #[.bool true, .slice a1 n1 c1, .slice b1 m1 d1]) := kA
  have DB : Hid (Below w.heap.size w W0.drew) := bb.drew
  have DL1 := Lib.hid (L1.drewN 1)
  have DL2 := Lib.hid (L2.drewN 1)
  obtain ⟨y0, y1, y2⟩ := kA.cells3
  clear kA bb L1 L2
  go_region_held3 (fun w' => w'.cell? ⟨g, 0, none⟩ = some (.bool true) ∧ w'.cell? ⟨g, 1, none⟩ = some (.slice a1 n1 c1) ∧ w'.cell? ⟨g, 2, none⟩ = some (.slice b1 m1 d1)) (go_keep) (first
    | (go_at_call 29; have hof := rof_c 2 W0.drew (by omega) (by omega); rw [nf2] at hof; refine hof.mono ?_; rintro e v1 ⟨s2, a2, n2, c2, b2, m2, d2, rfl, rfl, o3, o4, hn2, hm2, B1⟩; clear hof; have A1 := DA.out.on B1; obtain ⟨z0, z1, z2⟩ := A1.cells3; have BB1 := DB.out.trans (B1.mono DB.out.size); have M1 := Lib.hid (DL1.out.below B1); have M2 := Lib.hid (DL2.out.below B1); have O3 := Lib.hid o3.lst; have O4 := Lib.hid o4.lst; clear o3 o4 B1)
    | (go_at_call 10; have had := addS_c v1 M1.out M2.out O3.out O4.out N1.out N2.out hn2 hm2; refine had.mono ?_; rintro e v2 ⟨a3, n3, c3, b3, m3, d3, rfl, o5, o6, hn3, hm3, B2⟩; clear had; have A2 := A1.on B2; obtain ⟨k0, k1, k2⟩ := A2.cells3; have BB2 := BB1.trans (B2.mono BB1.size); have T1 := Lib.hid (M1.out.below B2); have T2 := Lib.hid (M2.out.below B2); have O5 := Lib.hid o5; have O6 := Lib.hid o6; clear o5 o6 B2)
    | (go_at_call 28; have htx := rtext_c false a3 b3 n3 c3 m3 d3 [1] [2] v2 O5.out.lst O6.out.lst hn3 hm3 (HT.out.below BB2); rw [show (nf ⟨false, val [1], val [2]⟩) = ⟨false, 1, 2⟩ by decide, tx12] at htx; refine htx.mono ?_; rintro e v3 ⟨rfl, B3⟩; clear htx; have A3 := A2.on B3; obtain ⟨l0, l1, l2⟩ := A3.cells3; have BB3 := BB2.trans (B3.mono BB2.size); have U1 := Lib.hid (T1.out.below B3); have U2 := Lib.hid (T2.out.below B3); clear B3)
    | (go_at_call 30; have hfr := frac_c (-6) 4 v3 (by omega) (by omega) (by omega) (by omega); rw [nf64'] at hfr; refine hfr.mono ?_; rintro e v4 ⟨s4, a4, n4, c4, b4, m4, d4, rfl, rfl, o7, o8, hn4, hm4, B4⟩; clear hfr; have A4 := A3.on B4; obtain ⟨j0, j1, j2⟩ := A4.cells3; have BB4 := BB3.trans (B4.mono BB3.size); have V1 := Lib.hid (U1.out.below B4); have V2 := Lib.hid (U2.out.below B4); have O7 := Lib.hid o7.lst; have O8 := Lib.hid o8.lst; clear o7 o8 B4)
    | (go_at_call 21; have hcm := cmpS_c v4 V1.out V2.out O7.out O8.out N1.out N2.out hn4 hm4; refine hcm.mono ?_; rintro e v5 ⟨rfl, B5⟩; clear hcm; have A5 := A4.on B5; obtain ⟨i0, i1, i2⟩ := A5.cells3; have BB5 := BB4.trans (B5.mono BB4.size); clear B5))
  go_wp2_with fail
  go_ret
  exact ⟨rfl, BB5⟩
end Go.Proofs.YtmojcnlddfijjaaGreatDoor
