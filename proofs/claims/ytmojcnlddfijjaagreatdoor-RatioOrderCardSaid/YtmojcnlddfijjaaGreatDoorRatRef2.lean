/-
  electionref02.Word, Of, Div.
-/
import Derived.Test.YtmojcnlddfijjaaGreatDoorRatLaw
import Derived.Test.YtmojcnlddfijjaaGreatDoorRatAwake
import Derived.Test.YtmojcnlddfijjaaGreatDoorNatSmall
import Derived.Test.YtmojcnlddfijjaaGreatDoorNatRefMul
import Derived.Deep.RegionHeld3
import Derived.Test.YtmojcnlddfijjaaGreatDoorRatMath
import Derived.Test.YtmojcnlddfijjaaGreatDoorNatRefAdd
import Derived.Test.YtmojcnlddfijjaaGreatDoorNatRefDiv
import Derived.Deep.DeepCutAuto
namespace Go.Proofs.YtmojcnlddfijjaaGreatDoor
open Go.RowKit NatMath RatMath

set_option maxHeartbeats 1600000 in
set_option maxRecDepth 100000 in
theorem word_c (n : Nat) (w : World) (hn : n ≤ 18446744073709551615) :
    Calls Tryz.prog 42 #[.int .u64 n] w fun e w' => ∃ a n' c', e = .returned (.slice a n' c') ∧ OwnT w.heap.size w' a n' c' (bitsN n) ∧ Below w.heap.size w w' := by
  go_enter Tryz.func42, Tryz.ntmps42
  go_wp2_with fail
  have bb := (Below.refl w.heap.size w).alloc (Nat.le_refl _) (.cells #[.int .u32 ((n : Int) % 4294967296), .int .u32 ((n : Int) / 4294967296)] 66)
  have wf0 : (Lit.int .u32 ((n : Int) % 4294967296)).wf = true := wf_u32 (by omega) (by omega)
  have wf1 : (Lit.int .u32 ((n : Int) / 4294967296)).wf = true := wf_u32 (by omega) (by omega)
  have lit : Own 66 .u32 w.heap.size (w.alloc (.cells #[.int .u32 ((n : Int) % 4294967296), .int .u32 ((n : Int) / 4294967296)] 66)) (some ⟨w.heap.size, 0, none⟩) 2 2 [(n : Int) % 4294967296, (n : Int) / 4294967296] := by
    refine ⟨World.ownsRow_lit w #[.int .u32 ((n : Int) % 4294967296), .int .u32 ((n : Int) / 4294967296)] 2 (Nat.le_refl _) (by unfold maxLen; omega) rfl, ?_⟩
    intro y hy
    simp at hy
    rcases hy with rfl | rfl
    · exact wf0
    · exact wf1
  have hv : val [(n : Int) % 4294967296, (n : Int) / 4294967296] = n := by
    show ((n : Int) % 4294967296).toNat + 4294967296 * (((n : Int) / 4294967296).toNat + 4294967296 * 0) = n
    omega
  have hf := from_c _ _ _ _ _ lit.lst (by omega)
  rw [hv] at hf
  refine hf.mono ?_
  rintro e w1 ⟨a, n', c', rfl, o, B1⟩
  have o := o.low bb.size
  have BB := bb.trans (B1.mono bb.size)
  clear hf lit bb B1
  go_wp2_with fail
  go_ret
  exact ⟨a, n', c', rfl, o, BB⟩

set_option maxHeartbeats 3200000 in
set_option maxRecDepth 100000 in
theorem of2_c (x : Int) (w : World) (x0 : -9223372036854775808 ≤ x) (x1 : x ≤ 9223372036854775807) :
    Calls Tryz.prog 17 #[.int .i64 x] w fun e w' => ∃ s a n c b m d, e = .returned (.agg #[.bool s, .slice a n c, .slice b m d]) ∧ s = (nf ⟨decide (x < 0), x.natAbs, 1⟩).s ∧ OwnT w.heap.size w' a n c (bitsN (nf ⟨decide (x < 0), x.natAbs, 1⟩).p) ∧ OwnT w.heap.size w' b m d (bitsN (nf ⟨decide (x < 0), x.natAbs, 1⟩).q) ∧ Below w.heap.size w w' := by
  obtain ⟨m, hm0⟩ : ∃ m, Hid (m = x.natAbs) := ⟨_, rfl⟩
  have hm : m ≤ 18446744073709551615 := by rw [hm0.out]; omega
  obtain ⟨z, hz⟩ : ∃ z, Hid (z = nf ⟨decide (x < 0), x.natAbs, 1⟩) := ⟨_, rfl⟩
  rw [← hz.out]
  by_cases hx : x < 0
  · have hd : decide (x < 0) = true := by simpa using hx
    have HV : Hid (-(x + 1) + 1 = (m : Int)) := by show _ = _; rw [hm0.out]; omega
    have HS : Hid (nf ⟨true, m, 1⟩ = z) := by show _ = _; rw [hz.out, hm0.out, hd]
    go_enter Tryz.func17, Tryz.ntmps17
    go_wp2_with fail
    have kZ := Blk.new w 30 #[.bool false, .slice none 0 0, .slice none 0 0]
    have bb := (Below.refl w.heap.size w).alloc (Nat.le_refl _) (.cells #[.bool false, .slice none 0 0, .slice none 0 0] 30)
    obtain ⟨W0, hW0⟩ : ∃ W0, W0 = w.alloc (.cells #[.bool false, .slice none 0 0, .slice none 0 0] 30) := ⟨_, rfl⟩
    rw [← hW0] at kZ bb ⊢
    clear hW0
    rw [HV.out]
    refine (word_c m W0 hm).mono ?_
    rintro e w1 ⟨a1, n1, c1, rfl, o1, B1⟩
    have k1 := kZ.on B1
    have b1 := bb.trans (B1.mono bb.size)
    have L1 := Lib.hid o1
    have N1 := o1.bound (k := 64) (by have : (2 : Nat) ^ 64 = 18446744073709551616 := by decide
                                      omega)
    clear kZ bb B1 o1
    go_wp2_with fail
    refine (small_c 1 w1 (by omega)).mono ?_
    rintro e w2 ⟨a2, n2, c2, rfl, o2, B2⟩
    have k2 := k1.on B2
    have b2 := b1.trans (B2.mono b1.size)
    have N2 := o2.bound (k := 1) (by decide)
    have hno := norm2_c true a1 a2 n1 c1 n2 c2 m 1 w2 (L1.out.lst.below B2) o2.lst (by omega) (by omega)
    rw [HS.out] at hno
    have HN := Lib.hid hno
    clear hno k1 b1 B2 o2 L1
    go_wp2_with fail
    refine HN.out.mono ?_
    rintro e w3 ⟨s3, a3, n3, c3, b3, m3, d3, rfl, hs3, o3, o4, bb3⟩
    have K3 := k2.on bb3
    have BB3 := b2.trans (bb3.mono b2.size)
    have h3 := o3.hi (g := w.heap.size) k2.lt
    have h4 := o4.hi (g := w.heap.size) k2.lt
    have O3 := Lib.hid (o3.low b2.size)
    have O4 := Lib.hid (o4.low b2.size)
    obtain ⟨q0, q1, q2, q3, q4, q5⟩ := K3.store3 (.bool s3) (.slice a3 n3 c3)
    have HS3 := Lib.hid hs3
    clear hs3 bb3 o3 o4 b2 k2 HN
    go_wp2_with fail
    have pbox := K3.put3 (.bool s3) (.slice a3 n3 c3) (.slice b3 m3 d3)
    have pbel := below_put3 BB3 (Nat.le_refl _) (.bool s3) (.slice a3 n3 c3) (.slice b3 m3 d3)
    have p3 := O3.out.put3 h3 (.bool s3) (.slice a3 n3 c3) (.slice b3 m3 d3)
    have p4 := O4.out.put3 h4 (.bool s3) (.slice a3 n3 c3) (.slice b3 m3 d3)
    obtain ⟨W, hW⟩ : ∃ W, W = put3 w3 w.heap.size (.bool s3) (.slice a3 n3 c3) (.slice b3 m3 d3) := ⟨_, rfl⟩
    change bodyPost _ _ _ _ _ (put3 w3 w.heap.size (.bool s3) (.slice a3 n3 c3) (.slice b3 m3 d3))
    rw [← hW] at pbox pbel p3 p4 ⊢
    obtain ⟨r0, r1, r2⟩ := pbox.cells3
    refine bodyPost_ret (v := .agg #[.bool s3, .slice a3 n3 c3, .slice b3 m3 d3]) (by simp [results, Tryz.results17, go_sem, r0, r1, r2]) rfl ?_
    exact ⟨s3, a3, n3, c3, b3, m3, d3, rfl, HS3.out, p3, p4, pbel⟩
  · have hd : decide (x < 0) = false := by simpa using hx
    have HV : Hid (x = (m : Int)) := by show _ = _; rw [hm0.out]; omega
    have HS : Hid (nf ⟨false, m, 1⟩ = z) := by show _ = _; rw [hz.out, hm0.out, hd]
    go_enter Tryz.func17, Tryz.ntmps17
    go_wp2_with fail
    have kZ := Blk.new w 30 #[.bool false, .slice none 0 0, .slice none 0 0]
    have bb := (Below.refl w.heap.size w).alloc (Nat.le_refl _) (.cells #[.bool false, .slice none 0 0, .slice none 0 0] 30)
    obtain ⟨W0, hW0⟩ : ∃ W0, W0 = w.alloc (.cells #[.bool false, .slice none 0 0, .slice none 0 0] 30) := ⟨_, rfl⟩
    rw [← hW0] at kZ bb ⊢
    clear hW0
    rw [HV.out]
    refine (word_c m W0 hm).mono ?_
    rintro e w1 ⟨a1, n1, c1, rfl, o1, B1⟩
    have k1 := kZ.on B1
    have b1 := bb.trans (B1.mono bb.size)
    have L1 := Lib.hid o1
    have N1 := o1.bound (k := 64) (by have : (2 : Nat) ^ 64 = 18446744073709551616 := by decide
                                      omega)
    clear kZ bb B1 o1
    go_wp2_with fail
    refine (small_c 1 w1 (by omega)).mono ?_
    rintro e w2 ⟨a2, n2, c2, rfl, o2, B2⟩
    have k2 := k1.on B2
    have b2 := b1.trans (B2.mono b1.size)
    have N2 := o2.bound (k := 1) (by decide)
    have hno := norm2_c false a1 a2 n1 c1 n2 c2 m 1 w2 (L1.out.lst.below B2) o2.lst (by omega) (by omega)
    rw [HS.out] at hno
    have HN := Lib.hid hno
    clear hno k1 b1 B2 o2 L1
    go_wp2_with fail
    refine HN.out.mono ?_
    rintro e w3 ⟨s3, a3, n3, c3, b3, m3, d3, rfl, hs3, o3, o4, bb3⟩
    have K3 := k2.on bb3
    have BB3 := b2.trans (bb3.mono b2.size)
    have h3 := o3.hi (g := w.heap.size) k2.lt
    have h4 := o4.hi (g := w.heap.size) k2.lt
    have O3 := Lib.hid (o3.low b2.size)
    have O4 := Lib.hid (o4.low b2.size)
    obtain ⟨q0, q1, q2, q3, q4, q5⟩ := K3.store3 (.bool s3) (.slice a3 n3 c3)
    have HS3 := Lib.hid hs3
    clear hs3 bb3 o3 o4 b2 k2 HN
    go_wp2_with fail
    have pbox := K3.put3 (.bool s3) (.slice a3 n3 c3) (.slice b3 m3 d3)
    have pbel := below_put3 BB3 (Nat.le_refl _) (.bool s3) (.slice a3 n3 c3) (.slice b3 m3 d3)
    have p3 := O3.out.put3 h3 (.bool s3) (.slice a3 n3 c3) (.slice b3 m3 d3)
    have p4 := O4.out.put3 h4 (.bool s3) (.slice a3 n3 c3) (.slice b3 m3 d3)
    obtain ⟨W, hW⟩ : ∃ W, W = put3 w3 w.heap.size (.bool s3) (.slice a3 n3 c3) (.slice b3 m3 d3) := ⟨_, rfl⟩
    change bodyPost _ _ _ _ _ (put3 w3 w.heap.size (.bool s3) (.slice a3 n3 c3) (.slice b3 m3 d3))
    rw [← hW] at pbox pbel p3 p4 ⊢
    obtain ⟨r0, r1, r2⟩ := pbox.cells3
    refine bodyPost_ret (v := .agg #[.bool s3, .slice a3 n3 c3, .slice b3 m3 d3]) (by simp [results, Tryz.results17, go_sem, r0, r1, r2]) rfl ?_
    exact ⟨s3, a3, n3, c3, b3, m3, d3, rfl, HS3.out, p3, p4, pbel⟩

set_option maxHeartbeats 3200000 in
set_option maxRecDepth 100000 in
theorem div2_c (s1 s2 : Bool) (a1 b1 a2 b2 : Option Addr) (n1 c1 m1 d1 n2 c2 m2 d2 P1 Q1 P2 Q2 K : Nat) (w : World)
    (h1 : LstB w a1 n1 c1 (bitsN P1)) (k1 : LstB w b1 m1 d1 (bitsN Q1)) (h2 : LstB w a2 n2 c2 (bitsN P2)) (k2 : LstB w b2 m2 d2 (bitsN Q2)) (hn1 : P1 < 2 ^ K) (hm1 : Q1 < 2 ^ K) (hn2 : P2 < 2 ^ K) (hm2 : Q2 < 2 ^ K) (hK : K ≤ 400000) :
    Calls Tryz.prog 18 #[.agg #[.bool s1, .slice a1 n1 c1, .slice b1 m1 d1], .agg #[.bool s2, .slice a2 n2 c2, .slice b2 m2 d2]] w fun e w' => ∃ s a n c b m d, e = .returned (.agg #[.bool s, .slice a n c, .slice b m d]) ∧ s = (nf (ml ⟨s1, P1, Q1⟩ (inv ⟨s2, P2, Q2⟩))).s ∧ OwnT w.heap.size w' a n c (bitsN (nf (ml ⟨s1, P1, Q1⟩ (inv ⟨s2, P2, Q2⟩))).p) ∧ OwnT w.heap.size w' b m d (bitsN (nf (ml ⟨s1, P1, Q1⟩ (inv ⟨s2, P2, Q2⟩))).q) ∧ Below w.heap.size w w' := by
  obtain ⟨z, hz⟩ : ∃ z, Hid (nf ⟨s1 != s2, P1 * Q2, Q1 * P2⟩ = z) := ⟨_, rfl⟩
  rw [show nf (ml ⟨s1, P1, Q1⟩ (inv ⟨s2, P2, Q2⟩)) = z from hz.out]
  have X1 : P1 * Q2 < 2 ^ (K + K) := mul_lt_two hn1 hm2
  have X2 : Q1 * P2 < 2 ^ (K + K) := mul_lt_two hm1 hn2
  have BX1 := Lib.hid X1; have BX2 := Lib.hid X2
  have hl1 := Lib.hid (bitsN_length P1 K hn1); have hl2 := Lib.hid (bitsN_length Q1 K hm1); have hl3 := Lib.hid (bitsN_length P2 K hn2); have hl4 := Lib.hid (bitsN_length Q2 K hm2)
  have e1 : n1 ≤ K := by rw [← h1.len]; exact hl1.out
  have e2 : m1 ≤ K := by rw [← k1.len]; exact hl2.out
  have e3 : n2 ≤ K := by rw [← h2.len]; exact hl3.out
  have e4 : m2 ≤ K := by rw [← k2.len]; exact hl4.out
  have H1 := Lib.hid h1; have K1 := Lib.hid k1; have H2 := Lib.hid h2; have K2 := Lib.hid k2
  clear h1 k1 h2 k2 X1 X2 hn1 hm1 hn2 hm2
  go_enter Tryz.func18, Tryz.ntmps18
  go_wp2_with fail
  obtain ⟨W0, hW0, kA, kB, kZ, bb⟩ := boxed3 w 30 #[.bool s1, .slice a1 n1 c1, .slice b1 m1 d1] #[.bool s2, .slice a2 n2 c2, .slice b2 m2 d2] #[.bool false, .slice none 0 0, .slice none 0 0]
  rw [← hW0]
  clear hW0
  obtain ⟨g2, hg2⟩ : ∃ g2, g2 = w.heap.size + 1 + 1 := ⟨_, rfl⟩
  rw [← hg2] at kZ ⊢
  have hge : w.heap.size ≤ g2 := by omega
  have hne0 : w.heap.size ≠ g2 := by omega
  have hne2 : g2 ≠ w.heap.size := by omega
  have hne3 : w.heap.size + 1 ≠ g2 := by omega
  have hne4 : g2 ≠ w.heap.size + 1 := by omega
  clear hg2
  have DA : Hid (Blk W0.drew w.heap.size 30 #[.bool s1, .slice a1 n1 c1, .slice b1 m1 d1]) := kA
  have DC : Hid (Blk W0.drew (w.heap.size + 1) 30 #[.bool s2, .slice a2 n2 c2, .slice b2 m2 d2]) := kB
  have DZ : Hid (Blk W0.drew g2 30 #[.bool false, .slice none 0 0, .slice none 0 0]) := kZ
  have DB : Hid (Below w.heap.size w W0.drew) := bb.drew
  obtain ⟨y0, y1, y2⟩ := kA.cells3
  obtain ⟨yy0, yy1, yy2⟩ := kB.cells3
  clear kA kB kZ bb
  go_region_held3 (fun w' => w'.cell? ⟨w.heap.size, 0, none⟩ = some (.bool s1) ∧ w'.cell? ⟨w.heap.size, 1, none⟩ = some (.slice a1 n1 c1) ∧ w'.cell? ⟨w.heap.size, 2, none⟩ = some (.slice b1 m1 d1) ∧ w'.cell? ⟨w.heap.size + 1, 0, none⟩ = some (.bool s2) ∧ w'.cell? ⟨w.heap.size + 1, 1, none⟩ = some (.slice a2 n2 c2) ∧ w'.cell? ⟨w.heap.size + 1, 2, none⟩ = some (.slice b2 m2 d2)) (go_keep) (first
    | (go_at_call_of 34 (Value.slice a1 n1 c1); have hmu := mulT_c a1 b2 n1 c1 m2 d2 _ _ W0.drew (H1.out.below DB.out) (K2.out.below DB.out) (by omega) (by omega); rw [bval_bitsN, bval_bitsN] at hmu; refine hmu.mono ?_; rintro e v1 ⟨a3, n3, c3, rfl, o3, B1⟩; clear hmu; have A1 := DA.out.on B1; have C1 := DC.out.on B1; obtain ⟨z0, z1, z2⟩ := A1.cells3; obtain ⟨zz0, zz1, zz2⟩ := C1.cells3; have Z1 := DZ.out.on B1; have BB1 := DB.out.trans (B1.mono DB.out.size); have hn3 := o3.bound BX1.out)
    | (go_at_call 34; have hmu := mulT_c b1 a2 m1 d1 n2 c2 _ _ v1 (K1.out.below BB1) (H2.out.below BB1) (by omega) (by omega); rw [bval_bitsN, bval_bitsN] at hmu; refine hmu.mono ?_; rintro e v2 ⟨a4, n4, c4, rfl, o4, B2⟩; clear hmu; have A2 := A1.on B2; have C2 := C1.on B2; obtain ⟨k0, k1, k2⟩ := A2.cells3; obtain ⟨kk0, kk1, kk2⟩ := C2.cells3; have Z2 := Z1.on B2; have BB2 := BB1.trans (B2.mono BB1.size); have o3' := o3.kept B2; have hn4 := o4.bound BX2.out)
    | (go_at_call 25; have hno := norm2_c (s1 != s2) a3 a4 n3 c3 n4 c4 (P1 * Q2) (Q1 * P2) v2 o3'.lst o4.lst (by omega) (by omega); rw [hz.out] at hno; refine hno.mono ?_; rintro e v3 ⟨s5, a5, n5, c5, b5, m5, d5, rfl, hs5, o5, o6, B3⟩; clear hno; have A3 := A2.on B3; have C3 := C2.on B3; obtain ⟨l0, l1, l2⟩ := A3.cells3; obtain ⟨ll0, ll1, ll2⟩ := C3.cells3; have Z3 := Z2.on B3; have BB3 := BB2.trans (B3.mono BB2.size); obtain ⟨q0, q1, q2, q3, q4, q5⟩ := Z3.store3 (.bool s5) (.slice a5 n5 c5); have HS5 := Lib.hid hs5; clear hs5))
  go_wp2_with fail
  have h3 := o5.hi (g := g2) Z2.lt
  have h4 := o6.hi (g := g2) Z2.lt
  have O3 := o5.low BB2.size
  have O4 := o6.low BB2.size
  have pbox := Z3.put3 (.bool s5) (.slice a5 n5 c5) (.slice b5 m5 d5)
  have pbel := below_put3 BB3 hge (.bool s5) (.slice a5 n5 c5) (.slice b5 m5 d5)
  have p3 := O3.put3 h3 (.bool s5) (.slice a5 n5 c5) (.slice b5 m5 d5)
  have p4 := O4.put3 h4 (.bool s5) (.slice a5 n5 c5) (.slice b5 m5 d5)
  obtain ⟨W, hW⟩ : ∃ W, W = put3 v3 g2 (.bool s5) (.slice a5 n5 c5) (.slice b5 m5 d5) := ⟨_, rfl⟩
  change bodyPost _ _ _ _ _ (put3 v3 g2 (.bool s5) (.slice a5 n5 c5) (.slice b5 m5 d5))
  rw [← hW] at pbox pbel p3 p4 ⊢
  obtain ⟨r0, r1, r2⟩ := pbox.cells3
  refine bodyPost_ret (v := .agg #[.bool s5, .slice a5 n5 c5, .slice b5 m5 d5]) (by simp [results, Tryz.results18, go_sem, r0, r1, r2]) rfl ?_
  exact ⟨s5, a5, n5, c5, b5, m5, d5, rfl, HS5.out, p3, p4, pbel⟩
end Go.Proofs.YtmojcnlddfijjaaGreatDoor

/-
  electionref02.Mul, Add.
-/
namespace Go.Proofs.YtmojcnlddfijjaaGreatDoor
open Go.RowKit NatMath RatMath

set_option maxHeartbeats 3200000 in
set_option maxRecDepth 100000 in
theorem mul2_c (s1 s2 : Bool) (a1 b1 a2 b2 : Option Addr) (n1 c1 m1 d1 n2 c2 m2 d2 P1 Q1 P2 Q2 K : Nat) (w : World)
    (h1 : LstB w a1 n1 c1 (bitsN P1)) (k1 : LstB w b1 m1 d1 (bitsN Q1)) (h2 : LstB w a2 n2 c2 (bitsN P2)) (k2 : LstB w b2 m2 d2 (bitsN Q2)) (hn1 : P1 < 2 ^ K) (hm1 : Q1 < 2 ^ K) (hn2 : P2 < 2 ^ K) (hm2 : Q2 < 2 ^ K) (hK : K ≤ 400000) :
    Calls Tryz.prog 19 #[.agg #[.bool s1, .slice a1 n1 c1, .slice b1 m1 d1], .agg #[.bool s2, .slice a2 n2 c2, .slice b2 m2 d2]] w fun e w' => ∃ s a n c b m d, e = .returned (.agg #[.bool s, .slice a n c, .slice b m d]) ∧ s = (nf (ml ⟨s1, P1, Q1⟩ ⟨s2, P2, Q2⟩)).s ∧ OwnT w.heap.size w' a n c (bitsN (nf (ml ⟨s1, P1, Q1⟩ ⟨s2, P2, Q2⟩)).p) ∧ OwnT w.heap.size w' b m d (bitsN (nf (ml ⟨s1, P1, Q1⟩ ⟨s2, P2, Q2⟩)).q) ∧ Below w.heap.size w w' := by
  obtain ⟨z, hz⟩ : ∃ z, Hid (nf ⟨s1 != s2, P1 * P2, Q1 * Q2⟩ = z) := ⟨_, rfl⟩
  rw [show nf (ml ⟨s1, P1, Q1⟩ ⟨s2, P2, Q2⟩) = z from hz.out]
  have X1 : P1 * P2 < 2 ^ (K + K) := mul_lt_two hn1 hn2
  have X2 : Q1 * Q2 < 2 ^ (K + K) := mul_lt_two hm1 hm2
  have BX1 := Lib.hid X1; have BX2 := Lib.hid X2
  have hl1 := Lib.hid (bitsN_length P1 K hn1); have hl2 := Lib.hid (bitsN_length Q1 K hm1); have hl3 := Lib.hid (bitsN_length P2 K hn2); have hl4 := Lib.hid (bitsN_length Q2 K hm2)
  have e1 : n1 ≤ K := by rw [← h1.len]; exact hl1.out
  have e2 : m1 ≤ K := by rw [← k1.len]; exact hl2.out
  have e3 : n2 ≤ K := by rw [← h2.len]; exact hl3.out
  have e4 : m2 ≤ K := by rw [← k2.len]; exact hl4.out
  have H1 := Lib.hid h1; have K1 := Lib.hid k1; have H2 := Lib.hid h2; have K2 := Lib.hid k2
  clear h1 k1 h2 k2 X1 X2 hn1 hm1 hn2 hm2
  go_enter Tryz.func19, Tryz.ntmps19
  go_wp2_with fail
  obtain ⟨W0, hW0, kA, kB, kZ, bb⟩ := boxed3 w 30 #[.bool s1, .slice a1 n1 c1, .slice b1 m1 d1] #[.bool s2, .slice a2 n2 c2, .slice b2 m2 d2] #[.bool false, .slice none 0 0, .slice none 0 0]
  rw [← hW0]
  clear hW0
  obtain ⟨g2, hg2⟩ : ∃ g2, g2 = w.heap.size + 1 + 1 := ⟨_, rfl⟩
  rw [← hg2] at kZ ⊢
  have hge : w.heap.size ≤ g2 := by omega
  have hne0 : w.heap.size ≠ g2 := by omega
  have hne2 : g2 ≠ w.heap.size := by omega
  have hne3 : w.heap.size + 1 ≠ g2 := by omega
  have hne4 : g2 ≠ w.heap.size + 1 := by omega
  clear hg2
  have DA : Hid (Blk W0.drew w.heap.size 30 #[.bool s1, .slice a1 n1 c1, .slice b1 m1 d1]) := kA
  have DC : Hid (Blk W0.drew (w.heap.size + 1) 30 #[.bool s2, .slice a2 n2 c2, .slice b2 m2 d2]) := kB
  have DZ : Hid (Blk W0.drew g2 30 #[.bool false, .slice none 0 0, .slice none 0 0]) := kZ
  have DB : Hid (Below w.heap.size w W0.drew) := bb.drew
  obtain ⟨y0, y1, y2⟩ := kA.cells3
  obtain ⟨yy0, yy1, yy2⟩ := kB.cells3
  clear kA kB kZ bb
  go_region_held3 (fun w' => w'.cell? ⟨w.heap.size, 0, none⟩ = some (.bool s1) ∧ w'.cell? ⟨w.heap.size, 1, none⟩ = some (.slice a1 n1 c1) ∧ w'.cell? ⟨w.heap.size, 2, none⟩ = some (.slice b1 m1 d1) ∧ w'.cell? ⟨w.heap.size + 1, 0, none⟩ = some (.bool s2) ∧ w'.cell? ⟨w.heap.size + 1, 1, none⟩ = some (.slice a2 n2 c2) ∧ w'.cell? ⟨w.heap.size + 1, 2, none⟩ = some (.slice b2 m2 d2)) (go_keep) (first
    | (go_at_call_of 34 (Value.slice a1 n1 c1); have hmu := mulT_c a1 a2 n1 c1 n2 c2 _ _ W0.drew (H1.out.below DB.out) (H2.out.below DB.out) (by omega) (by omega); rw [bval_bitsN, bval_bitsN] at hmu; refine hmu.mono ?_; rintro e v1 ⟨a3, n3, c3, rfl, o3, B1⟩; clear hmu; have A1 := DA.out.on B1; have C1 := DC.out.on B1; obtain ⟨z0, z1, z2⟩ := A1.cells3; obtain ⟨zz0, zz1, zz2⟩ := C1.cells3; have Z1 := DZ.out.on B1; have BB1 := DB.out.trans (B1.mono DB.out.size); have hn3 := o3.bound BX1.out)
    | (go_at_call 34; have hmu := mulT_c b1 b2 m1 d1 m2 d2 _ _ v1 (K1.out.below BB1) (K2.out.below BB1) (by omega) (by omega); rw [bval_bitsN, bval_bitsN] at hmu; refine hmu.mono ?_; rintro e v2 ⟨a4, n4, c4, rfl, o4, B2⟩; clear hmu; have A2 := A1.on B2; have C2 := C1.on B2; obtain ⟨k0, k1, k2⟩ := A2.cells3; obtain ⟨kk0, kk1, kk2⟩ := C2.cells3; have Z2 := Z1.on B2; have BB2 := BB1.trans (B2.mono BB1.size); have o3' := o3.kept B2; have hn4 := o4.bound BX2.out)
    | (go_at_call 25; have hno := norm2_c (s1 != s2) a3 a4 n3 c3 n4 c4 (P1 * P2) (Q1 * Q2) v2 o3'.lst o4.lst (by omega) (by omega); rw [hz.out] at hno; refine hno.mono ?_; rintro e v3 ⟨s5, a5, n5, c5, b5, m5, d5, rfl, hs5, o5, o6, B3⟩; clear hno; have A3 := A2.on B3; have C3 := C2.on B3; obtain ⟨l0, l1, l2⟩ := A3.cells3; obtain ⟨ll0, ll1, ll2⟩ := C3.cells3; have Z3 := Z2.on B3; have BB3 := BB2.trans (B3.mono BB2.size); obtain ⟨q0, q1, q2, q3, q4, q5⟩ := Z3.store3 (.bool s5) (.slice a5 n5 c5); have HS5 := Lib.hid hs5; clear hs5))
  go_wp2_with fail
  have h3 := o5.hi (g := g2) Z2.lt
  have h4 := o6.hi (g := g2) Z2.lt
  have O3 := o5.low BB2.size
  have O4 := o6.low BB2.size
  have pbox := Z3.put3 (.bool s5) (.slice a5 n5 c5) (.slice b5 m5 d5)
  have pbel := below_put3 BB3 hge (.bool s5) (.slice a5 n5 c5) (.slice b5 m5 d5)
  have p3 := O3.put3 h3 (.bool s5) (.slice a5 n5 c5) (.slice b5 m5 d5)
  have p4 := O4.put3 h4 (.bool s5) (.slice a5 n5 c5) (.slice b5 m5 d5)
  obtain ⟨W, hW⟩ : ∃ W, W = put3 v3 g2 (.bool s5) (.slice a5 n5 c5) (.slice b5 m5 d5) := ⟨_, rfl⟩
  change bodyPost _ _ _ _ _ (put3 v3 g2 (.bool s5) (.slice a5 n5 c5) (.slice b5 m5 d5))
  rw [← hW] at pbox pbel p3 p4 ⊢
  obtain ⟨r0, r1, r2⟩ := pbox.cells3
  refine bodyPost_ret (v := .agg #[.bool s5, .slice a5 n5 c5, .slice b5 m5 d5]) (by simp [results, Tryz.results19, go_sem, r0, r1, r2]) rfl ?_
  exact ⟨s5, a5, n5, c5, b5, m5, d5, rfl, HS5.out, p3, p4, pbel⟩

set_option maxHeartbeats 6400000 in
set_option maxRecDepth 100000 in
theorem add2_c (s1 s2 : Bool) (a1 b1 a2 b2 : Option Addr) (n1 c1 m1 d1 n2 c2 m2 d2 P1 Q1 P2 Q2 K : Nat) (w : World)
    (h1 : LstB w a1 n1 c1 (bitsN P1)) (k1 : LstB w b1 m1 d1 (bitsN Q1)) (h2 : LstB w a2 n2 c2 (bitsN P2)) (k2 : LstB w b2 m2 d2 (bitsN Q2)) (hn1 : P1 < 2 ^ K) (hm1 : Q1 < 2 ^ K) (hn2 : P2 < 2 ^ K) (hm2 : Q2 < 2 ^ K) (hK : K ≤ 400000) :
    Calls Tryz.prog 11 #[.agg #[.bool s1, .slice a1 n1 c1, .slice b1 m1 d1], .agg #[.bool s2, .slice a2 n2 c2, .slice b2 m2 d2]] w fun e w' => ∃ s a n c b m d, e = .returned (.agg #[.bool s, .slice a n c, .slice b m d]) ∧ s = (nf (sm ⟨s1, P1, Q1⟩ ⟨s2, P2, Q2⟩)).s ∧ OwnT w.heap.size w' a n c (bitsN (nf (sm ⟨s1, P1, Q1⟩ ⟨s2, P2, Q2⟩)).p) ∧ OwnT w.heap.size w' b m d (bitsN (nf (sm ⟨s1, P1, Q1⟩ ⟨s2, P2, Q2⟩)).q) ∧ Below w.heap.size w w' := by
  obtain ⟨P, hP⟩ : ∃ P, Hid (P = P1 * Q2) := ⟨_, rfl⟩
  obtain ⟨S, hS⟩ : ∃ S, Hid (S = P2 * Q1) := ⟨_, rfl⟩
  obtain ⟨D, hD⟩ : ∃ D, Hid (D = Q1 * Q2) := ⟨_, rfl⟩
  have X1 : P < 2 ^ (K + K) := by rw [hP.out]; exact mul_lt_two hn1 hm2
  have X2 : S < 2 ^ (K + K) := by rw [hS.out]; exact mul_lt_two hn2 hm1
  have X3 : D < 2 ^ (K + K) := by rw [hD.out]; exact mul_lt_two hm1 hm2
  have X4 : P + S < 2 ^ (K + K + 1) := by rw [Nat.pow_succ]; omega
  have X5 : P - S < 2 ^ (K + K) := by omega
  have X6 : S - P < 2 ^ (K + K) := by omega
  obtain ⟨z, hz⟩ : ∃ z, Hid (nf (if s1 = s2 then ⟨s1, P + S, D⟩ else if S ≤ P then ⟨s1, P - S, D⟩ else ⟨s2, S - P, D⟩) = z) := ⟨_, rfl⟩
  have hzz : nf (sm ⟨s1, P1, Q1⟩ ⟨s2, P2, Q2⟩) = z := by rw [← hz.out, hP.out, hS.out, hD.out]; rfl
  rw [hzz]
  clear hzz
  have BX1 := Lib.hid X1; have BX2 := Lib.hid X2; have BX3 := Lib.hid X3; have BX4 := Lib.hid X4; have BX5 := Lib.hid X5; have BX6 := Lib.hid X6
  have hl1 := Lib.hid (bitsN_length P1 K hn1); have hl2 := Lib.hid (bitsN_length Q1 K hm1); have hl3 := Lib.hid (bitsN_length P2 K hn2); have hl4 := Lib.hid (bitsN_length Q2 K hm2)
  have e1 : n1 ≤ K := by rw [← h1.len]; exact hl1.out
  have e2 : m1 ≤ K := by rw [← k1.len]; exact hl2.out
  have e3 : n2 ≤ K := by rw [← h2.len]; exact hl3.out
  have e4 : m2 ≤ K := by rw [← k2.len]; exact hl4.out
  have H1 := Lib.hid h1; have K1 := Lib.hid k1; have H2 := Lib.hid h2; have K2 := Lib.hid k2
  clear h1 k1 h2 k2 X1 X2 X3 X4 X5 X6 hn1 hm1 hn2 hm2
  go_enter Tryz.func11, Tryz.ntmps11
  go_wp2_with fail
  obtain ⟨W0, hW0, kA, kB, kZ, bb⟩ := boxed3 w 30 #[.bool s1, .slice a1 n1 c1, .slice b1 m1 d1] #[.bool s2, .slice a2 n2 c2, .slice b2 m2 d2] #[.bool false, .slice none 0 0, .slice none 0 0]
  rw [← hW0]
  clear hW0
  obtain ⟨g2, hg2⟩ : ∃ g2, g2 = w.heap.size + 1 + 1 := ⟨_, rfl⟩
  rw [← hg2] at kZ ⊢
  have hge : w.heap.size ≤ g2 := by omega
  have hne0 : w.heap.size ≠ g2 := by omega
  have hne2 : g2 ≠ w.heap.size := by omega
  have hne3 : w.heap.size + 1 ≠ g2 := by omega
  have hne4 : g2 ≠ w.heap.size + 1 := by omega
  clear hg2
  have DA : Hid (Blk W0.drew w.heap.size 30 #[.bool s1, .slice a1 n1 c1, .slice b1 m1 d1]) := kA
  have DC : Hid (Blk W0.drew (w.heap.size + 1) 30 #[.bool s2, .slice a2 n2 c2, .slice b2 m2 d2]) := kB
  have DZ : Hid (Blk W0.drew g2 30 #[.bool false, .slice none 0 0, .slice none 0 0]) := kZ
  have DB : Hid (Below w.heap.size w W0.drew) := bb.drew
  obtain ⟨y0, y1, y2⟩ := kA.cells3
  obtain ⟨yy0, yy1, yy2⟩ := kB.cells3
  clear kA kB kZ bb
  go_region_held3 (fun w' => w'.cell? ⟨w.heap.size, 0, none⟩ = some (.bool s1) ∧ w'.cell? ⟨w.heap.size, 1, none⟩ = some (.slice a1 n1 c1) ∧ w'.cell? ⟨w.heap.size, 2, none⟩ = some (.slice b1 m1 d1) ∧ w'.cell? ⟨w.heap.size + 1, 0, none⟩ = some (.bool s2) ∧ w'.cell? ⟨w.heap.size + 1, 1, none⟩ = some (.slice a2 n2 c2) ∧ w'.cell? ⟨w.heap.size + 1, 2, none⟩ = some (.slice b2 m2 d2)) (go_keep) (first
    | (go_at_call_of 34 (Value.slice a1 n1 c1); have hmu := mulT_c a1 b2 n1 c1 m2 d2 _ _ W0.drew (H1.out.below DB.out) (K2.out.below DB.out) (by omega) (by omega); rw [bval_bitsN, bval_bitsN, ← hP.out] at hmu; refine hmu.mono ?_; rintro e v1 ⟨a3, n3, c3, rfl, o3, B1⟩; clear hmu; have A1 := DA.out.on B1; have C1 := DC.out.on B1; obtain ⟨z0, z1, z2⟩ := A1.cells3; obtain ⟨zz0, zz1, zz2⟩ := C1.cells3; have Z1 := DZ.out.on B1; have BB1 := DB.out.trans (B1.mono DB.out.size); have hn3 := o3.bound BX1.out)
    | (go_at_call_of 34 (Value.slice a2 n2 c2); have hmu := mulT_c a2 b1 n2 c2 m1 d1 _ _ v1 (H2.out.below BB1) (K1.out.below BB1) (by omega) (by omega); rw [bval_bitsN, bval_bitsN, ← hS.out] at hmu; refine hmu.mono ?_; rintro e v2 ⟨a4, n4, c4, rfl, o4, B2⟩; clear hmu; have A2 := A1.on B2; have C2 := C1.on B2; obtain ⟨k0, k1, k2⟩ := A2.cells3; obtain ⟨kk0, kk1, kk2⟩ := C2.cells3; have Z2 := Z1.on B2; have BB2 := BB1.trans (B2.mono BB1.size); have o3' := o3.kept B2; have hn4 := o4.bound BX2.out)
    | (go_at_call 34; have hmu := mulT_c b1 b2 m1 d1 m2 d2 _ _ v2 (K1.out.below BB2) (K2.out.below BB2) (by omega) (by omega); rw [bval_bitsN, bval_bitsN, ← hD.out] at hmu; refine hmu.mono ?_; rintro e v3 ⟨a5, n5, c5, rfl, o5, B3⟩; clear hmu; have A3 := A2.on B3; have C3 := C2.on B3; obtain ⟨l0, l1, l2⟩ := A3.cells3; obtain ⟨ll0, ll1, ll2⟩ := C3.cells3; have Z3 := Z2.on B3; have bb3 := BB2.trans (B3.mono BB2.size); have o3'' := o3'.kept B3; have o4' := o4.kept B3; have hn5 := o5.bound BX3.out))
  have BB3 := Lib.hid bb3
  have LX := Lib.hid o3''.lst; have LY := Lib.hid o4'.lst; have LD := Lib.hid o5.lst
  clear A1 C1 A2 C2 Z1 Z2 z0 z1 z2 zz0 zz1 zz2 k0 k1 k2 kk0 kk1 kk2 o3 o4 o3' o4' o3'' o5 B1 B2 B3 BB1 BB2 bb3 DA DC DZ DB y0 y1 y2 yy0 yy1 yy2 H1 K1 H2 K2
  by_cases hs : s1 = s2
  · have HZ := Lib.hid (show nf ⟨s1, P + S, D⟩ = z by rw [← hz.out, if_pos hs])
    have hbeq : (s1 == s2) = true := by simpa using hs
    clear hs hz
    have DA4 : Hid (Blk v3.drew w.heap.size 30 #[.bool s1, .slice a1 n1 c1, .slice b1 m1 d1]) := A3
    have DC4 : Hid (Blk v3.drew (w.heap.size + 1) 30 #[.bool s2, .slice a2 n2 c2, .slice b2 m2 d2]) := C3
    have DZ4 : Hid (Blk v3.drew g2 30 #[.bool false, .slice none 0 0, .slice none 0 0]) := Z3
    have DB4 : Hid (Below w.heap.size w v3.drew) := BB3.out.drew
    have DX4 : Hid (LstB v3.drew a3 n3 c3 (bitsN P)) := LX.out.drewN 1
    have DY4 : Hid (LstB v3.drew a4 n4 c4 (bitsN S)) := LY.out.drewN 1
    have DL4 : Hid (LstB v3.drew a5 n5 c5 (bitsN D)) := LD.out.drewN 1
    go_wp2_with fail
    go_region_held3 (fun w' => w'.cell? ⟨w.heap.size, 0, none⟩ = some (.bool s1) ∧ w'.cell? ⟨w.heap.size, 1, none⟩ = some (.slice a1 n1 c1) ∧ w'.cell? ⟨w.heap.size, 2, none⟩ = some (.slice b1 m1 d1) ∧ w'.cell? ⟨w.heap.size + 1, 0, none⟩ = some (.bool s2) ∧ w'.cell? ⟨w.heap.size + 1, 1, none⟩ = some (.slice a2 n2 c2) ∧ w'.cell? ⟨w.heap.size + 1, 2, none⟩ = some (.slice b2 m2 d2)) (go_keep) (first
      | (go_at_call 35; have hmu := addT_c a3 a4 n3 c3 n4 c4 _ _ v3.drew DX4.out DY4.out (by omega) (by omega); rw [bval_bitsN, bval_bitsN] at hmu; refine hmu.mono ?_; rintro e v5 ⟨a7, n7, c7, rfl, o7, B5⟩; clear hmu; have A5 := DA4.out.on B5; have C5 := DC4.out.on B5; obtain ⟨l0, l1, l2⟩ := A5.cells3; obtain ⟨ll0, ll1, ll2⟩ := C5.cells3; have Z5 := DZ4.out.on B5; have BB5 := DB4.out.trans (B5.mono DB4.out.size); have DL5 := Lib.hid (DL4.out.below B5); have hn7 := o7.bound BX4.out)
      | (go_at_call 25; have hno := norm2_c s1 a7 a5 n7 c7 n5 c5 (P + S) D v5 o7.lst DL5.out (by omega) (by omega); rw [HZ.out] at hno; refine hno.mono ?_; rintro e v6 ⟨s6, a8, n8, c8, b8, m8, d8, rfl, hs6, o8, o9, B6⟩; clear hno; have A6 := A5.on B6; have C6 := C5.on B6; obtain ⟨i0, i1, i2⟩ := A6.cells3; obtain ⟨ii0, ii1, ii2⟩ := C6.cells3; have Z6 := Z5.on B6; have BB6 := BB5.trans (B6.mono BB5.size); obtain ⟨q0, q1, q2, q3, q4, q5⟩ := Z6.store3 (.bool s6) (.slice a8 n8 c8); have HS6 := Lib.hid hs6; clear hs6))
    go_wp2_with fail
    have h3 := o8.hi (g := g2) Z5.lt
    have h4 := o9.hi (g := g2) Z5.lt
    have O3 := o8.low BB5.size
    have O4 := o9.low BB5.size
    have pbox := Z6.put3 (.bool s6) (.slice a8 n8 c8) (.slice b8 m8 d8)
    have pbel := below_put3 BB6 hge (.bool s6) (.slice a8 n8 c8) (.slice b8 m8 d8)
    have p3 := O3.put3 h3 (.bool s6) (.slice a8 n8 c8) (.slice b8 m8 d8)
    have p4 := O4.put3 h4 (.bool s6) (.slice a8 n8 c8) (.slice b8 m8 d8)
    obtain ⟨W, hW⟩ : ∃ W, W = put3 v6 g2 (.bool s6) (.slice a8 n8 c8) (.slice b8 m8 d8) := ⟨_, rfl⟩
    change bodyPost _ _ _ _ _ (put3 v6 g2 (.bool s6) (.slice a8 n8 c8) (.slice b8 m8 d8))
    rw [← hW] at pbox pbel p3 p4 ⊢
    obtain ⟨r0, r1, r2⟩ := pbox.cells3
    refine bodyPost_ret (v := .agg #[.bool s6, .slice a8 n8 c8, .slice b8 m8 d8]) (by simp [results, Tryz.results11, go_sem, r0, r1, r2]) rfl ?_
    exact ⟨s6, a8, n8, c8, b8, m8, d8, rfl, HS6.out, p3, p4, pbel⟩
  · have hbeq : (s1 == s2) = false := by simpa using hs
    have hcm := cmpT_c a3 a4 n3 c3 n4 c4 _ _ v3 LX.out LY.out
    rw [bval_bitsN, bval_bitsN] at hcm
    have HCM := Lib.hid hcm
    clear hcm
    by_cases hle : S ≤ P
    · have HZ := Lib.hid (show nf ⟨s1, P - S, D⟩ = z by rw [← hz.out, if_neg hs, if_pos hle])
      have hc := cmpI_yes hle
      have HLE := Lib.hid hle
      clear hs hz hle
      go_wp2_with fail
      refine HCM.out.mono ?_
      rintro e w' ⟨rfl, rfl⟩
      have DA4 : Hid (Blk v3.drew w.heap.size 30 #[.bool s1, .slice a1 n1 c1, .slice b1 m1 d1]) := A3
      have DC4 : Hid (Blk v3.drew (w.heap.size + 1) 30 #[.bool s2, .slice a2 n2 c2, .slice b2 m2 d2]) := C3
      have DZ4 : Hid (Blk v3.drew g2 30 #[.bool false, .slice none 0 0, .slice none 0 0]) := Z3
      have DB4 : Hid (Below w.heap.size w v3.drew) := BB3.out.drew
      have DX4 : Hid (LstB v3.drew a3 n3 c3 (bitsN P)) := LX.out.drewN 1
      have DY4 : Hid (LstB v3.drew a4 n4 c4 (bitsN S)) := LY.out.drewN 1
      have DL4 : Hid (LstB v3.drew a5 n5 c5 (bitsN D)) := LD.out.drewN 1
      go_wp2_with fail
      go_region_held3 (fun w' => w'.cell? ⟨w.heap.size, 0, none⟩ = some (.bool s1) ∧ w'.cell? ⟨w.heap.size, 1, none⟩ = some (.slice a1 n1 c1) ∧ w'.cell? ⟨w.heap.size, 2, none⟩ = some (.slice b1 m1 d1) ∧ w'.cell? ⟨w.heap.size + 1, 0, none⟩ = some (.bool s2) ∧ w'.cell? ⟨w.heap.size + 1, 1, none⟩ = some (.slice a2 n2 c2) ∧ w'.cell? ⟨w.heap.size + 1, 2, none⟩ = some (.slice b2 m2 d2)) (go_keep) (first
        | (go_at_call 37; have hmu := subT_c a3 a4 n3 c3 n4 c4 _ _ v3.drew DX4.out DY4.out (by omega) (by rw [bval_bitsN, bval_bitsN]; exact HLE.out); rw [bval_bitsN, bval_bitsN] at hmu; refine hmu.mono ?_; rintro e v5 ⟨a7, n7, c7, rfl, o7, B5⟩; clear hmu; have A5 := DA4.out.on B5; have C5 := DC4.out.on B5; obtain ⟨l0, l1, l2⟩ := A5.cells3; obtain ⟨ll0, ll1, ll2⟩ := C5.cells3; have Z5 := DZ4.out.on B5; have BB5 := DB4.out.trans (B5.mono DB4.out.size); have DL5 := Lib.hid (DL4.out.below B5); have hn7 := o7.bound BX5.out)
        | (go_at_call 25; have hno := norm2_c s1 a7 a5 n7 c7 n5 c5 (P - S) D v5 o7.lst DL5.out (by omega) (by omega); rw [HZ.out] at hno; refine hno.mono ?_; rintro e v6 ⟨s6, a8, n8, c8, b8, m8, d8, rfl, hs6, o8, o9, B6⟩; clear hno; have A6 := A5.on B6; have C6 := C5.on B6; obtain ⟨i0, i1, i2⟩ := A6.cells3; obtain ⟨ii0, ii1, ii2⟩ := C6.cells3; have Z6 := Z5.on B6; have BB6 := BB5.trans (B6.mono BB5.size); obtain ⟨q0, q1, q2, q3, q4, q5⟩ := Z6.store3 (.bool s6) (.slice a8 n8 c8); have HS6 := Lib.hid hs6; clear hs6))
      go_wp2_with fail
      have h3 := o8.hi (g := g2) Z5.lt
      have h4 := o9.hi (g := g2) Z5.lt
      have O3 := o8.low BB5.size
      have O4 := o9.low BB5.size
      have pbox := Z6.put3 (.bool s6) (.slice a8 n8 c8) (.slice b8 m8 d8)
      have pbel := below_put3 BB6 hge (.bool s6) (.slice a8 n8 c8) (.slice b8 m8 d8)
      have p3 := O3.put3 h3 (.bool s6) (.slice a8 n8 c8) (.slice b8 m8 d8)
      have p4 := O4.put3 h4 (.bool s6) (.slice a8 n8 c8) (.slice b8 m8 d8)
      obtain ⟨W, hW⟩ : ∃ W, W = put3 v6 g2 (.bool s6) (.slice a8 n8 c8) (.slice b8 m8 d8) := ⟨_, rfl⟩
      change bodyPost _ _ _ _ _ (put3 v6 g2 (.bool s6) (.slice a8 n8 c8) (.slice b8 m8 d8))
      rw [← hW] at pbox pbel p3 p4 ⊢
      obtain ⟨r0, r1, r2⟩ := pbox.cells3
      refine bodyPost_ret (v := .agg #[.bool s6, .slice a8 n8 c8, .slice b8 m8 d8]) (by simp [results, Tryz.results11, go_sem, r0, r1, r2]) rfl ?_
      exact ⟨s6, a8, n8, c8, b8, m8, d8, rfl, HS6.out, p3, p4, pbel⟩
    · have HZ := Lib.hid (show nf ⟨s2, S - P, D⟩ = z by rw [← hz.out, if_neg hs, if_neg hle])
      have hc := cmpI_no (Nat.lt_of_not_le hle)
      have HLE := Lib.hid (Nat.le_of_lt (Nat.lt_of_not_le hle))
      clear hs hz hle
      go_wp2_with fail
      refine HCM.out.mono ?_
      rintro e w' ⟨rfl, rfl⟩
      have DA4 : Hid (Blk v3.drew w.heap.size 30 #[.bool s1, .slice a1 n1 c1, .slice b1 m1 d1]) := A3
      have DC4 : Hid (Blk v3.drew (w.heap.size + 1) 30 #[.bool s2, .slice a2 n2 c2, .slice b2 m2 d2]) := C3
      have DZ4 : Hid (Blk v3.drew g2 30 #[.bool false, .slice none 0 0, .slice none 0 0]) := Z3
      have DB4 : Hid (Below w.heap.size w v3.drew) := BB3.out.drew
      have DX4 : Hid (LstB v3.drew a3 n3 c3 (bitsN P)) := LX.out.drewN 1
      have DY4 : Hid (LstB v3.drew a4 n4 c4 (bitsN S)) := LY.out.drewN 1
      have DL4 : Hid (LstB v3.drew a5 n5 c5 (bitsN D)) := LD.out.drewN 1
      go_wp2_with fail
      go_region_held3 (fun w' => w'.cell? ⟨w.heap.size, 0, none⟩ = some (.bool s1) ∧ w'.cell? ⟨w.heap.size, 1, none⟩ = some (.slice a1 n1 c1) ∧ w'.cell? ⟨w.heap.size, 2, none⟩ = some (.slice b1 m1 d1) ∧ w'.cell? ⟨w.heap.size + 1, 0, none⟩ = some (.bool s2) ∧ w'.cell? ⟨w.heap.size + 1, 1, none⟩ = some (.slice a2 n2 c2) ∧ w'.cell? ⟨w.heap.size + 1, 2, none⟩ = some (.slice b2 m2 d2)) (go_keep) (first
        | (go_at_call 37; have hmu := subT_c a4 a3 n4 c4 n3 c3 _ _ v3.drew DY4.out DX4.out (by omega) (by rw [bval_bitsN, bval_bitsN]; exact HLE.out); rw [bval_bitsN, bval_bitsN] at hmu; refine hmu.mono ?_; rintro e v5 ⟨a7, n7, c7, rfl, o7, B5⟩; clear hmu; have A5 := DA4.out.on B5; have C5 := DC4.out.on B5; obtain ⟨l0, l1, l2⟩ := A5.cells3; obtain ⟨ll0, ll1, ll2⟩ := C5.cells3; have Z5 := DZ4.out.on B5; have BB5 := DB4.out.trans (B5.mono DB4.out.size); have DL5 := Lib.hid (DL4.out.below B5); have hn7 := o7.bound BX6.out)
        | (go_at_call 25; have hno := norm2_c s2 a7 a5 n7 c7 n5 c5 (S - P) D v5 o7.lst DL5.out (by omega) (by omega); rw [HZ.out] at hno; refine hno.mono ?_; rintro e v6 ⟨s6, a8, n8, c8, b8, m8, d8, rfl, hs6, o8, o9, B6⟩; clear hno; have A6 := A5.on B6; have C6 := C5.on B6; obtain ⟨i0, i1, i2⟩ := A6.cells3; obtain ⟨ii0, ii1, ii2⟩ := C6.cells3; have Z6 := Z5.on B6; have BB6 := BB5.trans (B6.mono BB5.size); obtain ⟨q0, q1, q2, q3, q4, q5⟩ := Z6.store3 (.bool s6) (.slice a8 n8 c8); have HS6 := Lib.hid hs6; clear hs6))
      go_wp2_with fail
      have h3 := o8.hi (g := g2) Z5.lt
      have h4 := o9.hi (g := g2) Z5.lt
      have O3 := o8.low BB5.size
      have O4 := o9.low BB5.size
      have pbox := Z6.put3 (.bool s6) (.slice a8 n8 c8) (.slice b8 m8 d8)
      have pbel := below_put3 BB6 hge (.bool s6) (.slice a8 n8 c8) (.slice b8 m8 d8)
      have p3 := O3.put3 h3 (.bool s6) (.slice a8 n8 c8) (.slice b8 m8 d8)
      have p4 := O4.put3 h4 (.bool s6) (.slice a8 n8 c8) (.slice b8 m8 d8)
      obtain ⟨W, hW⟩ : ∃ W, W = put3 v6 g2 (.bool s6) (.slice a8 n8 c8) (.slice b8 m8 d8) := ⟨_, rfl⟩
      change bodyPost _ _ _ _ _ (put3 v6 g2 (.bool s6) (.slice a8 n8 c8) (.slice b8 m8 d8))
      rw [← hW] at pbox pbel p3 p4 ⊢
      obtain ⟨r0, r1, r2⟩ := pbox.cells3
      refine bodyPost_ret (v := .agg #[.bool s6, .slice a8 n8 c8, .slice b8 m8 d8]) (by simp [results, Tryz.results11, go_sem, r0, r1, r2]) rfl ?_
      exact ⟨s6, a8, n8, c8, b8, m8, d8, rfl, HS6.out, p3, p4, pbel⟩

set_option maxHeartbeats 3200000 in
set_option maxRecDepth 100000 in
theorem opp2_c (s : Bool) (ao bo : Option Addr) (n c m d X Y : Nat) (w : World) (h : LstB w ao n c (bitsN X)) (k : LstB w bo m d (bitsN Y)) (hn : n ≤ 1000000) (hm : m ≤ 1000000) :
    Calls Tryz.prog 13 #[.agg #[.bool s, .slice ao n c, .slice bo m d]] w fun e w' => ∃ s' a n' c' b m' d', e = .returned (.agg #[.bool s', .slice a n' c', .slice b m' d']) ∧ s' = (nf (ng ⟨s, X, Y⟩)).s ∧ OwnT w.heap.size w' a n' c' (bitsN (nf (ng ⟨s, X, Y⟩)).p) ∧ OwnT w.heap.size w' b m' d' (bitsN (nf (ng ⟨s, X, Y⟩)).q) ∧ Below w.heap.size w w' := by
  have HM := fun w1 (hb : Below w.heap.size w w1) => norm2_c (!s) ao bo n c m d X Y w1 (h.below hb) (k.below hb) hn hm
  obtain ⟨z, hz⟩ : ∃ z, Hid (z = nf (ng ⟨s, X, Y⟩)) := ⟨_, rfl⟩
  rw [show nf ⟨!s, X, Y⟩ = z from hz.out.symm] at HM
  rw [← hz.out]
  have HM := Lib.hid HM
  clear h k
  go_enter Tryz.func13, Tryz.ntmps13
  go_wp2_with fail
  obtain ⟨w1, hw1, kA, kb, bb⟩ := boxed2 w 30 #[.bool s, .slice ao n c, .slice bo m d] #[.bool false, .slice none 0 0, .slice none 0 0]
  rw [← hw1]
  refine (HM.out w1 bb).mono ?_
  rintro e w2 ⟨s2, a2, n2, c2, b2, m2, d2, rfl, hs2, o2, o3, bb2⟩
  have K2 := kb.on bb2
  have BB := bb.trans (bb2.mono bb.size)
  have h2 := o2.hi (g := w.heap.size + 1) kb.lt
  have h3 := o3.hi (g := w.heap.size + 1) kb.lt
  have O2 := Lib.hid (o2.low bb.size)
  have O3 := Lib.hid (o3.low bb.size)
  obtain ⟨q0, q1, q2, q3, q4, q5⟩ := K2.store3 (.bool s2) (.slice a2 n2 c2)
  have HS := Lib.hid hs2
  clear hs2 hw1 kA kb bb bb2 o2 o3
  go_wp2_with fail
  have pbox := K2.put3 (.bool s2) (.slice a2 n2 c2) (.slice b2 m2 d2)
  have pbel := below_put3 BB (Nat.le_succ _) (.bool s2) (.slice a2 n2 c2) (.slice b2 m2 d2)
  have p2 := O2.out.put3 h2 (.bool s2) (.slice a2 n2 c2) (.slice b2 m2 d2)
  have p3 := O3.out.put3 h3 (.bool s2) (.slice a2 n2 c2) (.slice b2 m2 d2)
  obtain ⟨W, hW⟩ : ∃ W, W = put3 w2 (w.heap.size + 1) (.bool s2) (.slice a2 n2 c2) (.slice b2 m2 d2) := ⟨_, rfl⟩
  change bodyPost _ _ _ _ _ (put3 w2 (w.heap.size + 1) (.bool s2) (.slice a2 n2 c2) (.slice b2 m2 d2))
  rw [← hW] at pbox pbel p2 p3 ⊢
  obtain ⟨r0, r1, r2⟩ := pbox.cells3
  refine bodyPost_ret (v := .agg #[.bool s2, .slice a2 n2 c2, .slice b2 m2 d2]) (by simp [results, Tryz.results13, go_sem, r0, r1, r2]) rfl ?_
  exact ⟨s2, a2, n2, c2, b2, m2, d2, rfl, HS.out, p2, p3, pbel⟩
end Go.Proofs.YtmojcnlddfijjaaGreatDoor

/-
  electionref02.Cmp.
-/
namespace Go.Proofs.YtmojcnlddfijjaaGreatDoor
open Go.RowKit NatMath RatMath

theorem OwnT.up {B : Nat} {w : World} {ao : Option Addr} {n c : Nat} {xs : List Bool} (h : OwnT B w ao n c xs) {g : Nat} (hg : w.heap.size ≤ g) : ∀ a, ao = some a → g ≠ a.block := by
  intro a ha
  rcases h.cases with ⟨h0, _⟩ | ⟨q, hq, h1, h2, _⟩
  · rw [h0] at ha; cases ha
  · rw [hq] at ha
    cases ha
    show g ≠ q
    omega
/-- A rational number of the reference lies in block g. -/
def DAt (w0 : World) (z : R) (wx : World) (g : Nat) : Prop := ∃ (a b : Option Addr) (n c m d : Nat),
  Blk wx g 30 #[.bool z.s, .slice a n c, .slice b m d] ∧ LstB wx a n c (bitsN z.p) ∧ LstB wx b m d (bitsN z.q) ∧ Below w0.heap.size w0 wx
theorem DAt.mk {w0 v : World} {z : R} {g : Nat} {v0 v1 v2 : Value} {B : Nat} {a b : Option Addr} {n c m d : Nat} (kd : Blk v g 30 #[v0, v1, v2]) (bb : Below w0.heap.size w0 v) (hg : w0.heap.size ≤ g)
    (o1 : OwnT B v a n c (bitsN z.p)) (h1 : ∀ q, a = some q → g ≠ q.block) (o2 : OwnT B v b m d (bitsN z.q)) (h2 : ∀ q, b = some q → g ≠ q.block) :
    DAt w0 z (put3 v g (.bool z.s) (.slice a n c) (.slice b m d)) g :=
  ⟨a, b, n, c, m, d, kd.put3 _ _ _, (o1.put3 h1 _ _ _).lst, (o2.put3 h2 _ _ _).lst, below_put3 bb hg _ _ _⟩

theorem DAt.new {w0 v : World} {z : R} {B : Nat} {a b : Option Addr} {n c m d : Nat} (bb : Below w0.heap.size w0 v)
    (o1 : OwnT B v a n c (bitsN z.p)) (o2 : OwnT B v b m d (bitsN z.q)) :
    DAt w0 z (v.alloc (.cells #[.bool z.s, .slice a n c, .slice b m d] 30)) v.heap.size :=
  have bz := (Below.refl v.heap.size v).alloc (Nat.le_refl _) (.cells #[.bool z.s, .slice a n c, .slice b m d] 30)
  ⟨a, b, n, c, m, d, Blk.new v _ _, o1.lst.below bz, o2.lst.below bz, bb.trans (bz.mono bb.size)⟩

set_option maxHeartbeats 6400000 in
set_option maxRecDepth 100000 in
theorem cmpR_c (s1 s2 : Bool) (a1 b1 a2 b2 : Option Addr) (n1 c1 m1 d1 n2 c2 m2 d2 P1 Q1 P2 Q2 K : Nat) (w : World)
    (h1 : LstB w a1 n1 c1 (bitsN P1)) (k1 : LstB w b1 m1 d1 (bitsN Q1)) (h2 : LstB w a2 n2 c2 (bitsN P2)) (k2 : LstB w b2 m2 d2 (bitsN Q2)) (hn1 : P1 < 2 ^ K) (hm1 : Q1 < 2 ^ K) (hn2 : P2 < 2 ^ K) (hm2 : Q2 < 2 ^ K) (hK : K ≤ 400000) (hK1 : 1 ≤ K) (g : Int)
    (hg : g = if (nf (sm ⟨s1, P1, Q1⟩ (nf (ng ⟨s2, P2, Q2⟩)))).p = 0 then 0 else if (nf (sm ⟨s1, P1, Q1⟩ (nf (ng ⟨s2, P2, Q2⟩)))).s then -1 else 1) :
    Calls Tryz.prog 20 #[.agg #[.bool s1, .slice a1 n1 c1, .slice b1 m1 d1], .agg #[.bool s2, .slice a2 n2 c2, .slice b2 m2 d2]] w fun e w' => e = .returned (.int .i64 g) ∧ Below w.heap.size w w' := by
  have hone : 1 < 2 ^ K := Nat.one_lt_two_pow (by omega)
  have p1 := nf_p_le (ng ⟨s2, P2, Q2⟩)
  have p2 := nf_q_le (ng ⟨s2, P2, Q2⟩)
  have p3 : (ng ⟨s2, P2, Q2⟩ : R).p = P2 := rfl
  have p4 : (ng ⟨s2, P2, Q2⟩ : R).q = Q2 := rfl
  rw [p3] at p1
  rw [p4] at p2
  obtain ⟨y, hy⟩ : ∃ y, Hid (y = nf (ng ⟨s2, P2, Q2⟩)) := ⟨_, rfl⟩
  rw [← hy.out] at p1 p2 hg
  have py : Hid (y.p < 2 ^ K) := Nat.lt_of_le_of_lt p1 hn2
  have qy : Hid (y.q < 2 ^ K) := by show y.q < 2 ^ K; omega
  obtain ⟨z, hz⟩ : ∃ z, Hid (z = nf (sm ⟨s1, P1, Q1⟩ y)) := ⟨_, rfl⟩
  rw [← hz.out] at hg
  have HG := Lib.hid hg
  have e2 := bitsN_length P2 K hn2
  have e3 := bitsN_length Q2 K hm2
  rw [h2.len] at e2
  rw [k2.len] at e3
  have X1 := Lib.hid hn1; have X2 := Lib.hid hm1
  have H1 := Lib.hid h1; have K1 := Lib.hid k1; have H2 := Lib.hid h2; have K2 := Lib.hid k2
  clear h1 k1 h2 k2 hn1 hm1 hn2 hm2 p1 p2 p3 p4 hone hg
  go_enter Tryz.func20, Tryz.ntmps20
  go_wp2_with fail
  obtain ⟨W0, hW0, kA, kB, bb⟩ := boxed2 w 30 #[.bool s1, .slice a1 n1 c1, .slice b1 m1 d1] #[.bool s2, .slice a2 n2 c2, .slice b2 m2 d2]
  rw [← hW0]
  clear hW0
  have DA : Hid (Blk W0.drew w.heap.size 30 #[.bool s1, .slice a1 n1 c1, .slice b1 m1 d1]) := kA
  have DC : Hid (Blk W0.drew (w.heap.size + 1) 30 #[.bool s2, .slice a2 n2 c2, .slice b2 m2 d2]) := kB
  have DB : Hid (Below w.heap.size w W0.drew) := bb.drew
  obtain ⟨y0, y1, y2⟩ := kA.cells3
  obtain ⟨yy0, yy1, yy2⟩ := kB.cells3
  have DAa : Hid (Blk (W0.alloc (.cells #[.bool false, .slice none 0 0, .slice none 0 0] 30)).drew w.heap.size 30 #[.bool s1, .slice a1 n1 c1, .slice b1 m1 d1]) := DA.out.alloc _
  have DCa : Hid (Blk (W0.alloc (.cells #[.bool false, .slice none 0 0, .slice none 0 0] 30)).drew (w.heap.size + 1) 30 #[.bool s2, .slice a2 n2 c2, .slice b2 m2 d2]) := DC.out.alloc _
  have DKa : Hid (Blk (W0.alloc (.cells #[.bool false, .slice none 0 0, .slice none 0 0] 30)).drew W0.heap.size 30 #[.bool false, .slice none 0 0, .slice none 0 0]) := Blk.new W0.drew 30 #[.bool false, .slice none 0 0, .slice none 0 0]
  have DBa : Hid (Below w.heap.size w (W0.alloc (.cells #[.bool false, .slice none 0 0, .slice none 0 0] 30)).drew) := DB.out.alloc DB.out.size _
  obtain ⟨x0, x1, x2⟩ := DAa.out.cells3
  obtain ⟨xx0, xx1, xx2⟩ := DCa.out.cells3
  clear kA kB bb
  go_cut [5] (fun s5 wx => ∃ gd : Nat, s5 = .pointer (some ⟨gd, 0, none⟩) ∧ DAt w z wx gd)
  case first =>
    go_region_held3 (fun w' => w'.cell? ⟨w.heap.size, 0, none⟩ = some (.bool s1) ∧ w'.cell? ⟨w.heap.size, 1, none⟩ = some (.slice a1 n1 c1) ∧ w'.cell? ⟨w.heap.size, 2, none⟩ = some (.slice b1 m1 d1) ∧ w'.cell? ⟨w.heap.size + 1, 0, none⟩ = some (.bool s2) ∧ w'.cell? ⟨w.heap.size + 1, 1, none⟩ = some (.slice a2 n2 c2) ∧ w'.cell? ⟨w.heap.size + 1, 2, none⟩ = some (.slice b2 m2 d2)) (go_keep) (first
      | (go_at_call 13; have hop := opp2_c s2 a2 b2 n2 c2 m2 d2 P2 Q2 W0.drew (H2.out.below DB.out) (K2.out.below DB.out) (by omega) (by omega); rw [← hy.out] at hop; (with_reducible refine hop.mono ?_); rintro e v1 ⟨sy, ay, ny, cy, by', my, dy, rfl, rfl, o1, o2, B1⟩; clear hop; have A1a := (DA.out).on B1; have C1a := (DC.out).on B1; obtain ⟨z0, z1, z2⟩ := A1a.cells3; obtain ⟨zz0, zz1, zz2⟩ := C1a.cells3; have BB1a := (DB.out).trans (B1.mono (DB.out).size); have Y1a := o1.lst; have Y2a := o2.lst; have hny := o1.bound py.out; have hmy := o2.bound qy.out; have A1c := A1a.alloc (.cells #[.bool false, .slice none 0 0, .slice none 0 0] 30); have C1c := C1a.alloc (.cells #[.bool false, .slice none 0 0, .slice none 0 0] 30); obtain ⟨t0, t1, t2⟩ := A1c.cells3; obtain ⟨tt0, tt1, tt2⟩ := C1c.cells3; have bz := (Below.refl v1.heap.size v1).alloc (Nat.le_refl _) (.cells #[.bool false, .slice none 0 0, .slice none 0 0] 30); have BB1c := BB1a.trans (bz.mono BB1a.size); have Y1c := Y1a.below bz; have Y2c := Y2a.below bz; have kd1c := Blk.new v1 30 #[.bool false, .slice none 0 0, .slice none 0 0])
      | (go_at_call 13; have hop := opp2_c s2 a2 b2 n2 c2 m2 d2 P2 Q2 (W0.alloc (.cells #[.bool false, .slice none 0 0, .slice none 0 0] 30)).drew (H2.out.below DBa.out) (K2.out.below DBa.out) (by omega) (by omega); rw [← hy.out] at hop; (with_reducible refine hop.mono ?_); rintro e u1 ⟨sy, ay, ny, cy, by', my, dy, rfl, rfl, o1, o2, B1⟩; clear hop; have A1b := (DAa.out).on B1; have C1b := (DCa.out).on B1; obtain ⟨z0, z1, z2⟩ := A1b.cells3; obtain ⟨zz0, zz1, zz2⟩ := C1b.cells3; have BB1b := (DBa.out).trans (B1.mono (DBa.out).size); have Y1b := o1.lst; have Y2b := o2.lst; have hny := o1.bound py.out; have hmy := o2.bound qy.out; have kd1b := (DKa.out).on B1)
      | (go_at_call 11; have had := add2_c s1 y.s a1 b1 ay by' n1 c1 m1 d1 ny cy my dy P1 Q1 y.p y.q K v1 (H1.out.below BB1a) (K1.out.below BB1a) Y1a Y2a X1.out X2.out py.out qy.out hK; rw [show nf (sm ⟨s1, P1, Q1⟩ ⟨y.s, y.p, y.q⟩) = z from hz.out.symm] at had; (with_reducible refine had.mono ?_); rintro e v2 ⟨sd, ad, nd, cd, bd, md, dd, rfl, rfl, o3, o4, B2⟩; clear had; have A2 := A1a.on B2; have C2 := C1a.on B2; obtain ⟨k0, k1, k2⟩ := A2.cells3; obtain ⟨kk0, kk1, kk2⟩ := C2.cells3; have BB2 := BB1a.trans (B2.mono BB1a.size); have fin := Lib.hid (DAt.new BB2 o3 o4); have ne1 : w.heap.size ≠ v2.heap.size := Nat.ne_of_lt A2.lt; have ne2 : w.heap.size + 1 ≠ v2.heap.size := Nat.ne_of_lt C2.lt; have ne3 := ne1.symm; have ne4 := ne2.symm)
      | (go_at_call 11; have had := add2_c s1 y.s a1 b1 ay by' n1 c1 m1 d1 ny cy my dy P1 Q1 y.p y.q K (v1.alloc (.cells #[.bool false, .slice none 0 0, .slice none 0 0] 30)) (H1.out.below BB1c) (K1.out.below BB1c) Y1c Y2c X1.out X2.out py.out qy.out hK; rw [show nf (sm ⟨s1, P1, Q1⟩ ⟨y.s, y.p, y.q⟩) = z from hz.out.symm] at had; (with_reducible refine had.mono ?_); rintro e v2 ⟨sd, ad, nd, cd, bd, md, dd, rfl, rfl, o3, o4, B2⟩; clear had; have A2 := A1c.on B2; have C2 := C1c.on B2; obtain ⟨k0, k1, k2⟩ := A2.cells3; obtain ⟨kk0, kk1, kk2⟩ := C2.cells3; have BB2 := BB1c.trans (B2.mono BB1c.size); have kd2 := kd1c.on B2; obtain ⟨q0, q1, q2, q3, q4, q5⟩ := kd2.store3 (.bool z.s) (.slice ad nd cd); have fin := Lib.hid (DAt.mk kd2 BB2 BB1a.size o3 (o3.hi kd1c.lt) o4 (o4.hi kd1c.lt)); have ne1 : w.heap.size ≠ v1.heap.size := Nat.ne_of_lt A1a.lt; have ne2 : w.heap.size + 1 ≠ v1.heap.size := Nat.ne_of_lt C1a.lt; have ne3 := ne1.symm; have ne4 := ne2.symm)
      | (go_at_call 11; have had := add2_c s1 y.s a1 b1 ay by' n1 c1 m1 d1 ny cy my dy P1 Q1 y.p y.q K u1 (H1.out.below BB1b) (K1.out.below BB1b) Y1b Y2b X1.out X2.out py.out qy.out hK; rw [show nf (sm ⟨s1, P1, Q1⟩ ⟨y.s, y.p, y.q⟩) = z from hz.out.symm] at had; (with_reducible refine had.mono ?_); rintro e v2 ⟨sd, ad, nd, cd, bd, md, dd, rfl, rfl, o3, o4, B2⟩; clear had; have A2 := A1b.on B2; have C2 := C1b.on B2; obtain ⟨k0, k1, k2⟩ := A2.cells3; obtain ⟨kk0, kk1, kk2⟩ := C2.cells3; have BB2 := BB1b.trans (B2.mono BB1b.size); have kd2 := kd1b.on B2; obtain ⟨q0, q1, q2, q3, q4, q5⟩ := kd2.store3 (.bool z.s) (.slice ad nd cd); have fin := Lib.hid (DAt.mk kd2 BB2 DB.out.size o3 (o3.hi kd1b.lt) o4 (o4.hi kd1b.lt)); have ne1 : w.heap.size ≠ W0.heap.size := Nat.ne_of_lt DA.out.lt; have ne2 : w.heap.size + 1 ≠ W0.heap.size := Nat.ne_of_lt DC.out.lt; have ne3 := ne1.symm; have ne4 := ne2.symm))
    all_goals
      go_wp2_with fail
      go_meet
      exact ⟨_, rfl, fin.out⟩
  case rest =>
    obtain ⟨gd, rfl, a, b, n, c, m, d, kd, l1, l2, bb⟩ := hcut
    obtain ⟨i0, i1, i2⟩ := kd.cells3
    have hl := l1.len
    have BB := Lib.hid bb
    by_cases hp : z.p = 0
    · have hn : n = 0 := by rw [← hl, hp, bitsN_zero]; rfl
      have HG0 : Hid (g = 0) := by show g = 0; rw [HG.out, if_pos hp]
      clear hp hl kd l2 bb y0 y1 y2 yy0 yy1 yy2 x0 x1 x2 xx0 xx1 xx2
      subst hn
      clear l1
      go_wp2_with fail
      go_ret
      exact ⟨by rw [HG0.out]; rfl, BB.out⟩
    · have hn : n ≠ 0 := by rw [← hl, bitsN_pos hp]; simp
      have hnb : ((n : Int) == 0) = false := by simp; omega
      have hg2 : g = if z.s then -1 else 1 := by rw [HG.out, if_neg hp]
      clear hp hl kd l1 l2 bb y0 y1 y2 yy0 yy1 yy2 x0 x1 x2 xx0 xx1 xx2
      obtain ⟨t, ht⟩ : ∃ t, Hid (t = z.s) := ⟨_, rfl⟩
      rw [← ht.out] at i0 hg2
      cases t with
      | true =>
        have HG0 := Lib.hid (show g = -1 from hg2)
        clear hg2
        go_wp2_with fail
        go_ret
        exact ⟨by rw [HG0.out]; rfl, BB.out⟩
      | false =>
        have HG0 := Lib.hid (show g = 1 from hg2)
        clear hg2
        go_wp2_with fail
        go_ret
        exact ⟨by rw [HG0.out]; rfl, BB.out⟩
end Go.Proofs.YtmojcnlddfijjaaGreatDoor
