import Derived.Test.YtgjndondonehhaaDoorPk2
import Derived.Test.YtgjndondonehhaaDoorNatRead
import Derived.Test.YtgjndondonehhaaDoorNatRefMul
import Derived.Deep.RegionHeld3
/-
  electionref02.Word, Of, Div.
-/
namespace Go.Proofs.YtgjndondonehhaaDoor
open Go.RowKit NatMath RatMath

set_option maxHeartbeats 1600000 in
set_option maxRecDepth 100000 in
theorem word_c (n : Nat) (w : World) (hn : n ≤ 18446744073709551615) :
    Calls Tryd.prog 80 #[.int .u64 n] w fun e w' => ∃ a n' c', e = .returned (.slice a n' c') ∧ OwnT w.heap.size w' a n' c' (bitsN n) ∧ Below w.heap.size w w' := by
  go_enter Tryd.func80, Tryd.ntmps80
  go_wp2_with fail
  have bb := (Below.refl w.heap.size w).alloc (Nat.le_refl _) (.cells #[.int .u32 ((n : Int) % 4294967296), .int .u32 ((n : Int) / 4294967296)] 75)
  have wf0 : (Lit.int .u32 ((n : Int) % 4294967296)).wf = true := wf_u32 (by omega) (by omega)
  have wf1 : (Lit.int .u32 ((n : Int) / 4294967296)).wf = true := wf_u32 (by omega) (by omega)
  have lit : Own 75 .u32 w.heap.size (w.alloc (.cells #[.int .u32 ((n : Int) % 4294967296), .int .u32 ((n : Int) / 4294967296)] 75)) (some ⟨w.heap.size, 0, none⟩) 2 2 [(n : Int) % 4294967296, (n : Int) / 4294967296] := by
    refine ⟨World.ownsRow_lit w #[.int .u32 ((n : Int) % 4294967296), .int .u32 ((n : Int) / 4294967296)] 2 (Nat.le_refl _) (by unfold maxLen; omega) rfl, ?_⟩
    intro y hy
    simp at hy
    rcases hy with rfl | rfl
    · exact wf0
    · exact wf1
  have hv : val [(n : Int) % 4294967296, (n : Int) / 4294967296] = n := by
    show ((n : Int) % 4294967296).toNat + 4294967296 * (((n : Int) / 4294967296).toNat + 4294967296 * 0) = n
    omega
  have hf := from_c _ _ _ _ _ lit.lst (by omega)
  rw [hv] at hf
  refine hf.mono ?_
  rintro e w1 ⟨a, n', c', rfl, o, B1⟩
  have o := o.low bb.size
  have BB := bb.trans (B1.mono bb.size)
  clear hf lit bb B1
  go_wp2_with fail
  go_ret
  exact ⟨a, n', c', rfl, o, BB⟩

set_option maxHeartbeats 3200000 in
set_option maxRecDepth 100000 in
theorem of2_c (x : Int) (w : World) (x0 : -9223372036854775808 ≤ x) (x1 : x ≤ 9223372036854775807) :
    Calls Tryd.prog 47 #[.int .i64 x] w fun e w' => ∃ s a n c b m d, e = .returned (.agg #[.bool s, .slice a n c, .slice b m d]) ∧ s = (nf ⟨decide (x < 0), x.natAbs, 1⟩).s ∧ OwnT w.heap.size w' a n c (bitsN (nf ⟨decide (x < 0), x.natAbs, 1⟩).p) ∧ OwnT w.heap.size w' b m d (bitsN (nf ⟨decide (x < 0), x.natAbs, 1⟩).q) ∧ Below w.heap.size w w' := by
  obtain ⟨m, hm0⟩ : ∃ m, Hid (m = x.natAbs) := ⟨_, rfl⟩
  have hm : m ≤ 18446744073709551615 := by rw [hm0.out]; omega
  obtain ⟨z, hz⟩ : ∃ z, Hid (z = nf ⟨decide (x < 0), x.natAbs, 1⟩) := ⟨_, rfl⟩
  rw [← hz.out]
  by_cases hx : x < 0
  · have hd : decide (x < 0) = true := by simpa using hx
    have HV : Hid (-(x + 1) + 1 = (m : Int)) := by show _ = _; rw [hm0.out]; omega
    have HS : Hid (nf ⟨true, m, 1⟩ = z) := by show _ = _; rw [hz.out, hm0.out, hd]
    go_enter Tryd.func47, Tryd.ntmps47
    go_wp2_with fail
    have kZ := Blk.new w 50 #[.bool false, .slice none 0 0, .slice none 0 0]
    have bb := (Below.refl w.heap.size w).alloc (Nat.le_refl _) (.cells #[.bool false, .slice none 0 0, .slice none 0 0] 50)
    obtain ⟨W0, hW0⟩ : ∃ W0, W0 = w.alloc (.cells #[.bool false, .slice none 0 0, .slice none 0 0] 50) := ⟨_, rfl⟩
    rw [← hW0] at kZ bb ⊢
    clear hW0
    rw [HV.out]
    refine (word_c m W0 hm).mono ?_
    rintro e w1 ⟨a1, n1, c1, rfl, o1, B1⟩
    have k1 := kZ.on B1
    have b1 := bb.trans (B1.mono bb.size)
    have L1 := Lib.hid o1
    have N1 := o1.bound (k := 64) (by have : (2 : Nat) ^ 64 = 18446744073709551616 := by decide
                                      omega)
    clear kZ bb B1 o1
    go_wp2_with fail
    refine (small_c 1 w1 (by omega)).mono ?_
    rintro e w2 ⟨a2, n2, c2, rfl, o2, B2⟩
    have k2 := k1.on B2
    have b2 := b1.trans (B2.mono b1.size)
    have N2 := o2.bound (k := 1) (by decide)
    have hno := norm2_c true a1 a2 n1 c1 n2 c2 m 1 w2 (L1.out.lst.below B2) o2.lst (by omega) (by omega)
    rw [HS.out] at hno
    have HN := Lib.hid hno
    clear hno k1 b1 B2 o2 L1
    go_wp2_with fail
    refine HN.out.mono ?_
    rintro e w3 ⟨s3, a3, n3, c3, b3, m3, d3, rfl, hs3, o3, o4, bb3⟩
    have K3 := k2.on bb3
    have BB3 := b2.trans (bb3.mono b2.size)
    have h3 := o3.hi (g := w.heap.size) k2.lt
    have h4 := o4.hi (g := w.heap.size) k2.lt
    have O3 := Lib.hid (o3.low b2.size)
    have O4 := Lib.hid (o4.low b2.size)
    obtain ⟨q0, q1, q2, q3, q4, q5⟩ := K3.store3 (.bool s3) (.slice a3 n3 c3)
    have HS3 := Lib.hid hs3
    clear hs3 bb3 o3 o4 b2 k2 HN
    go_wp2_with fail
    have pbox := K3.put3 (.bool s3) (.slice a3 n3 c3) (.slice b3 m3 d3)
    have pbel := below_put3 BB3 (Nat.le_refl _) (.bool s3) (.slice a3 n3 c3) (.slice b3 m3 d3)
    have p3 := O3.out.put3 h3 (.bool s3) (.slice a3 n3 c3) (.slice b3 m3 d3)
    have p4 := O4.out.put3 h4 (.bool s3) (.slice a3 n3 c3) (.slice b3 m3 d3)
    obtain ⟨W, hW⟩ : ∃ W, W = put3 w3 w.heap.size (.bool s3) (.slice a3 n3 c3) (.slice b3 m3 d3) := ⟨_, rfl⟩
    change bodyPost _ _ _ _ _ (put3 w3 w.heap.size (.bool s3) (.slice a3 n3 c3) (.slice b3 m3 d3))
    rw [← hW] at pbox pbel p3 p4 ⊢
    obtain ⟨r0, r1, r2⟩ := pbox.cells3
    refine bodyPost_ret (v := .agg #[.bool s3, .slice a3 n3 c3, .slice b3 m3 d3]) (by simp [results, Tryd.results47, go_sem, r0, r1, r2]) rfl ?_
    exact ⟨s3, a3, n3, c3, b3, m3, d3, rfl, HS3.out, p3, p4, pbel⟩
  · have hd : decide (x < 0) = false := by simpa using hx
    have HV : Hid (x = (m : Int)) := by show _ = _; rw [hm0.out]; omega
    have HS : Hid (nf ⟨false, m, 1⟩ = z) := by show _ = _; rw [hz.out, hm0.out, hd]
    go_enter Tryd.func47, Tryd.ntmps47
    go_wp2_with fail
    have kZ := Blk.new w 50 #[.bool false, .slice none 0 0, .slice none 0 0]
    have bb := (Below.refl w.heap.size w).alloc (Nat.le_refl _) (.cells #[.bool false, .slice none 0 0, .slice none 0 0] 50)
    obtain ⟨W0, hW0⟩ : ∃ W0, W0 = w.alloc (.cells #[.bool false, .slice none 0 0, .slice none 0 0] 50) := ⟨_, rfl⟩
    rw [← hW0] at kZ bb ⊢
    clear hW0
    rw [HV.out]
    refine (word_c m W0 hm).mono ?_
    rintro e w1 ⟨a1, n1, c1, rfl, o1, B1⟩
    have k1 := kZ.on B1
    have b1 := bb.trans (B1.mono bb.size)
    have L1 := Lib.hid o1
    have N1 := o1.bound (k := 64) (by have : (2 : Nat) ^ 64 = 18446744073709551616 := by decide
                                      omega)
    clear kZ bb B1 o1
    go_wp2_with fail
    refine (small_c 1 w1 (by omega)).mono ?_
    rintro e w2 ⟨a2, n2, c2, rfl, o2, B2⟩
    have k2 := k1.on B2
    have b2 := b1.trans (B2.mono b1.size)
    have N2 := o2.bound (k := 1) (by decide)
    have hno := norm2_c false a1 a2 n1 c1 n2 c2 m 1 w2 (L1.out.lst.below B2) o2.lst (by omega) (by omega)
    rw [HS.out] at hno
    have HN := Lib.hid hno
    clear hno k1 b1 B2 o2 L1
    go_wp2_with fail
    refine HN.out.mono ?_
    rintro e w3 ⟨s3, a3, n3, c3, b3, m3, d3, rfl, hs3, o3, o4, bb3⟩
    have K3 := k2.on bb3
    have BB3 := b2.trans (bb3.mono b2.size)
    have h3 := o3.hi (g := w.heap.size) k2.lt
    have h4 := o4.hi (g := w.heap.size) k2.lt
    have O3 := Lib.hid (o3.low b2.size)
    have O4 := Lib.hid (o4.low b2.size)
    obtain ⟨q0, q1, q2, q3, q4, q5⟩ := K3.store3 (.bool s3) (.slice a3 n3 c3)
    have HS3 := Lib.hid hs3
    clear hs3 bb3 o3 o4 b2 k2 HN
    go_wp2_with fail
    have pbox := K3.put3 (.bool s3) (.slice a3 n3 c3) (.slice b3 m3 d3)
    have pbel := below_put3 BB3 (Nat.le_refl _) (.bool s3) (.slice a3 n3 c3) (.slice b3 m3 d3)
    have p3 := O3.out.put3 h3 (.bool s3) (.slice a3 n3 c3) (.slice b3 m3 d3)
    have p4 := O4.out.put3 h4 (.bool s3) (.slice a3 n3 c3) (.slice b3 m3 d3)
    obtain ⟨W, hW⟩ : ∃ W, W = put3 w3 w.heap.size (.bool s3) (.slice a3 n3 c3) (.slice b3 m3 d3) := ⟨_, rfl⟩
    change bodyPost _ _ _ _ _ (put3 w3 w.heap.size (.bool s3) (.slice a3 n3 c3) (.slice b3 m3 d3))
    rw [← hW] at pbox pbel p3 p4 ⊢
    obtain ⟨r0, r1, r2⟩ := pbox.cells3
    refine bodyPost_ret (v := .agg #[.bool s3, .slice a3 n3 c3, .slice b3 m3 d3]) (by simp [results, Tryd.results47, go_sem, r0, r1, r2]) rfl ?_
    exact ⟨s3, a3, n3, c3, b3, m3, d3, rfl, HS3.out, p3, p4, pbel⟩

set_option maxHeartbeats 3200000 in
set_option maxRecDepth 100000 in
theorem div2_c (s1 s2 : Bool) (a1 b1 a2 b2 : Option Addr) (n1 c1 m1 d1 n2 c2 m2 d2 P1 Q1 P2 Q2 K : Nat) (w : World)
    (h1 : LstB w a1 n1 c1 (bitsN P1)) (k1 : LstB w b1 m1 d1 (bitsN Q1)) (h2 : LstB w a2 n2 c2 (bitsN P2)) (k2 : LstB w b2 m2 d2 (bitsN Q2)) (hn1 : P1 < 2 ^ K) (hm1 : Q1 < 2 ^ K) (hn2 : P2 < 2 ^ K) (hm2 : Q2 < 2 ^ K) (hK : K ≤ 400000) :
    Calls Tryd.prog 48 #[.agg #[.bool s1, .slice a1 n1 c1, .slice b1 m1 d1], .agg #[.bool s2, .slice a2 n2 c2, .slice b2 m2 d2]] w fun e w' => ∃ s a n c b m d, e = .returned (.agg #[.bool s, .slice a n c, .slice b m d]) ∧ s = (nf (ml ⟨s1, P1, Q1⟩ (inv ⟨s2, P2, Q2⟩))).s ∧ OwnT w.heap.size w' a n c (bitsN (nf (ml ⟨s1, P1, Q1⟩ (inv ⟨s2, P2, Q2⟩))).p) ∧ OwnT w.heap.size w' b m d (bitsN (nf (ml ⟨s1, P1, Q1⟩ (inv ⟨s2, P2, Q2⟩))).q) ∧ Below w.heap.size w w' := by
  obtain ⟨z, hz⟩ : ∃ z, Hid (nf ⟨s1 != s2, P1 * Q2, Q1 * P2⟩ = z) := ⟨_, rfl⟩
  rw [show nf (ml ⟨s1, P1, Q1⟩ (inv ⟨s2, P2, Q2⟩)) = z from hz.out]
  have X1 : P1 * Q2 < 2 ^ (K + K) := mul_lt_two hn1 hm2
  have X2 : Q1 * P2 < 2 ^ (K + K) := mul_lt_two hm1 hn2
  have BX1 := Lib.hid X1; have BX2 := Lib.hid X2
  have hl1 := Lib.hid (bitsN_length P1 K hn1); have hl2 := Lib.hid (bitsN_length Q1 K hm1); have hl3 := Lib.hid (bitsN_length P2 K hn2); have hl4 := Lib.hid (bitsN_length Q2 K hm2)
  have e1 : n1 ≤ K := by rw [← h1.len]; exact hl1.out
  have e2 : m1 ≤ K := by rw [← k1.len]; exact hl2.out
  have e3 : n2 ≤ K := by rw [← h2.len]; exact hl3.out
  have e4 : m2 ≤ K := by rw [← k2.len]; exact hl4.out
  have H1 := Lib.hid h1; have K1 := Lib.hid k1; have H2 := Lib.hid h2; have K2 := Lib.hid k2
  clear h1 k1 h2 k2 X1 X2 hn1 hm1 hn2 hm2
  go_enter Tryd.func48, Tryd.ntmps48
  go_wp2_with fail
  obtain ⟨W0, hW0, kA, kB, kZ, bb⟩ := boxed3 w 50 #[.bool s1, .slice a1 n1 c1, .slice b1 m1 d1] #[.bool s2, .slice a2 n2 c2, .slice b2 m2 d2] #[.bool false, .slice none 0 0, .slice none 0 0]
  rw [← hW0]
  clear hW0
  obtain ⟨g2, hg2⟩ : ∃ g2, g2 = w.heap.size + 1 + 1 := ⟨_, rfl⟩
  rw [← hg2] at kZ ⊢
  have hge : w.heap.size ≤ g2 := by omega
  have hne0 : w.heap.size ≠ g2 := by omega
  have hne2 : g2 ≠ w.heap.size := by omega
  have hne3 : w.heap.size + 1 ≠ g2 := by omega
  have hne4 : g2 ≠ w.heap.size + 1 := by omega
  clear hg2
  have DA : Hid (Blk W0.drew w.heap.size 50 #[.bool s1, .slice a1 n1 c1, .slice b1 m1 d1]) := kA
  have DC : Hid (Blk W0.drew (w.heap.size + 1) 50 #[.bool s2, .slice a2 n2 c2, .slice b2 m2 d2]) := kB
  have DZ : Hid (Blk W0.drew g2 50 #[.bool false, .slice none 0 0, .slice none 0 0]) := kZ
  have DB : Hid (Below w.heap.size w W0.drew) := bb.drew
  obtain ⟨y0, y1, y2⟩ := kA.cells3
  obtain ⟨yy0, yy1, yy2⟩ := kB.cells3
  clear kA kB kZ bb
  go_region_held3 (fun w' => w'.cell? ⟨w.heap.size, 0, none⟩ = some (.bool s1) ∧ w'.cell? ⟨w.heap.size, 1, none⟩ = some (.slice a1 n1 c1) ∧ w'.cell? ⟨w.heap.size, 2, none⟩ = some (.slice b1 m1 d1) ∧ w'.cell? ⟨w.heap.size + 1, 0, none⟩ = some (.bool s2) ∧ w'.cell? ⟨w.heap.size + 1, 1, none⟩ = some (.slice a2 n2 c2) ∧ w'.cell? ⟨w.heap.size + 1, 2, none⟩ = some (.slice b2 m2 d2)) (go_keep) (first
    | (go_at_call_of 81 (Value.slice a1 n1 c1); have hmu := mulT_c a1 b2 n1 c1 m2 d2 _ _ W0.drew (H1.out.below DB.out) (K2.out.below DB.out) (by omega) (by omega); rw [bval_bitsN, bval_bitsN] at hmu; refine hmu.mono ?_; rintro e v1 ⟨a3, n3, c3, rfl, o3, B1⟩; clear hmu; have A1 := DA.out.on B1; have C1 := DC.out.on B1; obtain ⟨z0, z1, z2⟩ := A1.cells3; obtain ⟨zz0, zz1, zz2⟩ := C1.cells3; have Z1 := DZ.out.on B1; have BB1 := DB.out.trans (B1.mono DB.out.size); have hn3 := o3.bound BX1.out)
    | (go_at_call 81; have hmu := mulT_c b1 a2 m1 d1 n2 c2 _ _ v1 (K1.out.below BB1) (H2.out.below BB1) (by omega) (by omega); rw [bval_bitsN, bval_bitsN] at hmu; refine hmu.mono ?_; rintro e v2 ⟨a4, n4, c4, rfl, o4, B2⟩; clear hmu; have A2 := A1.on B2; have C2 := C1.on B2; obtain ⟨k0, k1, k2⟩ := A2.cells3; obtain ⟨kk0, kk1, kk2⟩ := C2.cells3; have Z2 := Z1.on B2; have BB2 := BB1.trans (B2.mono BB1.size); have o3' := o3.kept B2; have hn4 := o4.bound BX2.out)
    | (go_at_call 68; have hno := norm2_c (s1 != s2) a3 a4 n3 c3 n4 c4 (P1 * Q2) (Q1 * P2) v2 o3'.lst o4.lst (by omega) (by omega); rw [hz.out] at hno; refine hno.mono ?_; rintro e v3 ⟨s5, a5, n5, c5, b5, m5, d5, rfl, hs5, o5, o6, B3⟩; clear hno; have A3 := A2.on B3; have C3 := C2.on B3; obtain ⟨l0, l1, l2⟩ := A3.cells3; obtain ⟨ll0, ll1, ll2⟩ := C3.cells3; have Z3 := Z2.on B3; have BB3 := BB2.trans (B3.mono BB2.size); obtain ⟨q0, q1, q2, q3, q4, q5⟩ := Z3.store3 (.bool s5) (.slice a5 n5 c5); have HS5 := Lib.hid hs5; clear hs5))
  go_wp2_with fail
  have h3 := o5.hi (g := g2) Z2.lt
  have h4 := o6.hi (g := g2) Z2.lt
  have O3 := o5.low BB2.size
  have O4 := o6.low BB2.size
  have pbox := Z3.put3 (.bool s5) (.slice a5 n5 c5) (.slice b5 m5 d5)
  have pbel := below_put3 BB3 hge (.bool s5) (.slice a5 n5 c5) (.slice b5 m5 d5)
  have p3 := O3.put3 h3 (.bool s5) (.slice a5 n5 c5) (.slice b5 m5 d5)
  have p4 := O4.put3 h4 (.bool s5) (.slice a5 n5 c5) (.slice b5 m5 d5)
  obtain ⟨W, hW⟩ : ∃ W, W = put3 v3 g2 (.bool s5) (.slice a5 n5 c5) (.slice b5 m5 d5) := ⟨_, rfl⟩
  change bodyPost _ _ _ _ _ (put3 v3 g2 (.bool s5) (.slice a5 n5 c5) (.slice b5 m5 d5))
  rw [← hW] at pbox pbel p3 p4 ⊢
  obtain ⟨r0, r1, r2⟩ := pbox.cells3
  refine bodyPost_ret (v := .agg #[.bool s5, .slice a5 n5 c5, .slice b5 m5 d5]) (by simp [results, Tryd.results48, go_sem, r0, r1, r2]) rfl ?_
  exact ⟨s5, a5, n5, c5, b5, m5, d5, rfl, HS5.out, p3, p4, pbel⟩
end Go.Proofs.YtgjndondonehhaaDoor
