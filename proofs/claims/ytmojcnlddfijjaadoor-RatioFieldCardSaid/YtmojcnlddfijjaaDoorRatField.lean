/-
  The walk of RatioField.
-/
import Derived.Test.YtmojcnlddfijjaaDoorRatShort
import Derived.Test.YtmojcnlddfijjaaDoorRatEq
import Derived.Test.YtmojcnlddfijjaaDoorRatOps
import Derived.Test.YtmojcnlddfijjaaDoorRatAwake
import Derived.Deep.RegionHeld3
import Derived.Deep.RegionWith
import Derived.Deep.DeepCutAuto
namespace Go.Proofs.YtmojcnlddfijjaaDoor
open Go.RowKit NatMath RatMath

theorem Own.up {e : TypeId} {k : IntKind} {B : Nat} {w : World} {ao : Option Addr} {n c : Nat} {xs : List Int} (h : Own e k B w ao n c xs) {g : Nat} (hg : w.heap.size ≤ g) : ∀ a, ao = some a → g ≠ a.block := by
  intro a ha
  rcases h.cases with ⟨h0, _⟩ | ⟨q, hq, h1, h2, _⟩
  · rw [h0] at ha; cases ha
  · rw [hq] at ha
    cases ha
    show g ≠ q
    omega
/-- A number lies in block g of the call's own; nothing under V has turned. -/
def RAt (V : World) (z : R) (K : Nat) (wx : World) (g : Nat) : Prop := ∃ (a b : Option Addr) (n c m d : Nat),
  Blk wx g 25 #[.bool z.s, .slice a n c, .slice b m d] ∧ Lst .u32 wx a n c (limbs z.p) ∧ Lst .u32 wx b m d (limbs z.q) ∧ n ≤ K ∧ m ≤ K ∧ V.heap.size ≤ g ∧ Below V.heap.size V wx
theorem RAt.mk {V v : World} {z : R} {g B K : Nat} {v0 v1 v2 : Value} {a b : Option Addr} {n c m d : Nat} (kd : Blk v g 25 #[v0, v1, v2]) (bb : Below V.heap.size V v) (hg : V.heap.size ≤ g)
    (o1 : Own 77 .u32 B v a n c (limbs z.p)) (h1 : ∀ q, a = some q → g ≠ q.block) (o2 : Own 77 .u32 B v b m d (limbs z.q)) (h2 : ∀ q, b = some q → g ≠ q.block) (hn : n ≤ K) (hm : m ≤ K) :
    RAt V z K (put3 v g (.bool z.s) (.slice a n c) (.slice b m d)) g :=
  ⟨a, b, n, c, m, d, kd.put3 _ _ _, (o1.put3 h1 _ _ _).lst, (o2.put3 h2 _ _ _).lst, hn, hm, hg, below_put3 bb hg _ _ _⟩
theorem RAt.new {V v : World} {z : R} {B K : Nat} {a b : Option Addr} {n c m d : Nat} (bb : Below V.heap.size V v)
    (o1 : Own 77 .u32 B v a n c (limbs z.p)) (o2 : Own 77 .u32 B v b m d (limbs z.q)) (hn : n ≤ K) (hm : m ≤ K) :
    RAt V z K (v.alloc (.cells #[.bool z.s, .slice a n c, .slice b m d] 25)) v.heap.size :=
  have bz := (Below.refl v.heap.size v).alloc (Nat.le_refl _) (.cells #[.bool z.s, .slice a n c, .slice b m d] 25)
  ⟨a, b, n, c, m, d, Blk.new v _ _, o1.lst.below bz, o2.lst.below bz, hn, hm, bb.size, bb.trans (bz.mono bb.size)⟩

/-- A block, carried along. -/
def BoxAt (w : World) (g : Nat) (t : TypeId) (cs : Array Value) : Prop := Blk w g t cs
theorem BoxAt.below {w w' : World} {g : Nat} {t : TypeId} {cs : Array Value} (h : BoxAt w g t cs) (hb : Below w.heap.size w w') : BoxAt w' g t cs := Blk.on h hb
theorem BoxAt.drewN {w : World} {g : Nat} {t : TypeId} {cs : Array Value} (h : BoxAt w g t cs) (q : Nat) : BoxAt (w.drewN q) g t cs := h
theorem cmp_none (x : R) : RatMath.cmp x ⟨false, 0, 0⟩ = 0 ↔ x.p = 0 ∨ x.q = 0 := by
  rw [cmp_zero, ← dv_p_zero]
  have e : dv (⟨false, 0, 0⟩ : R) = zero := by decide
  rw [e]
  show num (dv x) * ((1 : Nat) : Int) = 0 * _ ↔ _
  rw [Int.zero_mul, Int.natCast_one, Int.mul_one]
  exact num_zero

theorem BoxAt.below_same {w : World} {g : Nat} {t : TypeId} {v0 v1 v2 : Value} (h : BoxAt w g t #[v0, v1, v2]) : w.cell? ⟨g, 0, none⟩ = some v0 ∧ w.cell? ⟨g, 1, none⟩ = some v1 ∧ w.cell? ⟨g, 2, none⟩ = some v2 := Blk.cells3 h

set_option maxHeartbeats 6400000 in
set_option maxRecDepth 100000 in
theorem rfield_c (s1 : Bool) (a1 b1 : Option Addr) (n1 c1 m1 d1 : Nat) (xs1 ys1 : List Int) (s2 : Bool) (a2 b2 : Option Addr) (n2 c2 m2 d2 : Nat) (xs2 ys2 : List Int) (s3 : Bool) (a3 b3 : Option Addr) (n3 c3 m3 d3 : Nat) (xs3 ys3 : List Int) (w : World)
    (h1 : Lst .u32 w a1 n1 c1 xs1) (k1 : Lst .u32 w b1 m1 d1 ys1) (h2 : Lst .u32 w a2 n2 c2 xs2) (k2 : Lst .u32 w b2 m2 d2 ys2) (h3 : Lst .u32 w a3 n3 c3 xs3) (k3 : Lst .u32 w b3 m3 d3 ys3) (htab : Tab w) :
    Calls Tryd.prog 3 #[.agg #[.bool s1, .slice a1 n1 c1, .slice b1 m1 d1], .agg #[.bool s2, .slice a2 n2 c2, .slice b2 m2 d2], .agg #[.bool s3, .slice a3 n3 c3, .slice b3 m3 d3]] w fun e w' => e = .returned (.bool true) ∧ Below w.heap.size w w' := by
  have HT := Lib.hid htab
  have H1 := Lib.hid h1; have K1 := Lib.hid k1; have H2 := Lib.hid h2; have K2 := Lib.hid k2; have H3 := Lib.hid h3; have K3 := Lib.hid k3
  clear h1 k1 h2 k2 h3 k3 htab
  go_enter Tryd.func3, Tryd.ntmps3
  go_wp2_with fail
  obtain ⟨W0, hW0, kA, kB, kC, bb⟩ := boxed3 w 25 #[.bool s1, .slice a1 n1 c1, .slice b1 m1 d1] #[.bool s2, .slice a2 n2 c2, .slice b2 m2 d2] #[.bool s3, .slice a3 n3 c3, .slice b3 m3 d3]
  rw [← hW0]
  have S1 := Lib.hid (fun w1 (hb : Below w.heap.size w w1) => short2_c s1 a1 b1 n1 c1 m1 d1 xs1 ys1 2 w1 (H1.out.below hb) (K1.out.below hb))
  have S2 := Lib.hid (fun w1 (hb : Below w.heap.size w w1) => short2_c s2 a2 b2 n2 c2 m2 d2 xs2 ys2 2 w1 (H2.out.below hb) (K2.out.below hb))
  have S3 := Lib.hid (fun w1 (hb : Below w.heap.size w w1) => short2_c s3 a3 b3 n3 c3 m3 d3 xs3 ys3 2 w1 (H3.out.below hb) (K3.out.below hb))
  have BB : Hid (Below w.heap.size w W0.drew) := bb.drew
  have AA : Hid (Blk W0.drew w.heap.size 25 #[.bool s1, .slice a1 n1 c1, .slice b1 m1 d1]) := kA
  have CC : Hid (Blk W0.drew (w.heap.size + 1) 25 #[.bool s2, .slice a2 n2 c2, .slice b2 m2 d2]) := kB
  have EE : Hid (Blk W0.drew (w.heap.size + 1 + 1) 25 #[.bool s3, .slice a3 n3 c3, .slice b3 m3 d3]) := kC
  obtain ⟨x0, x1, x2⟩ := kA.cells3
  obtain ⟨y0, y1, y2⟩ := kB.cells3
  obtain ⟨z0, z1, z2⟩ := kC.cells3
  clear hW0 kA kB kC bb
  go_cut [12] (fun s12 wx => ∃ p1 q1 p2 q2 p3 q3 : Nat, (p1 ≤ 2 ∧ q1 ≤ 2 ∧ p2 ≤ 2 ∧ q2 ≤ 2 ∧ p3 ≤ 2 ∧ q3 ≤ 2) ∧ Lst .u32 w a1 p1 c1 (xs1.take 2) ∧ Lst .u32 w b1 q1 d1 (ys1.take 2) ∧ Lst .u32 w a2 p2 c2 (xs2.take 2) ∧ Lst .u32 w b2 q2 d2 (ys2.take 2) ∧ Lst .u32 w a3 p3 c3 (xs3.take 2) ∧ Lst .u32 w b3 q3 d3 (ys3.take 2) ∧
    Blk wx w.heap.size 25 #[.bool s1, .slice a1 p1 c1, .slice b1 q1 d1] ∧ Blk wx (w.heap.size + 1) 25 #[.bool s2, .slice a2 p2 c2, .slice b2 q2 d2] ∧ Blk wx (w.heap.size + 1 + 1) 25 #[.bool s3, .slice a3 p3 c3, .slice b3 q3 d3] ∧ Below w.heap.size w wx)
  case first =>
    go_region_with ((first
      | (go_at_call_of 11 (Value.agg #[Value.bool s1, Value.slice a1 n1 c1, Value.slice b1 m1 d1]); refine (S1.out W0.drew BB.out).mono ?_; rintro e v1 ⟨p1, q1, rfl, hp1, hq1, L1, M1, B1⟩; have A1 := AA.out.on B1; have C1 := CC.out.on B1; have E1 := EE.out.on B1; have B1' := BB.out.trans (B1.mono BB.out.size); clear B1; obtain ⟨i0, i1, i2⟩ := C1.cells3; obtain ⟨ii0, ii1, ii2⟩ := E1.cells3)
      | (go_at_call_of 11 (Value.agg #[Value.bool s2, Value.slice a2 n2 c2, Value.slice b2 m2 d2]); refine (S2.out v1 B1').mono ?_; rintro e v2 ⟨p2, q2, rfl, hp2, hq2, L2, M2, B2⟩; have A2 := A1.on B2; have C2 := C1.on B2; have E2 := E1.on B2; have B2' := B1'.trans (B2.mono B1'.size); clear B2; obtain ⟨j0, j1, j2⟩ := E2.cells3)
      | (go_at_call 11; refine (S3.out v2 B2').mono ?_; rintro e v3 ⟨p3, q3, rfl, hp3, hq3, L3, M3, B3⟩; have A3 := A2.on B3; have C3 := C2.on B3; have E3 := E2.on B3; have B3' := B2'.trans (B3.mono B2'.size); clear B3; obtain ⟨k0, k1, k2, k3, k4, k5⟩ := A3.store3 (.bool s1) (.slice a1 p1 c1); have A4 := A3.put3 (.bool s1) (.slice a1 p1 c1) (.slice b1 q1 d1); have C4 := put3_other (g := w.heap.size) C3 (by omega) (.bool s1) (.slice a1 p1 c1) (.slice b1 q1 d1); have E4 := put3_other (g := w.heap.size) E3 (by omega) (.bool s1) (.slice a1 p1 c1) (.slice b1 q1 d1); obtain ⟨l0, l1, l2, l3, l4, l5⟩ := C4.store3 (.bool s2) (.slice a2 p2 c2); have E5 := put3_other (g := w.heap.size + 1) E4 (by omega) (.bool s2) (.slice a2 p2 c2) (.slice b2 q2 d2); obtain ⟨r0, r1, r2, r3, r4, r5⟩ := E5.store3 (.bool s3) (.slice a3 p3 c3); unfold put3 at l0 l1 l2 l3 l4 l5 r0 r1 r2 r3 r4 r5)))
    all_goals
      go_wp2_with fail
      go_meet
      have C5 := C4.put3 (.bool s2) (.slice a2 p2 c2) (.slice b2 q2 d2)
      have A5 := put3_other (g := w.heap.size + 1) A4 (by omega) (.bool s2) (.slice a2 p2 c2) (.slice b2 q2 d2)
      have E6 := E5.put3 (.bool s3) (.slice a3 p3 c3) (.slice b3 q3 d3)
      have C6 := put3_other (g := w.heap.size + 1 + 1) C5 (by omega) (.bool s3) (.slice a3 p3 c3) (.slice b3 q3 d3)
      have A6 := put3_other (g := w.heap.size + 1 + 1) A5 (by omega) (.bool s3) (.slice a3 p3 c3) (.slice b3 q3 d3)
      have B6 := below_put3 (below_put3 (below_put3 B3' (Nat.le_refl _) (.bool s1) (.slice a1 p1 c1) (.slice b1 q1 d1)) (Nat.le_add_right _ 1) (.bool s2) (.slice a2 p2 c2) (.slice b2 q2 d2)) (show w.heap.size ≤ w.heap.size + 1 + 1 by omega) (.bool s3) (.slice a3 p3 c3) (.slice b3 q3 d3)
      exact ⟨p1, q1, p2, q2, p3, q3, ⟨hp1, hq1, hp2, hq2, hp3, hq3⟩, H1.out.retake L1, K1.out.retake M1, H2.out.retake L2, K2.out.retake M2, H3.out.retake L3, K3.out.retake M3, A6, C6, E6, B6⟩
  case rest =>
    obtain ⟨p1, q1, p2, q2, p3, q3, ⟨hp1, hq1, hp2, hq2, hp3, hq3⟩, L1, M1, L2, M2, L3, M3, A, C, E, bb⟩ := hcut
    obtain ⟨X1, hX1⟩ : ∃ X, Hid (X = xs1.take 2) := ⟨_, rfl⟩
    obtain ⟨Y1, hY1⟩ : ∃ X, Hid (X = ys1.take 2) := ⟨_, rfl⟩
    obtain ⟨X2, hX2⟩ : ∃ X, Hid (X = xs2.take 2) := ⟨_, rfl⟩
    obtain ⟨Y2, hY2⟩ : ∃ X, Hid (X = ys2.take 2) := ⟨_, rfl⟩
    obtain ⟨X3, hX3⟩ : ∃ X, Hid (X = xs3.take 2) := ⟨_, rfl⟩
    obtain ⟨Y3, hY3⟩ : ∃ X, Hid (X = ys3.take 2) := ⟨_, rfl⟩
    rw [← hX1.out] at L1; rw [← hY1.out] at M1; rw [← hX2.out] at L2; rw [← hY2.out] at M2; rw [← hX3.out] at L3; rw [← hY3.out] at M3
    have P1 := Lib.hid (L1.below bb); have Q1 := Lib.hid (M1.below bb); have P2 := Lib.hid (L2.below bb); have Q2 := Lib.hid (M2.below bb); have P3 := Lib.hid (L3.below bb); have Q3 := Lib.hid (M3.below bb)
    obtain ⟨g1, hg1⟩ : ∃ g, Hid (g = w.heap.size) := ⟨_, rfl⟩
    obtain ⟨g2, hg2⟩ : ∃ g, Hid (g = w.heap.size + 1) := ⟨_, rfl⟩
    obtain ⟨g3, hg3⟩ : ∃ g, Hid (g = w.heap.size + 1 + 1) := ⟨_, rfl⟩
    clear L1 M1 L2 M2 L3 M3 H1 K1 H2 K2 H3 K3 S1 S2 S3 hX1 hY1 hX2 hY2 hX3 hY3 x0 x1 x2 y0 y1 y2 z0 z1 z2 AA CC EE BB
    rw [← hg3.out] at E ⊢
    rw [← hg2.out] at C ⊢
    rw [← hg1.out] at A ⊢
    have A := Lib.hid A; have C := Lib.hid C; have E := Lib.hid E
    have BV := Lib.hid bb
    obtain ⟨V, hV⟩ : ∃ V, V = wc := ⟨_, rfl⟩
    rw [← hV] at A C E BV P1 Q1 P2 Q2 P3 Q3 ⊢
    clear hV bb
    obtain ⟨ra, hra⟩ : ∃ x, Hid (x = (⟨s1, val X1, val Y1⟩ : R)) := ⟨_, rfl⟩
    obtain ⟨rb, hrb⟩ : ∃ x, Hid (x = (⟨s2, val X2, val Y2⟩ : R)) := ⟨_, rfl⟩
    obtain ⟨rc, hrc⟩ : ∃ x, Hid (x = (⟨s3, val X3, val Y3⟩ : R)) := ⟨_, rfl⟩
    obtain ⟨x1, hx1⟩ : ∃ x, Hid (x = nf (sm (dv ra) (dv rb))) := ⟨_, rfl⟩
    obtain ⟨zx, hzx⟩ : ∃ x, Hid (x = nf (ml rc x1)) := ⟨_, rfl⟩
    have HAdd := Lib.hid (fun (W : World) (hb : Below V.heap.size V W) => radd_c s1 s2 a1 b1 a2 b2 p1 c1 q1 d1 p2 c2 q2 d2 2 X1 Y1 X2 Y2 W (P1.out.below hb) (Q1.out.below hb) (P2.out.below hb) (Q2.out.below hb) hp1 hq1 hp2 hq2 (by omega))
    have HMul := Lib.hid (fun (W : World) (a b : Option Addr) (n c m d : Nat) (hb : Below V.heap.size V W) (h : Lst .u32 W a n c (limbs x1.p)) (k : Lst .u32 W b m d (limbs x1.q)) (hn : n ≤ 9) (hm : m ≤ 9) => rmul_c s3 x1.s a3 b3 a b p3 c3 q3 d3 n c m d 9 X3 Y3 _ _ W (P3.out.below hb) (Q3.out.below hb) h k (by omega) (by omega) hn hm (by omega))
    obtain ⟨i0, i1, i2⟩ := A.out.cells3
    obtain ⟨ii0, ii1, ii2⟩ := C.out.cells3
    obtain ⟨iii0, iii1, iii2⟩ := E.out.cells3
    go_wp2_with fail
    have BVn0_ : Below V.heap.size V V.drew := (Below.refl _ _).drew
    have BVa0_ : Below V.heap.size V (V.alloc (.cells #[.bool false, .slice none 0 0, .slice none 0 0] 25)).drew := ((Below.refl _ _).alloc (Nat.le_refl _) (.cells #[.bool false, .slice none 0 0, .slice none 0 0] 25)).drew
    have kda0_ : Blk (V.alloc (.cells #[.bool false, .slice none 0 0, .slice none 0 0] 25)).drew V.heap.size 25 #[.bool false, .slice none 0 0, .slice none 0 0] := Blk.new V 25 #[.bool false, .slice none 0 0, .slice none 0 0]
    obtain ⟨nA0, nA1, nA2⟩ := (A.out.on BVn0_).cells3
    obtain ⟨eA0, eA1, eA2⟩ := (A.out.on BVa0_).cells3
    obtain ⟨nC0, nC1, nC2⟩ := (C.out.on BVn0_).cells3
    obtain ⟨eC0, eC1, eC2⟩ := (C.out.on BVa0_).cells3
    obtain ⟨nE0, nE1, nE2⟩ := (E.out.on BVn0_).cells3
    obtain ⟨eE0, eE1, eE2⟩ := (E.out.on BVa0_).cells3
    go_cut [7] (fun s7 wx => ∃ g : Nat, s7 = .pointer (some ⟨g, 0, none⟩) ∧ RAt V zx 40 wx g)
    case first =>
      go_region_held3 (fun w' => w'.cell? ⟨g1, 0, none⟩ = some (.bool s1) ∧ w'.cell? ⟨g1, 1, none⟩ = some (.slice a1 p1 c1) ∧ w'.cell? ⟨g1, 2, none⟩ = some (.slice b1 q1 d1) ∧ w'.cell? ⟨g2, 0, none⟩ = some (.bool s2) ∧ w'.cell? ⟨g2, 1, none⟩ = some (.slice a2 p2 c2) ∧ w'.cell? ⟨g2, 2, none⟩ = some (.slice b2 q2 d2) ∧ w'.cell? ⟨g3, 0, none⟩ = some (.bool s3) ∧ w'.cell? ⟨g3, 1, none⟩ = some (.slice a3 p3 c3) ∧ w'.cell? ⟨g3, 2, none⟩ = some (.slice b3 q3 d3)) (go_keep) (first
        | (go_at_call 13; have hc := HAdd.out V.drew BVn0_; rw [← hra.out, ← hrb.out, ← hx1.out] at hc; (with_reducible refine (hc).mono ?_); rintro e rn1 ⟨t1, a4, n4, c4, b4, m4, d4, rfl, rfl, o1, o2, hn4, hm4, Bn1_⟩; have BVn1_ := BVn0_.trans (Bn1_.mono BVn0_.size); clear hc; have Fn1_ := o1.lst; have Gn1_ := o2.lst; obtain ⟨An10, An11, An12⟩ := (A.out.on BVn1_).cells3; obtain ⟨Cn10, Cn11, Cn12⟩ := (C.out.on BVn1_).cells3; obtain ⟨En10, En11, En12⟩ := (E.out.on BVn1_).cells3; have bzn1_ := (Below.refl rn1.heap.size rn1).alloc (Nat.le_refl _) (.cells #[.bool false, .slice none 0 0, .slice none 0 0] 25); have BVa1_ := BVn1_.trans (bzn1_.mono BVn1_.size); have Fa1_ := Fn1_.below bzn1_; have Ga1_ := Gn1_.below bzn1_; obtain ⟨Aa10, Aa11, Aa12⟩ := (A.out.on BVa1_).cells3; obtain ⟨Ca10, Ca11, Ca12⟩ := (C.out.on BVa1_).cells3; obtain ⟨Ea10, Ea11, Ea12⟩ := (E.out.on BVa1_).cells3; have kda1_ := Blk.new rn1 25 #[.bool false, .slice none 0 0, .slice none 0 0])
        | (go_at_call 13; have hc := HAdd.out (V.alloc (.cells #[.bool false, .slice none 0 0, .slice none 0 0] 25)).drew BVa0_; rw [← hra.out, ← hrb.out, ← hx1.out] at hc; (with_reducible refine (hc).mono ?_); rintro e rp0_1 ⟨t1, a4, n4, c4, b4, m4, d4, rfl, rfl, o1, o2, hn4, hm4, Bp01_⟩; have BVp01_ := BVa0_.trans (Bp01_.mono BVa0_.size); clear hc; have Fp01_ := o1.lst; have Gp01_ := o2.lst; obtain ⟨Ap010, Ap011, Ap012⟩ := (A.out.on BVp01_).cells3; obtain ⟨Cp010, Cp011, Cp012⟩ := (C.out.on BVp01_).cells3; obtain ⟨Ep010, Ep011, Ep012⟩ := (E.out.on BVp01_).cells3; have kdp01_ := kda0_.on Bp01_)
        | (go_at_call 12; have hc := HMul.out rn1 _ _ _ _ _ _ BVn1_ Fn1_ Gn1_ (by omega) (by omega); rw [val_limbs, val_limbs, ← hrc.out, show nf (ml rc ⟨x1.s, x1.p, x1.q⟩) = zx from hzx.out.symm] at hc; (with_reducible refine (hc).mono ?_); rintro e rn2 ⟨t2, a5, n5, c5, b5, m5, d5, rfl, rfl, o3, o4, hn5, hm5, Bn2_⟩; have BVn2_ := BVn1_.trans (Bn2_.mono BVn1_.size); clear hc; obtain ⟨An20, An21, An22⟩ := (A.out.on BVn2_).cells3; obtain ⟨Cn20, Cn21, Cn22⟩ := (C.out.on BVn2_).cells3; obtain ⟨En20, En21, En22⟩ := (E.out.on BVn2_).cells3; have xAn2_ : g1 ≠ rn2.heap.size := Nat.ne_of_lt (Nat.lt_of_lt_of_le A.out.lt BVn2_.size); have yAn2_ := xAn2_.symm; have xCn2_ : g2 ≠ rn2.heap.size := Nat.ne_of_lt (Nat.lt_of_lt_of_le C.out.lt BVn2_.size); have yCn2_ := xCn2_.symm; have xEn2_ : g3 ≠ rn2.heap.size := Nat.ne_of_lt (Nat.lt_of_lt_of_le E.out.lt BVn2_.size); have yEn2_ := xEn2_.symm; have fin := Lib.hid (RAt.new (K := 40) BVn2_ o3 o4 (by omega) (by omega)))
        | (go_at_call 12; have hc := HMul.out (rn1.alloc (.cells #[.bool false, .slice none 0 0, .slice none 0 0] 25)) _ _ _ _ _ _ BVa1_ Fa1_ Ga1_ (by omega) (by omega); rw [val_limbs, val_limbs, ← hrc.out, show nf (ml rc ⟨x1.s, x1.p, x1.q⟩) = zx from hzx.out.symm] at hc; (with_reducible refine (hc).mono ?_); rintro e rp1_2 ⟨t2, a5, n5, c5, b5, m5, d5, rfl, rfl, o3, o4, hn5, hm5, Bp12_⟩; have BVp12_ := BVa1_.trans (Bp12_.mono BVa1_.size); clear hc; obtain ⟨Ap120, Ap121, Ap122⟩ := (A.out.on BVp12_).cells3; obtain ⟨Cp120, Cp121, Cp122⟩ := (C.out.on BVp12_).cells3; obtain ⟨Ep120, Ep121, Ep122⟩ := (E.out.on BVp12_).cells3; have kdp12_ := kda1_.on Bp12_; have xAp12_ : g1 ≠ rn1.heap.size := Nat.ne_of_lt (Nat.lt_of_lt_of_le A.out.lt (BVn1_.size)); have yAp12_ := xAp12_.symm; have xCp12_ : g2 ≠ rn1.heap.size := Nat.ne_of_lt (Nat.lt_of_lt_of_le C.out.lt (BVn1_.size)); have yCp12_ := xCp12_.symm; have xEp12_ : g3 ≠ rn1.heap.size := Nat.ne_of_lt (Nat.lt_of_lt_of_le E.out.lt (BVn1_.size)); have yEp12_ := xEp12_.symm; obtain ⟨y0, y1, y2, y3, y4, y5⟩ := kdp12_.store3 (.bool zx.s) (.slice a5 n5 c5); have fin := Lib.hid (RAt.mk (K := 40) kdp12_ BVp12_ (BVn1_.size) o3 (o3.hi kda1_.lt) o4 (o4.hi kda1_.lt) (by omega) (by omega)))
        | (go_at_call 12; have hc := HMul.out rp0_1 _ _ _ _ _ _ BVp01_ Fp01_ Gp01_ (by omega) (by omega); rw [val_limbs, val_limbs, ← hrc.out, show nf (ml rc ⟨x1.s, x1.p, x1.q⟩) = zx from hzx.out.symm] at hc; (with_reducible refine (hc).mono ?_); rintro e rp0_2 ⟨t2, a5, n5, c5, b5, m5, d5, rfl, rfl, o3, o4, hn5, hm5, Bp02_⟩; have BVp02_ := BVp01_.trans (Bp02_.mono BVp01_.size); clear hc; obtain ⟨Ap020, Ap021, Ap022⟩ := (A.out.on BVp02_).cells3; obtain ⟨Cp020, Cp021, Cp022⟩ := (C.out.on BVp02_).cells3; obtain ⟨Ep020, Ep021, Ep022⟩ := (E.out.on BVp02_).cells3; have kdp02_ := kdp01_.on Bp02_; have xAp02_ : g1 ≠ V.heap.size := Nat.ne_of_lt (Nat.lt_of_lt_of_le A.out.lt (Nat.le_refl _)); have yAp02_ := xAp02_.symm; have xCp02_ : g2 ≠ V.heap.size := Nat.ne_of_lt (Nat.lt_of_lt_of_le C.out.lt (Nat.le_refl _)); have yCp02_ := xCp02_.symm; have xEp02_ : g3 ≠ V.heap.size := Nat.ne_of_lt (Nat.lt_of_lt_of_le E.out.lt (Nat.le_refl _)); have yEp02_ := xEp02_.symm; obtain ⟨y0, y1, y2, y3, y4, y5⟩ := kdp02_.store3 (.bool zx.s) (.slice a5 n5 c5); have fin := Lib.hid (RAt.mk (K := 40) kdp02_ BVp02_ (Nat.le_refl _) o3 (o3.hi kdp01_.lt) o4 (o4.hi kdp01_.lt) (by omega) (by omega))))
      all_goals
        go_wp2_with fail
        go_meet
        exact ⟨_, rfl, fin.out⟩
    case rest =>
      obtain ⟨gx, rfl, ax, bx, nx, cx, mx, dx, KX, LX, MX, hnx, hmx, hgx, b2⟩ := hcut
      replace P1 := Lib.hid (P1.out.below b2)
      replace Q1 := Lib.hid (Q1.out.below b2)
      replace P2 := Lib.hid (P2.out.below b2)
      replace Q2 := Lib.hid (Q2.out.below b2)
      replace P3 := Lib.hid (P3.out.below b2)
      replace Q3 := Lib.hid (Q3.out.below b2)
      replace A := Lib.hid (A.out.on b2)
      replace C := Lib.hid (C.out.on b2)
      replace E := Lib.hid (E.out.on b2)
      replace BV := Lib.hid (BV.out.trans (b2.mono BV.out.size))
      clear HAdd HMul i0 i1 i2 ii0 ii1 ii2 iii0 iii1 iii2 BVn0_ BVa0_ kda0_ nA0 nA1 nA2 nC0 nC1 nC2 nE0 nE1 nE2 eA0 eA1 eA2 eC0 eC1 eC2 eE0 eE1 eE2
      have KX := Lib.hid KX; have LX := Lib.hid LX; have MX := Lib.hid MX
      obtain ⟨V2, hV2⟩ : ∃ V2, V2 = wc := ⟨_, rfl⟩
      rw [← hV2] at A C E BV P1 Q1 P2 Q2 P3 Q3 KX LX MX ⊢
      clear hV2 b2 hgx
      obtain ⟨zac, hzac⟩ : ∃ x, Hid (x = nf (ml ra rc)) := ⟨_, rfl⟩
      obtain ⟨zbc, hzbc⟩ : ∃ x, Hid (x = nf (ml rb rc)) := ⟨_, rfl⟩
      have hy : nf (sm (dv zac) (dv zbc)) = zx := by
        rw [hzac.out, hzbc.out, dv_nf, dv_nf, ← field, ← hx1.out, hzx.out]
      have HY := Lib.hid hy
      clear hy
      have HM1 := Lib.hid (fun (W : World) (hb : Below V2.heap.size V2 W) => rmul_c s1 s3 a1 b1 a3 b3 p1 c1 q1 d1 p3 c3 q3 d3 2 X1 Y1 X3 Y3 W (P1.out.below hb) (Q1.out.below hb) (P3.out.below hb) (Q3.out.below hb) hp1 hq1 hp3 hq3 (by omega))
      have HM2 := Lib.hid (fun (W : World) (hb : Below V2.heap.size V2 W) => rmul_c s2 s3 a2 b2 a3 b3 p2 c2 q2 d2 p3 c3 q3 d3 2 X2 Y2 X3 Y3 W (P2.out.below hb) (Q2.out.below hb) (P3.out.below hb) (Q3.out.below hb) hp2 hq2 hp3 hq3 (by omega))
      have HA2 := Lib.hid (fun (W : World) (a b : Option Addr) (n c m d : Nat) (a' b' : Option Addr) (n' c' m' d' : Nat) (h : Lst .u32 W a n c (limbs zac.p)) (k : Lst .u32 W b m d (limbs zac.q)) (h' : Lst .u32 W a' n' c' (limbs zbc.p)) (k' : Lst .u32 W b' m' d' (limbs zbc.q)) (hn : n ≤ 9) (hm : m ≤ 9) (hn' : n' ≤ 9) (hm' : m' ≤ 9) => radd_c zac.s zbc.s a b a' b' n c m d n' c' m' d' 9 _ _ _ _ W h k h' k' hn hm hn' hm' (by omega))
      obtain ⟨i0, i1, i2⟩ := A.out.cells3
      obtain ⟨ii0, ii1, ii2⟩ := C.out.cells3
      obtain ⟨iii0, iii1, iii2⟩ := E.out.cells3
      go_wp2_with fail
      have BVn0_ : Below V2.heap.size V2 V2.drew := (Below.refl _ _).drew
      have BVa0_ : Below V2.heap.size V2 (V2.alloc (.cells #[.bool false, .slice none 0 0, .slice none 0 0] 25)).drew := ((Below.refl _ _).alloc (Nat.le_refl _) (.cells #[.bool false, .slice none 0 0, .slice none 0 0] 25)).drew
      have kda0_ : Blk (V2.alloc (.cells #[.bool false, .slice none 0 0, .slice none 0 0] 25)).drew V2.heap.size 25 #[.bool false, .slice none 0 0, .slice none 0 0] := Blk.new V2 25 #[.bool false, .slice none 0 0, .slice none 0 0]
      obtain ⟨nA0, nA1, nA2⟩ := (A.out.on BVn0_).cells3
      obtain ⟨eA0, eA1, eA2⟩ := (A.out.on BVa0_).cells3
      obtain ⟨nC0, nC1, nC2⟩ := (C.out.on BVn0_).cells3
      obtain ⟨eC0, eC1, eC2⟩ := (C.out.on BVa0_).cells3
      obtain ⟨nE0, nE1, nE2⟩ := (E.out.on BVn0_).cells3
      obtain ⟨eE0, eE1, eE2⟩ := (E.out.on BVa0_).cells3
      go_cut [8] (fun s8 wx => ∃ g : Nat, s8 = .pointer (some ⟨g, 0, none⟩) ∧ RAt V2 zx 40 wx g)
      case first =>
        go_region_held3 (fun w' => w'.cell? ⟨g1, 0, none⟩ = some (.bool s1) ∧ w'.cell? ⟨g1, 1, none⟩ = some (.slice a1 p1 c1) ∧ w'.cell? ⟨g1, 2, none⟩ = some (.slice b1 q1 d1) ∧ w'.cell? ⟨g2, 0, none⟩ = some (.bool s2) ∧ w'.cell? ⟨g2, 1, none⟩ = some (.slice a2 p2 c2) ∧ w'.cell? ⟨g2, 2, none⟩ = some (.slice b2 q2 d2) ∧ w'.cell? ⟨g3, 0, none⟩ = some (.bool s3) ∧ w'.cell? ⟨g3, 1, none⟩ = some (.slice a3 p3 c3) ∧ w'.cell? ⟨g3, 2, none⟩ = some (.slice b3 q3 d3)) (go_keep) (first
          | (go_at_call_of 12 (Value.slice a1 p1 c1); have hc := HM1.out V2.drew BVn0_; rw [← hra.out, ← hrc.out, ← hzac.out] at hc; (with_reducible refine (hc).mono ?_); rintro e rn1 ⟨t1, a4, n4, c4, b4, m4, d4, rfl, rfl, o1, o2, hn4, hm4, Bn1_⟩; have BVn1_ := BVn0_.trans (Bn1_.mono BVn0_.size); clear hc; have Fn1_ := o1.lst; have Gn1_ := o2.lst; obtain ⟨An10, An11, An12⟩ := (A.out.on BVn1_).cells3; obtain ⟨Cn10, Cn11, Cn12⟩ := (C.out.on BVn1_).cells3; obtain ⟨En10, En11, En12⟩ := (E.out.on BVn1_).cells3; have bzn1_ := (Below.refl rn1.heap.size rn1).alloc (Nat.le_refl _) (.cells #[.bool false, .slice none 0 0, .slice none 0 0] 25); have BVa1_ := BVn1_.trans (bzn1_.mono BVn1_.size); have Fa1_ := Fn1_.below bzn1_; have Ga1_ := Gn1_.below bzn1_; obtain ⟨Aa10, Aa11, Aa12⟩ := (A.out.on BVa1_).cells3; obtain ⟨Ca10, Ca11, Ca12⟩ := (C.out.on BVa1_).cells3; obtain ⟨Ea10, Ea11, Ea12⟩ := (E.out.on BVa1_).cells3; have kda1_ := Blk.new rn1 25 #[.bool false, .slice none 0 0, .slice none 0 0])
          | (go_at_call_of 12 (Value.slice a1 p1 c1); have hc := HM1.out (V2.alloc (.cells #[.bool false, .slice none 0 0, .slice none 0 0] 25)).drew BVa0_; rw [← hra.out, ← hrc.out, ← hzac.out] at hc; (with_reducible refine (hc).mono ?_); rintro e rp0_1 ⟨t1, a4, n4, c4, b4, m4, d4, rfl, rfl, o1, o2, hn4, hm4, Bp01_⟩; have BVp01_ := BVa0_.trans (Bp01_.mono BVa0_.size); clear hc; have Fp01_ := o1.lst; have Gp01_ := o2.lst; obtain ⟨Ap010, Ap011, Ap012⟩ := (A.out.on BVp01_).cells3; obtain ⟨Cp010, Cp011, Cp012⟩ := (C.out.on BVp01_).cells3; obtain ⟨Ep010, Ep011, Ep012⟩ := (E.out.on BVp01_).cells3; have kdp01_ := kda0_.on Bp01_)
          | (go_at_call_of 12 (Value.slice a2 p2 c2); have hc := HM2.out rn1 BVn1_; rw [← hrb.out, ← hrc.out, ← hzbc.out] at hc; (with_reducible refine (hc).mono ?_); rintro e rn2 ⟨t2, a5, n5, c5, b5, m5, d5, rfl, rfl, o3, o4, hn5, hm5, Bn2_⟩; have BVn2_ := BVn1_.trans (Bn2_.mono BVn1_.size); clear hc; have Fn2_ := Fn1_.below Bn2_; have Gn2_ := Gn1_.below Bn2_; have Hn2_ := o3.lst; have In2_ := o4.lst; obtain ⟨An20, An21, An22⟩ := (A.out.on BVn2_).cells3; obtain ⟨Cn20, Cn21, Cn22⟩ := (C.out.on BVn2_).cells3; obtain ⟨En20, En21, En22⟩ := (E.out.on BVn2_).cells3; have bzn2_ := (Below.refl rn2.heap.size rn2).alloc (Nat.le_refl _) (.cells #[.bool false, .slice none 0 0, .slice none 0 0] 25); have BVa2_ := BVn2_.trans (bzn2_.mono BVn2_.size); have Fa2_ := Fn2_.below bzn2_; have Ga2_ := Gn2_.below bzn2_; have Ha2_ := Hn2_.below bzn2_; have Ia2_ := In2_.below bzn2_; obtain ⟨Aa20, Aa21, Aa22⟩ := (A.out.on BVa2_).cells3; obtain ⟨Ca20, Ca21, Ca22⟩ := (C.out.on BVa2_).cells3; obtain ⟨Ea20, Ea21, Ea22⟩ := (E.out.on BVa2_).cells3; have kda2_ := Blk.new rn2 25 #[.bool false, .slice none 0 0, .slice none 0 0])
          | (go_at_call_of 12 (Value.slice a2 p2 c2); have hc := HM2.out (rn1.alloc (.cells #[.bool false, .slice none 0 0, .slice none 0 0] 25)) BVa1_; rw [← hrb.out, ← hrc.out, ← hzbc.out] at hc; (with_reducible refine (hc).mono ?_); rintro e rp1_2 ⟨t2, a5, n5, c5, b5, m5, d5, rfl, rfl, o3, o4, hn5, hm5, Bp12_⟩; have BVp12_ := BVa1_.trans (Bp12_.mono BVa1_.size); clear hc; have Fp12_ := Fa1_.below Bp12_; have Gp12_ := Ga1_.below Bp12_; have Hp12_ := o3.lst; have Ip12_ := o4.lst; obtain ⟨Ap120, Ap121, Ap122⟩ := (A.out.on BVp12_).cells3; obtain ⟨Cp120, Cp121, Cp122⟩ := (C.out.on BVp12_).cells3; obtain ⟨Ep120, Ep121, Ep122⟩ := (E.out.on BVp12_).cells3; have kdp12_ := kda1_.on Bp12_)
          | (go_at_call_of 12 (Value.slice a2 p2 c2); have hc := HM2.out rp0_1 BVp01_; rw [← hrb.out, ← hrc.out, ← hzbc.out] at hc; (with_reducible refine (hc).mono ?_); rintro e rp0_2 ⟨t2, a5, n5, c5, b5, m5, d5, rfl, rfl, o3, o4, hn5, hm5, Bp02_⟩; have BVp02_ := BVp01_.trans (Bp02_.mono BVp01_.size); clear hc; have Fp02_ := Fp01_.below Bp02_; have Gp02_ := Gp01_.below Bp02_; have Hp02_ := o3.lst; have Ip02_ := o4.lst; obtain ⟨Ap020, Ap021, Ap022⟩ := (A.out.on BVp02_).cells3; obtain ⟨Cp020, Cp021, Cp022⟩ := (C.out.on BVp02_).cells3; obtain ⟨Ep020, Ep021, Ep022⟩ := (E.out.on BVp02_).cells3; have kdp02_ := kdp01_.on Bp02_)
          | (go_at_call 13; have hc := HA2.out rn2 _ _ _ _ _ _ _ _ _ _ _ _ Fn2_ Gn2_ Hn2_ In2_ (by omega) (by omega) (by omega) (by omega); rw [val_limbs, val_limbs, val_limbs, val_limbs, show nf (sm (dv ⟨zac.s, zac.p, zac.q⟩) (dv ⟨zbc.s, zbc.p, zbc.q⟩)) = zx from HY.out] at hc; (with_reducible refine (hc).mono ?_); rintro e rn3 ⟨t3, a6, n6, c6, b6, m6, d6, rfl, rfl, o5, o6, hn6, hm6, Bn3_⟩; have BVn3_ := BVn2_.trans (Bn3_.mono BVn2_.size); clear hc; obtain ⟨An30, An31, An32⟩ := (A.out.on BVn3_).cells3; obtain ⟨Cn30, Cn31, Cn32⟩ := (C.out.on BVn3_).cells3; obtain ⟨En30, En31, En32⟩ := (E.out.on BVn3_).cells3; have xAn3_ : g1 ≠ rn3.heap.size := Nat.ne_of_lt (Nat.lt_of_lt_of_le A.out.lt BVn3_.size); have yAn3_ := xAn3_.symm; have xCn3_ : g2 ≠ rn3.heap.size := Nat.ne_of_lt (Nat.lt_of_lt_of_le C.out.lt BVn3_.size); have yCn3_ := xCn3_.symm; have xEn3_ : g3 ≠ rn3.heap.size := Nat.ne_of_lt (Nat.lt_of_lt_of_le E.out.lt BVn3_.size); have yEn3_ := xEn3_.symm; have fin := Lib.hid (RAt.new (K := 40) BVn3_ o5 o6 (by omega) (by omega)))
          | (go_at_call 13; have hc := HA2.out (rn2.alloc (.cells #[.bool false, .slice none 0 0, .slice none 0 0] 25)) _ _ _ _ _ _ _ _ _ _ _ _ Fa2_ Ga2_ Ha2_ Ia2_ (by omega) (by omega) (by omega) (by omega); rw [val_limbs, val_limbs, val_limbs, val_limbs, show nf (sm (dv ⟨zac.s, zac.p, zac.q⟩) (dv ⟨zbc.s, zbc.p, zbc.q⟩)) = zx from HY.out] at hc; (with_reducible refine (hc).mono ?_); rintro e rp2_3 ⟨t3, a6, n6, c6, b6, m6, d6, rfl, rfl, o5, o6, hn6, hm6, Bp23_⟩; have BVp23_ := BVa2_.trans (Bp23_.mono BVa2_.size); clear hc; obtain ⟨Ap230, Ap231, Ap232⟩ := (A.out.on BVp23_).cells3; obtain ⟨Cp230, Cp231, Cp232⟩ := (C.out.on BVp23_).cells3; obtain ⟨Ep230, Ep231, Ep232⟩ := (E.out.on BVp23_).cells3; have kdp23_ := kda2_.on Bp23_; have xAp23_ : g1 ≠ rn2.heap.size := Nat.ne_of_lt (Nat.lt_of_lt_of_le A.out.lt (BVn2_.size)); have yAp23_ := xAp23_.symm; have xCp23_ : g2 ≠ rn2.heap.size := Nat.ne_of_lt (Nat.lt_of_lt_of_le C.out.lt (BVn2_.size)); have yCp23_ := xCp23_.symm; have xEp23_ : g3 ≠ rn2.heap.size := Nat.ne_of_lt (Nat.lt_of_lt_of_le E.out.lt (BVn2_.size)); have yEp23_ := xEp23_.symm; obtain ⟨y0, y1, y2, y3, y4, y5⟩ := kdp23_.store3 (.bool zx.s) (.slice a6 n6 c6); have fin := Lib.hid (RAt.mk (K := 40) kdp23_ BVp23_ (BVn2_.size) o5 (o5.hi kda2_.lt) o6 (o6.hi kda2_.lt) (by omega) (by omega)))
          | (go_at_call 13; have hc := HA2.out rp1_2 _ _ _ _ _ _ _ _ _ _ _ _ Fp12_ Gp12_ Hp12_ Ip12_ (by omega) (by omega) (by omega) (by omega); rw [val_limbs, val_limbs, val_limbs, val_limbs, show nf (sm (dv ⟨zac.s, zac.p, zac.q⟩) (dv ⟨zbc.s, zbc.p, zbc.q⟩)) = zx from HY.out] at hc; (with_reducible refine (hc).mono ?_); rintro e rp1_3 ⟨t3, a6, n6, c6, b6, m6, d6, rfl, rfl, o5, o6, hn6, hm6, Bp13_⟩; have BVp13_ := BVp12_.trans (Bp13_.mono BVp12_.size); clear hc; obtain ⟨Ap130, Ap131, Ap132⟩ := (A.out.on BVp13_).cells3; obtain ⟨Cp130, Cp131, Cp132⟩ := (C.out.on BVp13_).cells3; obtain ⟨Ep130, Ep131, Ep132⟩ := (E.out.on BVp13_).cells3; have kdp13_ := kdp12_.on Bp13_; have xAp13_ : g1 ≠ rn1.heap.size := Nat.ne_of_lt (Nat.lt_of_lt_of_le A.out.lt (BVn1_.size)); have yAp13_ := xAp13_.symm; have xCp13_ : g2 ≠ rn1.heap.size := Nat.ne_of_lt (Nat.lt_of_lt_of_le C.out.lt (BVn1_.size)); have yCp13_ := xCp13_.symm; have xEp13_ : g3 ≠ rn1.heap.size := Nat.ne_of_lt (Nat.lt_of_lt_of_le E.out.lt (BVn1_.size)); have yEp13_ := xEp13_.symm; obtain ⟨y0, y1, y2, y3, y4, y5⟩ := kdp13_.store3 (.bool zx.s) (.slice a6 n6 c6); have fin := Lib.hid (RAt.mk (K := 40) kdp13_ BVp13_ (BVn1_.size) o5 (o5.hi kdp12_.lt) o6 (o6.hi kdp12_.lt) (by omega) (by omega)))
          | (go_at_call 13; have hc := HA2.out rp0_2 _ _ _ _ _ _ _ _ _ _ _ _ Fp02_ Gp02_ Hp02_ Ip02_ (by omega) (by omega) (by omega) (by omega); rw [val_limbs, val_limbs, val_limbs, val_limbs, show nf (sm (dv ⟨zac.s, zac.p, zac.q⟩) (dv ⟨zbc.s, zbc.p, zbc.q⟩)) = zx from HY.out] at hc; (with_reducible refine (hc).mono ?_); rintro e rp0_3 ⟨t3, a6, n6, c6, b6, m6, d6, rfl, rfl, o5, o6, hn6, hm6, Bp03_⟩; have BVp03_ := BVp02_.trans (Bp03_.mono BVp02_.size); clear hc; obtain ⟨Ap030, Ap031, Ap032⟩ := (A.out.on BVp03_).cells3; obtain ⟨Cp030, Cp031, Cp032⟩ := (C.out.on BVp03_).cells3; obtain ⟨Ep030, Ep031, Ep032⟩ := (E.out.on BVp03_).cells3; have kdp03_ := kdp02_.on Bp03_; have xAp03_ : g1 ≠ V2.heap.size := Nat.ne_of_lt (Nat.lt_of_lt_of_le A.out.lt (Nat.le_refl _)); have yAp03_ := xAp03_.symm; have xCp03_ : g2 ≠ V2.heap.size := Nat.ne_of_lt (Nat.lt_of_lt_of_le C.out.lt (Nat.le_refl _)); have yCp03_ := xCp03_.symm; have xEp03_ : g3 ≠ V2.heap.size := Nat.ne_of_lt (Nat.lt_of_lt_of_le E.out.lt (Nat.le_refl _)); have yEp03_ := xEp03_.symm; obtain ⟨y0, y1, y2, y3, y4, y5⟩ := kdp03_.store3 (.bool zx.s) (.slice a6 n6 c6); have fin := Lib.hid (RAt.mk (K := 40) kdp03_ BVp03_ (Nat.le_refl _) o5 (o5.hi kdp02_.lt) o6 (o6.hi kdp02_.lt) (by omega) (by omega))))
        all_goals
          go_wp2_with fail
          go_meet
          exact ⟨_, rfl, fin.out⟩
      case rest =>
        obtain ⟨gy, rfl, ay, by', ny, cy, my, dy, KY, LY, MY, hny, hmy, hgy, b3⟩ := hcut
        replace P1 := Lib.hid (P1.out.below b3)
        replace Q1 := Lib.hid (Q1.out.below b3)
        replace P2 := Lib.hid (P2.out.below b3)
        replace Q2 := Lib.hid (Q2.out.below b3)
        replace P3 := Lib.hid (P3.out.below b3)
        replace Q3 := Lib.hid (Q3.out.below b3)
        replace LX := Lib.hid (LX.out.below b3)
        replace MX := Lib.hid (MX.out.below b3)
        replace A := Lib.hid (A.out.on b3)
        replace C := Lib.hid (C.out.on b3)
        replace E := Lib.hid (E.out.on b3)
        replace KX := Lib.hid (KX.out.on b3)
        replace BV := Lib.hid (BV.out.trans (b3.mono BV.out.size))
        clear HM1 HM2 HA2 C P2 Q2 i0 i1 i2 ii0 ii1 ii2 iii0 iii1 iii2 BVn0_ BVa0_ kda0_ nA0 nA1 nA2 nC0 nC1 nC2 nE0 nE1 nE2 eA0 eA1 eA2 eC0 eC1 eC2 eE0 eE1 eE2
        have KY := Lib.hid KY; have LY := Lib.hid LY; have MY := Lib.hid MY
        obtain ⟨V3, hV3⟩ : ∃ V3, V3 = wc := ⟨_, rfl⟩
        rw [← hV3] at A E BV P1 Q1 P3 Q3 KX LX MX KY LY MY ⊢
        clear hV3 b3 hgy
        have HM1 := Lib.hid (fun (W : World) (hb : Below V3.heap.size V3 W) => rmul_c s1 s3 a1 b1 a3 b3 p1 c1 q1 d1 p3 c3 q3 d3 2 X1 Y1 X3 Y3 W (P1.out.below hb) (Q1.out.below hb) (P3.out.below hb) (Q3.out.below hb) hp1 hq1 hp3 hq3 (by omega))
        obtain ⟨i0, i1, i2⟩ := A.out.cells3
        obtain ⟨iii0, iii1, iii2⟩ := E.out.cells3
        have hrcp : rc.p = val X3 := by rw [hrc.out]
        have hrcq : rc.q = val Y3 := by rw [hrc.out]
        by_cases hz : val X3 = 0 ∨ val Y3 = 0
        · have hg0 : RatMath.cmp ⟨s3, val X3, val Y3⟩ ⟨false, 0, 0⟩ = 0 := (cmp_none _).2 hz
          have HG0 := Lib.hid hg0
          have HZ := Lib.hid hz
          clear hg0 hz hrcp hrcq
          go_wp2_with fail
          have BVn0_ : Below V3.heap.size V3 V3.drew := (Below.refl _ _).drew
          have BVa0_ : Below V3.heap.size V3 (V3.alloc (.cells #[.bool false, .slice none 0 0, .slice none 0 0] 25)).drew := ((Below.refl _ _).alloc (Nat.le_refl _) (.cells #[.bool false, .slice none 0 0, .slice none 0 0] 25)).drew
          have kda0_ : Blk (V3.alloc (.cells #[.bool false, .slice none 0 0, .slice none 0 0] 25)).drew V3.heap.size 25 #[.bool false, .slice none 0 0, .slice none 0 0] := Blk.new V3 25 #[.bool false, .slice none 0 0, .slice none 0 0]
          obtain ⟨nA0, nA1, nA2⟩ := (A.out.on BVn0_).cells3
          obtain ⟨eA0, eA1, eA2⟩ := (A.out.on BVa0_).cells3
          obtain ⟨nE0, nE1, nE2⟩ := (E.out.on BVn0_).cells3
          obtain ⟨eE0, eE1, eE2⟩ := (E.out.on BVa0_).cells3
          go_cut [9, 10] (fun s9 s10 wx => ∃ g : Nat, s9 = .pointer (some ⟨g, 0, none⟩) ∧ s10 = .bool false ∧ Below V3.heap.size V3 wx)
          case first =>
            go_region_held3 (fun w' => w'.cell? ⟨g1, 0, none⟩ = some (.bool s1) ∧ w'.cell? ⟨g1, 1, none⟩ = some (.slice a1 p1 c1) ∧ w'.cell? ⟨g1, 2, none⟩ = some (.slice b1 q1 d1) ∧ w'.cell? ⟨g3, 0, none⟩ = some (.bool s3) ∧ w'.cell? ⟨g3, 1, none⟩ = some (.slice a3 p3 c3) ∧ w'.cell? ⟨g3, 2, none⟩ = some (.slice b3 q3 d3)) (go_keep) (first
              | (go_at_call 12; have hc := HM1.out V3.drew BVn0_; rw [← hra.out, ← hrc.out, ← hzac.out] at hc; (with_reducible refine (hc).mono ?_); rintro e rn1 ⟨t1, a4, n4, c4, b4, m4, d4, rfl, rfl, o1, o2, hn4, hm4, Bn1_⟩; have BVn1_ := BVn0_.trans (Bn1_.mono BVn0_.size); clear hc; have Fn1_ := o1.lst; have Gn1_ := o2.lst; obtain ⟨An10, An11, An12⟩ := (A.out.on BVn1_).cells3; obtain ⟨En10, En11, En12⟩ := (E.out.on BVn1_).cells3; have bzn1_ := (Below.refl rn1.heap.size rn1).alloc (Nat.le_refl _) (.cells #[.bool false, .slice none 0 0, .slice none 0 0] 25); have BVa1_ := BVn1_.trans (bzn1_.mono BVn1_.size); have Fa1_ := Fn1_.below bzn1_; have Ga1_ := Gn1_.below bzn1_; obtain ⟨Aa10, Aa11, Aa12⟩ := (A.out.on BVa1_).cells3; obtain ⟨Ea10, Ea11, Ea12⟩ := (E.out.on BVa1_).cells3; have kda1_ := Blk.new rn1 25 #[.bool false, .slice none 0 0, .slice none 0 0])
              | (go_at_call 12; have hc := HM1.out (V3.alloc (.cells #[.bool false, .slice none 0 0, .slice none 0 0] 25)).drew BVa0_; rw [← hra.out, ← hrc.out, ← hzac.out] at hc; (with_reducible refine (hc).mono ?_); rintro e rp0_1 ⟨t1, a4, n4, c4, b4, m4, d4, rfl, rfl, o1, o2, hn4, hm4, Bp01_⟩; have BVp01_ := BVa0_.trans (Bp01_.mono BVa0_.size); clear hc; have Fp01_ := o1.lst; have Gp01_ := o2.lst; obtain ⟨Ap010, Ap011, Ap012⟩ := (A.out.on BVp01_).cells3; obtain ⟨Ep010, Ep011, Ep012⟩ := (E.out.on BVp01_).cells3; have kdp01_ := kda0_.on Bp01_)
              | (go_at_call 14; have hc := rdiv_zero_c zac.s s3 _ _ a3 b3 _ _ _ _ p3 c3 q3 d3 9 _ _ X3 Y3 rn1 Fn1_ Gn1_ (P3.out.below BVn1_) (Q3.out.below BVn1_) (by omega) (by omega) (by omega) (by omega) (by omega) HZ.out; (with_reducible refine (hc).mono ?_); rintro e rn2 ⟨rfl, Bn2_⟩; have BVn2_ := BVn1_.trans (Bn2_.mono BVn1_.size); clear hc; obtain ⟨An20, An21, An22⟩ := (A.out.on BVn2_).cells3; obtain ⟨En20, En21, En22⟩ := (E.out.on BVn2_).cells3; have xAn2_ : g1 ≠ rn2.heap.size := Nat.ne_of_lt (Nat.lt_of_lt_of_le A.out.lt BVn2_.size); have yAn2_ := xAn2_.symm; have xEn2_ : g3 ≠ rn2.heap.size := Nat.ne_of_lt (Nat.lt_of_lt_of_le E.out.lt BVn2_.size); have yEn2_ := xEn2_.symm; have fin := Lib.hid (BVn2_.trans (((Below.refl rn2.heap.size rn2).alloc (Nat.le_refl _) (.cells #[.bool false, .slice none 0 0, .slice none 0 0] 25)).mono BVn2_.size)))
              | (go_at_call 14; have hc := rdiv_zero_c zac.s s3 _ _ a3 b3 _ _ _ _ p3 c3 q3 d3 9 _ _ X3 Y3 (rn1.alloc (.cells #[.bool false, .slice none 0 0, .slice none 0 0] 25)) Fa1_ Ga1_ (P3.out.below BVa1_) (Q3.out.below BVa1_) (by omega) (by omega) (by omega) (by omega) (by omega) HZ.out; (with_reducible refine (hc).mono ?_); rintro e rp1_2 ⟨rfl, Bp12_⟩; have BVp12_ := BVa1_.trans (Bp12_.mono BVa1_.size); clear hc; obtain ⟨Ap120, Ap121, Ap122⟩ := (A.out.on BVp12_).cells3; obtain ⟨Ep120, Ep121, Ep122⟩ := (E.out.on BVp12_).cells3; have kdp12_ := kda1_.on Bp12_; have xAp12_ : g1 ≠ rn1.heap.size := Nat.ne_of_lt (Nat.lt_of_lt_of_le A.out.lt (BVn1_.size)); have yAp12_ := xAp12_.symm; have xEp12_ : g3 ≠ rn1.heap.size := Nat.ne_of_lt (Nat.lt_of_lt_of_le E.out.lt (BVn1_.size)); have yEp12_ := xEp12_.symm; obtain ⟨y0, y1, y2, y3, y4, y5⟩ := kdp12_.store3 (.bool false) (.slice none 0 0); have fin := Lib.hid (below_put3 BVp12_ (BVn1_.size) (.bool false) (.slice none 0 0) (.slice none 0 0)))
              | (go_at_call 14; have hc := rdiv_zero_c zac.s s3 _ _ a3 b3 _ _ _ _ p3 c3 q3 d3 9 _ _ X3 Y3 rp0_1 Fp01_ Gp01_ (P3.out.below BVp01_) (Q3.out.below BVp01_) (by omega) (by omega) (by omega) (by omega) (by omega) HZ.out; (with_reducible refine (hc).mono ?_); rintro e rp0_2 ⟨rfl, Bp02_⟩; have BVp02_ := BVp01_.trans (Bp02_.mono BVp01_.size); clear hc; obtain ⟨Ap020, Ap021, Ap022⟩ := (A.out.on BVp02_).cells3; obtain ⟨Ep020, Ep021, Ep022⟩ := (E.out.on BVp02_).cells3; have kdp02_ := kdp01_.on Bp02_; have xAp02_ : g1 ≠ V3.heap.size := Nat.ne_of_lt (Nat.lt_of_lt_of_le A.out.lt (Nat.le_refl _)); have yAp02_ := xAp02_.symm; have xEp02_ : g3 ≠ V3.heap.size := Nat.ne_of_lt (Nat.lt_of_lt_of_le E.out.lt (Nat.le_refl _)); have yEp02_ := xEp02_.symm; obtain ⟨y0, y1, y2, y3, y4, y5⟩ := kdp02_.store3 (.bool false) (.slice none 0 0); have fin := Lib.hid (below_put3 BVp02_ (Nat.le_refl _) (.bool false) (.slice none 0 0) (.slice none 0 0))))
            all_goals
              go_wp2_with fail
              go_meet
              exact ⟨_, rfl, rfl, fin.out⟩
          case rest =>
            obtain ⟨gq, rfl, rfl, b4⟩ := hcut
            replace P1 := Lib.hid (P1.out.below b4)
            replace Q1 := Lib.hid (Q1.out.below b4)
            replace P3 := Lib.hid (P3.out.below b4)
            replace Q3 := Lib.hid (Q3.out.below b4)
            replace LX := Lib.hid (LX.out.below b4)
            replace MX := Lib.hid (MX.out.below b4)
            replace LY := Lib.hid (LY.out.below b4)
            replace MY := Lib.hid (MY.out.below b4)
            replace A := Lib.hid (A.out.on b4)
            replace E := Lib.hid (E.out.on b4)
            replace KX := Lib.hid (KX.out.on b4)
            replace KY := Lib.hid (KY.out.on b4)
            replace BV := Lib.hid (BV.out.trans (b4.mono BV.out.size))
            clear HM1 BVn0_ BVa0_ kda0_ nA0 nA1 nA2 nE0 nE1 nE2 eA0 eA1 eA2 eE0 eE1 eE2 i0 i1 i2 iii0 iii1 iii2

            obtain ⟨V4, hV4⟩ : ∃ V4, V4 = wc := ⟨_, rfl⟩
            rw [← hV4] at A E BV P1 Q1 P3 Q3 KX LX MX KY LY MY ⊢
            clear hV4 b4
            obtain ⟨iii0, iii1, iii2⟩ := E.out.cells3
            have hcz := rcmp_c s3 false a3 b3 none none p3 c3 q3 d3 0 0 0 0 2 X3 Y3 [] [] V4 P3.out Q3.out (Lst.nil _ _) (Lst.nil _ _) hp3 hq3 (by omega) (by omega) (by omega)
            rw [show RatMath.cmp ⟨s3, val X3, val Y3⟩ ⟨false, val [], val []⟩ = RatMath.cmp ⟨s3, val X3, val Y3⟩ ⟨false, 0, 0⟩ from rfl, HG0.out] at hcz
            have HCZ := Lib.hid hcz
            clear hcz
            go_wp2_with fail
            refine HCZ.out.mono ?_
            rintro e V5 ⟨rfl, b5⟩
            have HBV := Lib.hid (BV.out.trans (b5.mono BV.out.size))
            replace LX := LX.out.below b5; replace MX := MX.out.below b5; replace LY := LY.out.below b5; replace MY := MY.out.below b5
            have EX : BoxAt V5 gx 25 #[.bool zx.s, .slice ax nx cx, .slice bx mx dx] := KX.out.on b5
            have EY : BoxAt V5 gy 25 #[.bool zx.s, .slice ay ny cy, .slice by' my dy] := KY.out.on b5
            have bb := HBV.out
            clear HBV A E KX KY
            have HC := Lib.hid (awake2_c V5 (HT.out.below bb))
            go_wp2_with fail
            refine HC.out.mono ?_
            rintro e v1 ⟨rfl, k1⟩
            clear HC
            replace LX := LX.below k1; replace MX := MX.below k1; replace LY := LY.below k1; replace MY := MY.below k1; replace EX := EX.below k1; replace EY := EY.below k1
            replace bb := Below.on bb k1 bb.size
            clear k1
            obtain ⟨uEX1_0, uEX1_1, uEX1_2⟩ := EX.below_same; obtain ⟨uEY1_0, uEY1_1, uEY1_2⟩ := EY.below_same
            have he := eq2_c zx.s zx.s _ _ _ _ _ _ _ _ _ _ _ _ _ _ _ _ v1 LX MX LY MY
            rw [decide_eq_true ⟨rfl, rfl, rfl⟩] at he
            have HC := Lib.hid (he)
            go_wp2_with fail
            refine HC.out.mono ?_
            rintro e v2 ⟨rfl, k2⟩
            clear HC
            replace LX := LX.below k2; replace MX := MX.below k2; replace LY := LY.below k2; replace MY := MY.below k2; replace EX := EX.below k2; replace EY := EY.below k2
            replace bb := Below.on bb k2 bb.size
            clear k2
            clear he
            obtain ⟨uEX2_0, uEX2_1, uEX2_2⟩ := EX.below_same; obtain ⟨uEY2_0, uEY2_1, uEY2_2⟩ := EY.below_same
            go_wp2_with fail
            go_ret
            exact ⟨rfl, bb⟩
        · have hz1 : val X3 ≠ 0 := fun e => hz (Or.inl e)
          have hz2 : val Y3 ≠ 0 := fun e => hz (Or.inr e)
          obtain ⟨g0, hg0⟩ : ∃ g, Hid (g = RatMath.cmp ⟨s3, val X3, val Y3⟩ ⟨false, 0, 0⟩) := ⟨_, rfl⟩
          have hgb : (g0 == 0) = false := by
            rw [hg0.out, beq_eq_false_iff_ne]
            exact fun e => hz ((cmp_none _).1 e)
          obtain ⟨zq, hzq⟩ : ∃ x, Hid (x = nf ra) := ⟨_, rfl⟩
          have hq : nf (ml zac (inv rc)) = zq := by
            rw [hzac.out, hzq.out]
            exact field_div ra (by rw [hrcp]; exact hz1) (by rw [hrcq]; exact hz2)
          have hcq : RatMath.cmp ⟨zq.s, zq.p, zq.q⟩ ⟨s1, val X1, val Y1⟩ = 0 := by
            refine cmp_of_nf ?_
            show nf zq = _
            rw [hzq.out, nf_nf, hra.out]
          have HQ := Lib.hid hq; have HCQ := Lib.hid hcq; have HZ1 := Lib.hid hz1; have HZ2 := Lib.hid hz2
          clear hq hcq hz hz1 hz2 hrcp hrcq
          go_wp2_with fail
          have BVn0_ : Below V3.heap.size V3 V3.drew := (Below.refl _ _).drew
          have BVa0_ : Below V3.heap.size V3 (V3.alloc (.cells #[.bool false, .slice none 0 0, .slice none 0 0] 25)).drew := ((Below.refl _ _).alloc (Nat.le_refl _) (.cells #[.bool false, .slice none 0 0, .slice none 0 0] 25)).drew
          have kda0_ : Blk (V3.alloc (.cells #[.bool false, .slice none 0 0, .slice none 0 0] 25)).drew V3.heap.size 25 #[.bool false, .slice none 0 0, .slice none 0 0] := Blk.new V3 25 #[.bool false, .slice none 0 0, .slice none 0 0]
          obtain ⟨nA0, nA1, nA2⟩ := (A.out.on BVn0_).cells3
          obtain ⟨eA0, eA1, eA2⟩ := (A.out.on BVa0_).cells3
          obtain ⟨nE0, nE1, nE2⟩ := (E.out.on BVn0_).cells3
          obtain ⟨eE0, eE1, eE2⟩ := (E.out.on BVa0_).cells3
          go_cut [9, 10] (fun s9 s10 wx => ∃ g : Nat, s9 = .pointer (some ⟨g, 0, none⟩) ∧ s10 = .bool true ∧ RAt V3 zq 60 wx g)
          case first =>
            go_region_held3 (fun w' => w'.cell? ⟨g1, 0, none⟩ = some (.bool s1) ∧ w'.cell? ⟨g1, 1, none⟩ = some (.slice a1 p1 c1) ∧ w'.cell? ⟨g1, 2, none⟩ = some (.slice b1 q1 d1) ∧ w'.cell? ⟨g3, 0, none⟩ = some (.bool s3) ∧ w'.cell? ⟨g3, 1, none⟩ = some (.slice a3 p3 c3) ∧ w'.cell? ⟨g3, 2, none⟩ = some (.slice b3 q3 d3)) (go_keep) (first
              | (go_at_call 12; have hc := HM1.out V3.drew BVn0_; rw [← hra.out, ← hrc.out, ← hzac.out] at hc; (with_reducible refine (hc).mono ?_); rintro e rn1 ⟨t1, a4, n4, c4, b4, m4, d4, rfl, rfl, o1, o2, hn4, hm4, Bn1_⟩; have BVn1_ := BVn0_.trans (Bn1_.mono BVn0_.size); clear hc; have Fn1_ := o1.lst; have Gn1_ := o2.lst; obtain ⟨An10, An11, An12⟩ := (A.out.on BVn1_).cells3; obtain ⟨En10, En11, En12⟩ := (E.out.on BVn1_).cells3; have bzn1_ := (Below.refl rn1.heap.size rn1).alloc (Nat.le_refl _) (.cells #[.bool false, .slice none 0 0, .slice none 0 0] 25); have BVa1_ := BVn1_.trans (bzn1_.mono BVn1_.size); have Fa1_ := Fn1_.below bzn1_; have Ga1_ := Gn1_.below bzn1_; obtain ⟨Aa10, Aa11, Aa12⟩ := (A.out.on BVa1_).cells3; obtain ⟨Ea10, Ea11, Ea12⟩ := (E.out.on BVa1_).cells3; have kda1_ := Blk.new rn1 25 #[.bool false, .slice none 0 0, .slice none 0 0])
              | (go_at_call 12; have hc := HM1.out (V3.alloc (.cells #[.bool false, .slice none 0 0, .slice none 0 0] 25)).drew BVa0_; rw [← hra.out, ← hrc.out, ← hzac.out] at hc; (with_reducible refine (hc).mono ?_); rintro e rp0_1 ⟨t1, a4, n4, c4, b4, m4, d4, rfl, rfl, o1, o2, hn4, hm4, Bp01_⟩; have BVp01_ := BVa0_.trans (Bp01_.mono BVa0_.size); clear hc; have Fp01_ := o1.lst; have Gp01_ := o2.lst; obtain ⟨Ap010, Ap011, Ap012⟩ := (A.out.on BVp01_).cells3; obtain ⟨Ep010, Ep011, Ep012⟩ := (E.out.on BVp01_).cells3; have kdp01_ := kda0_.on Bp01_)
              | (go_at_call 14; have hc := rdiv_c zac.s s3 _ _ a3 b3 _ _ _ _ p3 c3 q3 d3 9 _ _ X3 Y3 rn1 Fn1_ Gn1_ (P3.out.below BVn1_) (Q3.out.below BVn1_) (by omega) (by omega) (by omega) (by omega) (by omega) HZ1.out HZ2.out; rw [val_limbs, val_limbs, ← hrc.out, show nf (ml ⟨zac.s, zac.p, zac.q⟩ (inv rc)) = zq from HQ.out] at hc; (with_reducible refine (hc).mono ?_); rintro e rn2 ⟨t2, a5, n5, c5, b5, m5, d5, rfl, rfl, o3, o4, hn5, hm5, Bn2_⟩; have BVn2_ := BVn1_.trans (Bn2_.mono BVn1_.size); clear hc; obtain ⟨An20, An21, An22⟩ := (A.out.on BVn2_).cells3; obtain ⟨En20, En21, En22⟩ := (E.out.on BVn2_).cells3; have xAn2_ : g1 ≠ rn2.heap.size := Nat.ne_of_lt (Nat.lt_of_lt_of_le A.out.lt BVn2_.size); have yAn2_ := xAn2_.symm; have xEn2_ : g3 ≠ rn2.heap.size := Nat.ne_of_lt (Nat.lt_of_lt_of_le E.out.lt BVn2_.size); have yEn2_ := xEn2_.symm; have fin := Lib.hid (RAt.new (K := 60) BVn2_ o3 o4 (by omega) (by omega)))
              | (go_at_call 14; have hc := rdiv_c zac.s s3 _ _ a3 b3 _ _ _ _ p3 c3 q3 d3 9 _ _ X3 Y3 (rn1.alloc (.cells #[.bool false, .slice none 0 0, .slice none 0 0] 25)) Fa1_ Ga1_ (P3.out.below BVa1_) (Q3.out.below BVa1_) (by omega) (by omega) (by omega) (by omega) (by omega) HZ1.out HZ2.out; rw [val_limbs, val_limbs, ← hrc.out, show nf (ml ⟨zac.s, zac.p, zac.q⟩ (inv rc)) = zq from HQ.out] at hc; (with_reducible refine (hc).mono ?_); rintro e rp1_2 ⟨t2, a5, n5, c5, b5, m5, d5, rfl, rfl, o3, o4, hn5, hm5, Bp12_⟩; have BVp12_ := BVa1_.trans (Bp12_.mono BVa1_.size); clear hc; obtain ⟨Ap120, Ap121, Ap122⟩ := (A.out.on BVp12_).cells3; obtain ⟨Ep120, Ep121, Ep122⟩ := (E.out.on BVp12_).cells3; have kdp12_ := kda1_.on Bp12_; have xAp12_ : g1 ≠ rn1.heap.size := Nat.ne_of_lt (Nat.lt_of_lt_of_le A.out.lt (BVn1_.size)); have yAp12_ := xAp12_.symm; have xEp12_ : g3 ≠ rn1.heap.size := Nat.ne_of_lt (Nat.lt_of_lt_of_le E.out.lt (BVn1_.size)); have yEp12_ := xEp12_.symm; obtain ⟨y0, y1, y2, y3, y4, y5⟩ := kdp12_.store3 (.bool zq.s) (.slice a5 n5 c5); have fin := Lib.hid (RAt.mk (K := 60) kdp12_ BVp12_ (BVn1_.size) o3 (o3.hi kda1_.lt) o4 (o4.hi kda1_.lt) (by omega) (by omega)))
              | (go_at_call 14; have hc := rdiv_c zac.s s3 _ _ a3 b3 _ _ _ _ p3 c3 q3 d3 9 _ _ X3 Y3 rp0_1 Fp01_ Gp01_ (P3.out.below BVp01_) (Q3.out.below BVp01_) (by omega) (by omega) (by omega) (by omega) (by omega) HZ1.out HZ2.out; rw [val_limbs, val_limbs, ← hrc.out, show nf (ml ⟨zac.s, zac.p, zac.q⟩ (inv rc)) = zq from HQ.out] at hc; (with_reducible refine (hc).mono ?_); rintro e rp0_2 ⟨t2, a5, n5, c5, b5, m5, d5, rfl, rfl, o3, o4, hn5, hm5, Bp02_⟩; have BVp02_ := BVp01_.trans (Bp02_.mono BVp01_.size); clear hc; obtain ⟨Ap020, Ap021, Ap022⟩ := (A.out.on BVp02_).cells3; obtain ⟨Ep020, Ep021, Ep022⟩ := (E.out.on BVp02_).cells3; have kdp02_ := kdp01_.on Bp02_; have xAp02_ : g1 ≠ V3.heap.size := Nat.ne_of_lt (Nat.lt_of_lt_of_le A.out.lt (Nat.le_refl _)); have yAp02_ := xAp02_.symm; have xEp02_ : g3 ≠ V3.heap.size := Nat.ne_of_lt (Nat.lt_of_lt_of_le E.out.lt (Nat.le_refl _)); have yEp02_ := xEp02_.symm; obtain ⟨y0, y1, y2, y3, y4, y5⟩ := kdp02_.store3 (.bool zq.s) (.slice a5 n5 c5); have fin := Lib.hid (RAt.mk (K := 60) kdp02_ BVp02_ (Nat.le_refl _) o3 (o3.hi kdp01_.lt) o4 (o4.hi kdp01_.lt) (by omega) (by omega))))
            all_goals
              go_wp2_with fail
              go_meet
              exact ⟨_, rfl, rfl, fin.out⟩
          case rest =>
            obtain ⟨gq, rfl, rfl, aq, bq, nq, cq, mq, dq, KQ, LQ, MQ, hnq, hmq, hgq, b4⟩ := hcut
            replace P1 := Lib.hid (P1.out.below b4)
            replace Q1 := Lib.hid (Q1.out.below b4)
            replace P3 := Lib.hid (P3.out.below b4)
            replace Q3 := Lib.hid (Q3.out.below b4)
            replace LX := Lib.hid (LX.out.below b4)
            replace MX := Lib.hid (MX.out.below b4)
            replace LY := Lib.hid (LY.out.below b4)
            replace MY := Lib.hid (MY.out.below b4)
            replace A := Lib.hid (A.out.on b4)
            replace E := Lib.hid (E.out.on b4)
            replace KX := Lib.hid (KX.out.on b4)
            replace KY := Lib.hid (KY.out.on b4)
            replace BV := Lib.hid (BV.out.trans (b4.mono BV.out.size))
            clear HM1 BVn0_ BVa0_ kda0_ nA0 nA1 nA2 nE0 nE1 nE2 eA0 eA1 eA2 eE0 eE1 eE2 i0 i1 i2 iii0 iii1 iii2
            have KQ := Lib.hid KQ; have LQ := Lib.hid LQ; have MQ := Lib.hid MQ
            obtain ⟨V4, hV4⟩ : ∃ V4, V4 = wc := ⟨_, rfl⟩
            rw [← hV4] at A E BV P1 Q1 P3 Q3 KX LX MX KY LY MY KQ LQ MQ ⊢
            clear hV4 b4
            obtain ⟨iii0, iii1, iii2⟩ := E.out.cells3
            have hcz := rcmp_c s3 false a3 b3 none none p3 c3 q3 d3 0 0 0 0 2 X3 Y3 [] [] V4 P3.out Q3.out (Lst.nil _ _) (Lst.nil _ _) hp3 hq3 (by omega) (by omega) (by omega)
            rw [show RatMath.cmp ⟨s3, val X3, val Y3⟩ ⟨false, val [], val []⟩ = RatMath.cmp ⟨s3, val X3, val Y3⟩ ⟨false, 0, 0⟩ from rfl, ← hg0.out] at hcz
            have HCZ := Lib.hid hcz
            clear hcz
            go_wp2_with fail
            refine HCZ.out.mono ?_
            rintro e V5 ⟨rfl, b5⟩
            have HBV := Lib.hid (BV.out.trans (b5.mono BV.out.size))
            replace LX := LX.out.below b5; replace MX := MX.out.below b5; replace LY := LY.out.below b5; replace MY := MY.out.below b5
            have EX : BoxAt V5 gx 25 #[.bool zx.s, .slice ax nx cx, .slice bx mx dx] := KX.out.on b5
            have EY : BoxAt V5 gy 25 #[.bool zx.s, .slice ay ny cy, .slice by' my dy] := KY.out.on b5
            replace P1 := P1.out.below b5; replace Q1 := Q1.out.below b5; replace LQ := LQ.out.below b5; replace MQ := MQ.out.below b5
            have EA : BoxAt V5 g1 25 #[.bool s1, .slice a1 p1 c1, .slice b1 q1 d1] := A.out.on b5
            have EQ : BoxAt V5 gq 25 #[.bool zq.s, .slice aq nq cq, .slice bq mq dq] := KQ.out.on b5
            have bb := HBV.out
            clear HBV A E KX KY
            have HC := Lib.hid (awake2_c V5 (HT.out.below bb))
            go_wp2_with fail
            refine HC.out.mono ?_
            rintro e v1 ⟨rfl, k1⟩
            clear HC
            replace LX := LX.below k1; replace MX := MX.below k1; replace LY := LY.below k1; replace MY := MY.below k1; replace EX := EX.below k1; replace EY := EY.below k1; replace P1 := P1.below k1; replace Q1 := Q1.below k1; replace LQ := LQ.below k1; replace MQ := MQ.below k1; replace EA := EA.below k1; replace EQ := EQ.below k1
            replace bb := Below.on bb k1 bb.size
            clear k1
            obtain ⟨uEX1_0, uEX1_1, uEX1_2⟩ := EX.below_same; obtain ⟨uEY1_0, uEY1_1, uEY1_2⟩ := EY.below_same; obtain ⟨uEA1_0, uEA1_1, uEA1_2⟩ := EA.below_same; obtain ⟨uEQ1_0, uEQ1_1, uEQ1_2⟩ := EQ.below_same
            have he := eq2_c zx.s zx.s _ _ _ _ _ _ _ _ _ _ _ _ _ _ _ _ v1 LX MX LY MY
            rw [decide_eq_true ⟨rfl, rfl, rfl⟩] at he
            have HC := Lib.hid (he)
            go_wp2_with fail
            refine HC.out.mono ?_
            rintro e v2 ⟨rfl, k2⟩
            clear HC
            replace LX := LX.below k2; replace MX := MX.below k2; replace LY := LY.below k2; replace MY := MY.below k2; replace EX := EX.below k2; replace EY := EY.below k2; replace P1 := P1.below k2; replace Q1 := Q1.below k2; replace LQ := LQ.below k2; replace MQ := MQ.below k2; replace EA := EA.below k2; replace EQ := EQ.below k2
            replace bb := Below.on bb k2 bb.size
            clear k2
            clear he
            obtain ⟨uEX2_0, uEX2_1, uEX2_2⟩ := EX.below_same; obtain ⟨uEY2_0, uEY2_1, uEY2_2⟩ := EY.below_same; obtain ⟨uEA2_0, uEA2_1, uEA2_2⟩ := EA.below_same; obtain ⟨uEQ2_0, uEQ2_1, uEQ2_2⟩ := EQ.below_same
            have hc := rcmp_c zq.s s1 _ _ _ _ _ _ _ _ _ _ _ _ 60 _ _ _ _ v2 LQ MQ P1 Q1 (by omega) (by omega) (by omega) (by omega) (by omega)
            rw [val_limbs, val_limbs, HCQ.out] at hc
            have HC := Lib.hid (hc)
            go_wp2_with fail
            refine HC.out.mono ?_
            rintro e v3 ⟨rfl, k3⟩
            clear HC
            replace LX := LX.below k3; replace MX := MX.below k3; replace LY := LY.below k3; replace MY := MY.below k3; replace EX := EX.below k3; replace EY := EY.below k3; replace P1 := P1.below k3; replace Q1 := Q1.below k3; replace LQ := LQ.below k3; replace MQ := MQ.below k3; replace EA := EA.below k3; replace EQ := EQ.below k3
            replace bb := Below.on bb k3 bb.size
            clear k3
            clear hc
            go_wp2_with fail
            go_ret
            exact ⟨rfl, bb⟩
end Go.Proofs.YtmojcnlddfijjaaDoor
