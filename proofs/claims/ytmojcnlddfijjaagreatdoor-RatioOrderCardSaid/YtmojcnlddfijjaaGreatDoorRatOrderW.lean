/-
  The walk of RatioOrder.
-/
import Derived.Test.YtmojcnlddfijjaaGreatDoorRatLaw
import Derived.Test.YtmojcnlddfijjaaGreatDoorRatRef2
import Derived.Test.YtmojcnlddfijjaaGreatDoorRatOps3
import Derived.Test.YtmojcnlddfijjaaGreatDoorRatAwake
import Derived.Deep.RegionHeld3
import Derived.Deep.RegionWith
import Derived.Deep.DeepCutAuto
namespace Go.Proofs.YtmojcnlddfijjaaGreatDoor
open Go.RowKit NatMath RatMath

theorem OwnT.away {B : Nat} {w : World} {ao : Option Addr} {n c : Nat} {xs : List Bool} (h : OwnT B w ao n c xs) {g : Nat} (hg : g < B ∨ w.heap.size ≤ g) : ∀ a, ao = some a → g ≠ a.block := by
  rcases hg with hg | hg
  · exact h.hi hg
  · exact h.up hg
theorem blk_up (w : World) (t : TypeId) (cs ds : Array Value) : Blk ((w.alloc (.cells cs t)).alloc (.cells ds t)) (w.heap.size + 1) t ds := by
  have := Blk.new (w.alloc (.cells cs t)) t ds
  rwa [show (w.alloc (.cells cs t)).heap.size = w.heap.size + 1 by simp] at this
/-- Two numbers of the reference lie in blocks gx and gy of the call's own. -/
def D2At (V : World) (x y : R) (K : Nat) (wx : World) (gx gy : Nat) : Prop := ∃ (a b : Option Addr) (n c m d : Nat) (a' b' : Option Addr) (n' c' m' d' : Nat),
  Blk wx gx 30 #[.bool x.s, .slice a n c, .slice b m d] ∧ LstB wx a n c (bitsN x.p) ∧ LstB wx b m d (bitsN x.q) ∧ n ≤ K ∧ m ≤ K ∧
  Blk wx gy 30 #[.bool y.s, .slice a' n' c', .slice b' m' d'] ∧ LstB wx a' n' c' (bitsN y.p) ∧ LstB wx b' m' d' (bitsN y.q) ∧ n' ≤ K ∧ m' ≤ K ∧ V.heap.size ≤ gx ∧ V.heap.size ≤ gy ∧ Below V.heap.size V wx
theorem D2At.mk {V W : World} {x y : R} {K gx gy B1 B2 : Nat} {a b a' b' : Option Addr} {n c m d n' c' m' d' : Nat} {v0 v1 v2 u0 u1 u2 : Value}
    (kx : Blk W gx 30 #[v0, v1, v2]) (ky : Blk W gy 30 #[u0, u1, u2]) (hne : gy ≠ gx) (bb : Below V.heap.size V W) (hgx : V.heap.size ≤ gx) (hgy : V.heap.size ≤ gy)
    (o1 : OwnT B1 W a n c (bitsN x.p)) (o2 : OwnT B1 W b m d (bitsN x.q)) (o3 : OwnT B2 W a' n' c' (bitsN y.p)) (o4 : OwnT B2 W b' m' d' (bitsN y.q))
    (x1 : ∀ q, a = some q → gx ≠ q.block) (x2 : ∀ q, b = some q → gx ≠ q.block) (x3 : ∀ q, a' = some q → gx ≠ q.block) (x4 : ∀ q, b' = some q → gx ≠ q.block)
    (y1 : ∀ q, a = some q → gy ≠ q.block) (y2 : ∀ q, b = some q → gy ≠ q.block) (y3 : ∀ q, a' = some q → gy ≠ q.block) (y4 : ∀ q, b' = some q → gy ≠ q.block)
    (hn : n ≤ K) (hm : m ≤ K) (hn' : n' ≤ K) (hm' : m' ≤ K) :
    D2At V x y K (put3 (put3 W gx (.bool x.s) (.slice a n c) (.slice b m d)) gy (.bool y.s) (.slice a' n' c') (.slice b' m' d')) gx gy :=
  ⟨a, b, n, c, m, d, a', b', n', c', m', d', put3_other (kx.put3 _ _ _) hne.symm _ _ _, ((o1.put3 x1 _ _ _).put3 y1 _ _ _).lst, ((o2.put3 x2 _ _ _).put3 y2 _ _ _).lst, hn, hm,
    (put3_other ky hne _ _ _).put3 _ _ _, ((o3.put3 x3 _ _ _).put3 y3 _ _ _).lst, ((o4.put3 x4 _ _ _).put3 y4 _ _ _).lst, hn', hm', hgx, hgy, below_put3 (below_put3 bb hgx _ _ _) hgy _ _ _⟩

theorem D2At.newA {V u : World} {x y : R} {K B1 B2 : Nat} {a b a' b' : Option Addr} {n c m d n' c' m' d' : Nat} (bb : Below V.heap.size V u)
    (o1 : OwnT B1 u a n c (bitsN x.p)) (o2 : OwnT B1 u b m d (bitsN x.q)) (o3 : OwnT B2 u a' n' c' (bitsN y.p)) (o4 : OwnT B2 u b' m' d' (bitsN y.q)) (hn : n ≤ K) (hm : m ≤ K) (hn' : n' ≤ K) (hm' : m' ≤ K) :
    D2At V x y K ((u.alloc (.cells #[.bool x.s, .slice a n c, .slice b m d] 30)).alloc (.cells #[.bool y.s, .slice a' n' c', .slice b' m' d'] 30)) u.heap.size (u.heap.size + 1) := by
  have bz : Below u.heap.size u ((u.alloc (.cells #[.bool x.s, .slice a n c, .slice b m d] 30)).alloc (.cells #[.bool y.s, .slice a' n' c', .slice b' m' d'] 30)) := ((Below.refl _ _).alloc (Nat.le_refl _) _).alloc (by simp) _
  have hs := bb.size
  exact ⟨a, b, n, c, m, d, a', b', n', c', m', d', (Blk.new u _ _).alloc _, o1.lst.below bz, o2.lst.below bz, hn, hm, blk_up _ _ _ _, o3.lst.below bz, o4.lst.below bz, hn', hm', hs, by omega, bb.trans (bz.mono bb.size)⟩
theorem D2At.newB {V u : World} {x y : R} {K B1 B2 : Nat} {a b a' b' : Option Addr} {n c m d n' c' m' d' : Nat} (bb : Below V.heap.size V u)
    (o1 : OwnT B1 u a n c (bitsN x.p)) (o2 : OwnT B1 u b m d (bitsN x.q)) (o3 : OwnT B2 u a' n' c' (bitsN y.p)) (o4 : OwnT B2 u b' m' d' (bitsN y.q)) (hn : n ≤ K) (hm : m ≤ K) (hn' : n' ≤ K) (hm' : m' ≤ K) :
    D2At V x y K ((u.alloc (.cells #[.bool y.s, .slice a' n' c', .slice b' m' d'] 30)).alloc (.cells #[.bool x.s, .slice a n c, .slice b m d] 30)) (u.heap.size + 1) u.heap.size := by
  have bz : Below u.heap.size u ((u.alloc (.cells #[.bool y.s, .slice a' n' c', .slice b' m' d'] 30)).alloc (.cells #[.bool x.s, .slice a n c, .slice b m d] 30)) := ((Below.refl _ _).alloc (Nat.le_refl _) _).alloc (by simp) _
  have hs := bb.size
  exact ⟨a, b, n, c, m, d, a', b', n', c', m', d', blk_up _ _ _ _, o1.lst.below bz, o2.lst.below bz, hn, hm, (Blk.new u _ _).alloc _, o3.lst.below bz, o4.lst.below bz, hn', hm', by omega, hs, bb.trans (bz.mono bb.size)⟩
theorem D2At.newC {V u : World} {x y : R} {K B1 B2 g : Nat} {a b a' b' : Option Addr} {n c m d n' c' m' d' : Nat} {u0 u1 u2 : Value} (ky : Blk u g 30 #[u0, u1, u2]) (bb : Below V.heap.size V u) (hg : V.heap.size ≤ g)
    (o1 : OwnT B1 u a n c (bitsN x.p)) (o2 : OwnT B1 u b m d (bitsN x.q)) (o3 : OwnT B2 u a' n' c' (bitsN y.p)) (o4 : OwnT B2 u b' m' d' (bitsN y.q))
    (y1 : ∀ q, a = some q → g ≠ q.block) (y2 : ∀ q, b = some q → g ≠ q.block) (y3 : ∀ q, a' = some q → g ≠ q.block) (y4 : ∀ q, b' = some q → g ≠ q.block) (hn : n ≤ K) (hm : m ≤ K) (hn' : n' ≤ K) (hm' : m' ≤ K) :
    D2At V x y K (put3 (u.alloc (.cells #[.bool x.s, .slice a n c, .slice b m d] 30)) g (.bool y.s) (.slice a' n' c') (.slice b' m' d')) u.heap.size g := by
  have bz : Below u.heap.size u (u.alloc (.cells #[.bool x.s, .slice a n c, .slice b m d] 30)) := (Below.refl _ _).alloc (Nat.le_refl _) _
  have hlt := ky.lt
  exact ⟨a, b, n, c, m, d, a', b', n', c', m', d', put3_other (Blk.new u _ _) (Nat.ne_of_gt hlt) _ _ _, ((o1.kept bz).put3 y1 _ _ _).lst, ((o2.kept bz).put3 y2 _ _ _).lst, hn, hm,
    (ky.alloc _).put3 _ _ _, ((o3.kept bz).put3 y3 _ _ _).lst, ((o4.kept bz).put3 y4 _ _ _).lst, hn', hm', bb.size, hg, below_put3 (bb.trans (bz.mono bb.size)) hg _ _ _⟩

theorem nums00 {V v u g1 g2 ga gb : Nat} (_h1 : V + 0 ≤ v) (_h2 : v + 0 ≤ u) (_hA : g1 < V) (_hC : g2 < V) (_ea : ga = u) (_eb : gb = u + 1) : (ga < V + 0 ∨ v ≤ ga) ∧ (gb < V + 0 ∨ v ≤ gb) ∧ (ga < v + 0 ∨ u ≤ ga) ∧ (gb < v + 0 ∨ u ≤ gb) ∧ V ≤ ga ∧ V ≤ gb ∧ gb ≠ ga ∧ g1 ≠ ga ∧ g1 ≠ gb ∧ g2 ≠ ga ∧ g2 ≠ gb := by omega
theorem nums01 {V v u g1 g2 ga gb : Nat} (_h1 : V + 0 ≤ v) (_h2 : v + 1 ≤ u) (_hA : g1 < V) (_hC : g2 < V) (_ea : ga = v) (_eb : gb = u) : (ga < V + 0 ∨ v ≤ ga) ∧ (gb < V + 0 ∨ v ≤ gb) ∧ (ga < v + 1 ∨ u ≤ ga) ∧ (gb < v + 1 ∨ u ≤ gb) ∧ V ≤ ga ∧ V ≤ gb ∧ gb ≠ ga ∧ g1 ≠ ga ∧ g1 ≠ gb ∧ g2 ≠ ga ∧ g2 ≠ gb := by omega
theorem nums02 {V v u g1 g2 ga gb : Nat} (_h1 : V + 0 ≤ v) (_h2 : v + 2 ≤ u) (_hA : g1 < V) (_hC : g2 < V) (_ea : ga = v) (_eb : gb = v + 1) : (ga < V + 0 ∨ v ≤ ga) ∧ (gb < V + 0 ∨ v ≤ gb) ∧ (ga < v + 2 ∨ u ≤ ga) ∧ (gb < v + 2 ∨ u ≤ gb) ∧ V ≤ ga ∧ V ≤ gb ∧ gb ≠ ga ∧ g1 ≠ ga ∧ g1 ≠ gb ∧ g2 ≠ ga ∧ g2 ≠ gb := by omega
theorem nums10 {V v u g1 g2 ga gb : Nat} (_h1 : V + 1 ≤ v) (_h2 : v + 0 ≤ u) (_hA : g1 < V) (_hC : g2 < V) (_ea : ga = V) (_eb : gb = u) : (ga < V + 1 ∨ v ≤ ga) ∧ (gb < V + 1 ∨ v ≤ gb) ∧ (ga < v + 0 ∨ u ≤ ga) ∧ (gb < v + 0 ∨ u ≤ gb) ∧ V ≤ ga ∧ V ≤ gb ∧ gb ≠ ga ∧ g1 ≠ ga ∧ g1 ≠ gb ∧ g2 ≠ ga ∧ g2 ≠ gb := by omega
theorem nums11 {V v u g1 g2 ga gb : Nat} (_h1 : V + 1 ≤ v) (_h2 : v + 1 ≤ u) (_hA : g1 < V) (_hC : g2 < V) (_ea : ga = V) (_eb : gb = v) : (ga < V + 1 ∨ v ≤ ga) ∧ (gb < V + 1 ∨ v ≤ gb) ∧ (ga < v + 1 ∨ u ≤ ga) ∧ (gb < v + 1 ∨ u ≤ gb) ∧ V ≤ ga ∧ V ≤ gb ∧ gb ≠ ga ∧ g1 ≠ ga ∧ g1 ≠ gb ∧ g2 ≠ ga ∧ g2 ≠ gb := by omega
theorem nums20 {V v u g1 g2 ga gb : Nat} (_h1 : V + 2 ≤ v) (_h2 : v + 0 ≤ u) (_hA : g1 < V) (_hC : g2 < V) (_ea : ga = V) (_eb : gb = V + 1) : (ga < V + 2 ∨ v ≤ ga) ∧ (gb < V + 2 ∨ v ≤ gb) ∧ (ga < v + 0 ∨ u ≤ ga) ∧ (gb < v + 0 ∨ u ≤ gb) ∧ V ≤ ga ∧ V ≤ gb ∧ gb ≠ ga ∧ g1 ≠ ga ∧ g1 ≠ gb ∧ g2 ≠ ga ∧ g2 ≠ gb := by omega

theorem own_lt {e : TypeId} {B : Nat} {w : World} {a : Option Addr} {n c v K : Nat} (h : Own e .u32 B w a n c (limbs v)) (hn : n ≤ K) : v < 2 ^ (32 * K) := by
  have := val_lt_two h.lst.ok h.lst.len hn
  rwa [val_limbs] at this
/-- A block, carried along. -/
def BoxAt (w : World) (g : Nat) (t : TypeId) (cs : Array Value) : Prop := Blk w g t cs
theorem BoxAt.below {w w' : World} {g : Nat} {t : TypeId} {cs : Array Value} (h : BoxAt w g t cs) (hb : Below w.heap.size w w') : BoxAt w' g t cs := Blk.on h hb
theorem BoxAt.drewN {w : World} {g : Nat} {t : TypeId} {cs : Array Value} (h : BoxAt w g t cs) (q : Nat) : BoxAt (w.drewN q) g t cs := h

/-- Two copies lie in blocks gl and gm of the call's own. -/
def TwoAt (V : World) (A B : Array Value) (wx : World) (gl gm : Nat) : Prop :=
  Blk wx gl 30 A ∧ Blk wx gm 30 B ∧ V.heap.size ≤ gl ∧ V.heap.size ≤ gm ∧ gl ≠ gm ∧ Below V.heap.size V wx
theorem TwoAt.newA (V : World) (A B : Array Value) : TwoAt V A B ((V.alloc (.cells A 30)).alloc (.cells B 30)) V.heap.size (V.heap.size + 1) :=
  ⟨(Blk.new V _ _).alloc _, blk_up _ _ _ _, Nat.le_refl _, by omega, by omega, ((Below.refl _ _).alloc (Nat.le_refl _) _).alloc (by simp) _⟩
theorem TwoAt.newB (V : World) (A B : Array Value) : TwoAt V A B ((V.alloc (.cells B 30)).alloc (.cells A 30)) (V.heap.size + 1) V.heap.size :=
  ⟨blk_up _ _ _ _, (Blk.new V _ _).alloc _, by omega, Nat.le_refl _, by omega, ((Below.refl _ _).alloc (Nat.le_refl _) _).alloc (by simp) _⟩
theorem TwoAt.drew {V w : World} {A B : Array Value} {gl gm : Nat} (h : TwoAt V A B w gl gm) : TwoAt V A B w.drew gl gm := ⟨h.1, h.2.1, h.2.2.1, h.2.2.2.1, h.2.2.2.2.1, h.2.2.2.2.2.drew⟩

theorem blk_drew {w : World} {g : Nat} {t : TypeId} {cs : Array Value} (h : Blk w g t cs) : Blk w.drew g t cs := h
theorem cmp_eq {x y : R} (h : RatMath.cmp x y = 0) : nf x = nf y := by
  rw [← nf_dv x, ← nf_dv y]
  exact nf_eq (dv_q x) (dv_q y) (cmp_zero.1 h)

set_option maxHeartbeats 6400000 in
set_option maxRecDepth 100000 in
theorem rorderLaw_c (s1 : Bool) (a1 b1 : Option Addr) (n1 c1 m1 d1 : Nat) (xs1 ys1 : List Int) (s2 : Bool) (a2 b2 : Option Addr) (n2 c2 m2 d2 : Nat) (xs2 ys2 : List Int) (w : World)
    (h1 : Lst .u32 w a1 n1 c1 xs1) (k1 : Lst .u32 w b1 m1 d1 ys1) (h2 : Lst .u32 w a2 n2 c2 xs2) (k2 : Lst .u32 w b2 m2 d2 ys2) (htab : Tab w) :
    Calls Tryz.prog 5 #[.agg #[.bool s1, .slice a1 n1 c1, .slice b1 m1 d1], .agg #[.bool s2, .slice a2 n2 c2, .slice b2 m2 d2]] w fun e w' => e = .returned (.bool true) ∧ Below w.heap.size w w' := by
  have HT := Lib.hid htab
  have H1 := Lib.hid h1; have K1 := Lib.hid k1; have H2 := Lib.hid h2; have K2 := Lib.hid k2
  clear h1 k1 h2 k2 htab
  go_enter Tryz.func5, Tryz.ntmps5
  go_wp2_with fail
  obtain ⟨W0, hW0, kA, kB, bb⟩ := boxed2 w 25 #[.bool s1, .slice a1 n1 c1, .slice b1 m1 d1] #[.bool s2, .slice a2 n2 c2, .slice b2 m2 d2]
  rw [← hW0]
  have S1 := Lib.hid (fun w1 (hb : Below w.heap.size w w1) => short2_c s1 a1 b1 n1 c1 m1 d1 xs1 ys1 2 w1 (H1.out.below hb) (K1.out.below hb))
  have S2 := Lib.hid (fun w1 (hb : Below w.heap.size w w1) => short2_c s2 a2 b2 n2 c2 m2 d2 xs2 ys2 2 w1 (H2.out.below hb) (K2.out.below hb))
  have BB : Hid (Below w.heap.size w W0.drew) := bb.drew
  have AA : Hid (Blk W0.drew w.heap.size 25 #[.bool s1, .slice a1 n1 c1, .slice b1 m1 d1]) := kA
  have CC : Hid (Blk W0.drew (w.heap.size + 1) 25 #[.bool s2, .slice a2 n2 c2, .slice b2 m2 d2]) := kB
  obtain ⟨x0, x1, x2⟩ := kA.cells3
  obtain ⟨y0, y1, y2⟩ := kB.cells3
  clear hW0 kA kB bb
  go_cut [10] (fun s12 wx => ∃ p1 q1 p2 q2 : Nat, (p1 ≤ 2 ∧ q1 ≤ 2 ∧ p2 ≤ 2 ∧ q2 ≤ 2) ∧ Lst .u32 w a1 p1 c1 (xs1.take 2) ∧ Lst .u32 w b1 q1 d1 (ys1.take 2) ∧ Lst .u32 w a2 p2 c2 (xs2.take 2) ∧ Lst .u32 w b2 q2 d2 (ys2.take 2) ∧
    Blk wx w.heap.size 25 #[.bool s1, .slice a1 p1 c1, .slice b1 q1 d1] ∧ Blk wx (w.heap.size + 1) 25 #[.bool s2, .slice a2 p2 c2, .slice b2 q2 d2] ∧ Below w.heap.size w wx)
  case first =>
    go_region_with ((first
      | (go_at_call_of 6 (Value.agg #[Value.bool s1, Value.slice a1 n1 c1, Value.slice b1 m1 d1]); refine (S1.out W0.drew BB.out).mono ?_; rintro e v1 ⟨p1, q1, rfl, hp1, hq1, L1, M1, B1⟩; have A1 := AA.out.on B1; have C1 := CC.out.on B1; have B1' := BB.out.trans (B1.mono BB.out.size); clear B1; obtain ⟨i0, i1, i2⟩ := C1.cells3)
      | (go_at_call 6; refine (S2.out v1 B1').mono ?_; rintro e v3 ⟨p2, q2, rfl, hp2, hq2, L2, M2, B3⟩; have A3 := A1.on B3; have C3 := C1.on B3; have B3' := B1'.trans (B3.mono B1'.size); clear B3; obtain ⟨k0, k1, k2, k3, k4, k5⟩ := A3.store3 (.bool s1) (.slice a1 p1 c1); have A4 := A3.put3 (.bool s1) (.slice a1 p1 c1) (.slice b1 q1 d1); have C4 := put3_other (g := w.heap.size) C3 (by omega) (.bool s1) (.slice a1 p1 c1) (.slice b1 q1 d1); obtain ⟨l0, l1, l2, l3, l4, l5⟩ := C4.store3 (.bool s2) (.slice a2 p2 c2); unfold put3 at l0 l1 l2 l3 l4 l5)))
    all_goals
      go_wp2_with fail
      go_meet
      have C5 := C4.put3 (.bool s2) (.slice a2 p2 c2) (.slice b2 q2 d2)
      have A5 := put3_other (g := w.heap.size + 1) A4 (by omega) (.bool s2) (.slice a2 p2 c2) (.slice b2 q2 d2)
      have B6 := below_put3 (below_put3 B3' (Nat.le_refl _) (.bool s1) (.slice a1 p1 c1) (.slice b1 q1 d1)) (Nat.le_add_right _ 1) (.bool s2) (.slice a2 p2 c2) (.slice b2 q2 d2)
      exact ⟨p1, q1, p2, q2, ⟨hp1, hq1, hp2, hq2⟩, H1.out.retake L1, K1.out.retake M1, H2.out.retake L2, K2.out.retake M2, A5, C5, B6⟩
  case rest =>
    obtain ⟨p1, q1, p2, q2, ⟨hp1, hq1, hp2, hq2⟩, L1, M1, L2, M2, A, C, bb⟩ := hcut
    obtain ⟨X1, hX1⟩ : ∃ X, Hid (X = xs1.take 2) := ⟨_, rfl⟩
    obtain ⟨Y1, hY1⟩ : ∃ X, Hid (X = ys1.take 2) := ⟨_, rfl⟩
    obtain ⟨X2, hX2⟩ : ∃ X, Hid (X = xs2.take 2) := ⟨_, rfl⟩
    obtain ⟨Y2, hY2⟩ : ∃ X, Hid (X = ys2.take 2) := ⟨_, rfl⟩
    rw [← hX1.out] at L1; rw [← hY1.out] at M1; rw [← hX2.out] at L2; rw [← hY2.out] at M2
    have P1 := Lib.hid (L1.below bb); have Q1 := Lib.hid (M1.below bb); have P2 := Lib.hid (L2.below bb); have Q2 := Lib.hid (M2.below bb)
    obtain ⟨g1, hg1⟩ : ∃ g, Hid (g = w.heap.size) := ⟨_, rfl⟩
    obtain ⟨g2, hg2⟩ : ∃ g, Hid (g = w.heap.size + 1) := ⟨_, rfl⟩
    clear L1 M1 L2 M2 H1 K1 H2 K2 S1 S2 hX1 hY1 hX2 hY2 x0 x1 x2 y0 y1 y2 AA CC BB
    rw [← hg2.out] at C ⊢
    rw [← hg1.out] at A ⊢
    have A := Lib.hid A; have C := Lib.hid C
    have BV := Lib.hid bb
    obtain ⟨V, hV⟩ : ∃ V, V = wc := ⟨_, rfl⟩
    rw [← hV] at A C BV P1 Q1 P2 Q2 ⊢
    clear hV bb
    obtain ⟨ra, hra⟩ : ∃ x, Hid (x = (⟨s1, val X1, val Y1⟩ : R)) := ⟨_, rfl⟩
    obtain ⟨rb, hrb⟩ : ∃ x, Hid (x = (⟨s2, val X2, val Y2⟩ : R)) := ⟨_, rfl⟩
    obtain ⟨zx, hzx⟩ : ∃ x, Hid (x = nf ra) := ⟨_, rfl⟩
    obtain ⟨zy, hzy⟩ : ∃ x, Hid (x = nf rb) := ⟨_, rfl⟩
    have HF1 := Lib.hid (fun (W : World) (hb : Below V.heap.size V W) => from2b_c s1 a1 b1 p1 c1 q1 d1 X1 Y1 2 W (P1.out.below hb) (Q1.out.below hb) hp1 hq1 (by omega))
    have HF2 := Lib.hid (fun (W : World) (hb : Below V.heap.size V W) => from2b_c s2 a2 b2 p2 c2 q2 d2 X2 Y2 2 W (P2.out.below hb) (Q2.out.below hb) hp2 hq2 (by omega))
    obtain ⟨i0, i1, i2⟩ := A.out.cells3
    obtain ⟨ii0, ii1, ii2⟩ := C.out.cells3
    go_wp2_with fail
    have BV0_ : Below V.heap.size V V.drew := (Below.refl _ _).drew
    have BV1_ : Below V.heap.size V (V.alloc (.cells #[.bool false, .slice none 0 0, .slice none 0 0] 30)).drew := ((Below.refl _ _).alloc (Nat.le_refl _) _).drew
    have BV2_ : Below V.heap.size V ((V.alloc (.cells #[.bool false, .slice none 0 0, .slice none 0 0] 30)).alloc (.cells #[.bool false, .slice none 0 0, .slice none 0 0] 30)).drew := (((Below.refl _ _).alloc (Nat.le_refl _) _).alloc (by simp) _).drew
    have k1a_ : Blk (V.alloc (.cells #[.bool false, .slice none 0 0, .slice none 0 0] 30)).drew V.heap.size 30 #[.bool false, .slice none 0 0, .slice none 0 0] := Blk.new V _ _
    have k2a_ : Blk ((V.alloc (.cells #[.bool false, .slice none 0 0, .slice none 0 0] 30)).alloc (.cells #[.bool false, .slice none 0 0, .slice none 0 0] 30)).drew V.heap.size 30 #[.bool false, .slice none 0 0, .slice none 0 0] := (Blk.new V _ _).alloc _
    have k2b_ : Blk ((V.alloc (.cells #[.bool false, .slice none 0 0, .slice none 0 0] 30)).alloc (.cells #[.bool false, .slice none 0 0, .slice none 0 0] 30)).drew (V.heap.size + 1) 30 #[.bool false, .slice none 0 0, .slice none 0 0] := (by have := Blk.new (V.alloc (.cells #[.bool false, .slice none 0 0, .slice none 0 0] 30)) 30 #[.bool false, .slice none 0 0, .slice none 0 0]; rwa [show (V.alloc (.cells #[.bool false, .slice none 0 0, .slice none 0 0] 30)).heap.size = V.heap.size + 1 by simp] at this)
    obtain ⟨nA00, nA01, nA02⟩ := (A.out.on BV0_).cells3
    obtain ⟨nC00, nC01, nC02⟩ := (C.out.on BV0_).cells3
    obtain ⟨nA10, nA11, nA12⟩ := (A.out.on BV1_).cells3
    obtain ⟨nC10, nC11, nC12⟩ := (C.out.on BV1_).cells3
    obtain ⟨nA20, nA21, nA22⟩ := (A.out.on BV2_).cells3
    obtain ⟨nC20, nC21, nC22⟩ := (C.out.on BV2_).cells3
    go_cut [5, 6] (fun s5 s6 wx => ∃ gx gy : Nat, s5 = .pointer (some ⟨gx, 0, none⟩) ∧ s6 = .pointer (some ⟨gy, 0, none⟩) ∧ D2At V zx zy 65 wx gx gy)
    case first =>
      go_region_held3 (fun w' => w'.cell? ⟨g1, 0, none⟩ = some (.bool s1) ∧ w'.cell? ⟨g1, 1, none⟩ = some (.slice a1 p1 c1) ∧ w'.cell? ⟨g1, 2, none⟩ = some (.slice b1 q1 d1) ∧ w'.cell? ⟨g2, 0, none⟩ = some (.bool s2) ∧ w'.cell? ⟨g2, 1, none⟩ = some (.slice a2 p2 c2) ∧ w'.cell? ⟨g2, 2, none⟩ = some (.slice b2 q2 d2)) (go_keep) (first
        | (go_at_call_of 7 (Value.slice a1 p1 c1); have hc := HF1.out V.drew BV0_; rw [← hra.out, ← hzx.out] at hc; (with_reducible refine (hc).mono ?_); rintro e v10 ⟨t1, a3, n3, c3, b3, m3, d3, rfl, rfl, o1, o2, hn3, hm3, B10_⟩; clear hc; have BV10_ := BV0_.trans (B10_.mono BV0_.size); obtain ⟨Ac000, Ac001, Ac002⟩ := (A.out.on BV10_).cells3; obtain ⟨Cc000, Cc001, Cc002⟩ := (C.out.on BV10_).cells3; have bz01_ : Below v10.heap.size v10 (v10.alloc (.cells #[.bool false, .slice none 0 0, .slice none 0 0] 30)) := (Below.refl _ _).alloc (Nat.le_refl _) _; have BV101_ := BV10_.trans (bz01_.mono BV10_.size); have q01a_ : Blk (v10.alloc (.cells #[.bool false, .slice none 0 0, .slice none 0 0] 30)) v10.heap.size 30 #[.bool false, .slice none 0 0, .slice none 0 0] := Blk.new v10 _ _; obtain ⟨Ac010, Ac011, Ac012⟩ := (A.out.on BV101_).cells3; obtain ⟨Cc010, Cc011, Cc012⟩ := (C.out.on BV101_).cells3; have bz02_ : Below v10.heap.size v10 ((v10.alloc (.cells #[.bool false, .slice none 0 0, .slice none 0 0] 30)).alloc (.cells #[.bool false, .slice none 0 0, .slice none 0 0] 30)) := ((Below.refl _ _).alloc (Nat.le_refl _) _).alloc (by simp) _; have BV102_ := BV10_.trans (bz02_.mono BV10_.size); have q02a_ : Blk ((v10.alloc (.cells #[.bool false, .slice none 0 0, .slice none 0 0] 30)).alloc (.cells #[.bool false, .slice none 0 0, .slice none 0 0] 30)) v10.heap.size 30 #[.bool false, .slice none 0 0, .slice none 0 0] := (Blk.new v10 _ _).alloc _; have q02b_ : Blk ((v10.alloc (.cells #[.bool false, .slice none 0 0, .slice none 0 0] 30)).alloc (.cells #[.bool false, .slice none 0 0, .slice none 0 0] 30)) (v10.heap.size + 1) 30 #[.bool false, .slice none 0 0, .slice none 0 0] := (by have := Blk.new (v10.alloc (.cells #[.bool false, .slice none 0 0, .slice none 0 0] 30)) 30 #[.bool false, .slice none 0 0, .slice none 0 0]; rwa [show (v10.alloc (.cells #[.bool false, .slice none 0 0, .slice none 0 0] 30)).heap.size = v10.heap.size + 1 by simp] at this); obtain ⟨Ac020, Ac021, Ac022⟩ := (A.out.on BV102_).cells3; obtain ⟨Cc020, Cc021, Cc022⟩ := (C.out.on BV102_).cells3)
        | (go_at_call_of 7 (Value.slice a1 p1 c1); have hc := HF1.out (V.alloc (.cells #[.bool false, .slice none 0 0, .slice none 0 0] 30)).drew BV1_; rw [← hra.out, ← hzx.out] at hc; (with_reducible refine (hc).mono ?_); rintro e v11 ⟨t1, a3, n3, c3, b3, m3, d3, rfl, rfl, o1, o2, hn3, hm3, B11_⟩; clear hc; have m1a_ := k1a_.on B11_; have BV11_ := BV1_.trans (B11_.mono BV1_.size); obtain ⟨Ac100, Ac101, Ac102⟩ := (A.out.on BV11_).cells3; obtain ⟨Cc100, Cc101, Cc102⟩ := (C.out.on BV11_).cells3; have bz11_ : Below v11.heap.size v11 (v11.alloc (.cells #[.bool false, .slice none 0 0, .slice none 0 0] 30)) := (Below.refl _ _).alloc (Nat.le_refl _) _; have BV111_ := BV11_.trans (bz11_.mono BV11_.size); have m1a_z11 := m1a_.on bz11_; have q11a_ : Blk (v11.alloc (.cells #[.bool false, .slice none 0 0, .slice none 0 0] 30)) v11.heap.size 30 #[.bool false, .slice none 0 0, .slice none 0 0] := Blk.new v11 _ _; obtain ⟨Ac110, Ac111, Ac112⟩ := (A.out.on BV111_).cells3; obtain ⟨Cc110, Cc111, Cc112⟩ := (C.out.on BV111_).cells3)
        | (go_at_call_of 7 (Value.slice a1 p1 c1); have hc := HF1.out ((V.alloc (.cells #[.bool false, .slice none 0 0, .slice none 0 0] 30)).alloc (.cells #[.bool false, .slice none 0 0, .slice none 0 0] 30)).drew BV2_; rw [← hra.out, ← hzx.out] at hc; (with_reducible refine (hc).mono ?_); rintro e v12 ⟨t1, a3, n3, c3, b3, m3, d3, rfl, rfl, o1, o2, hn3, hm3, B12_⟩; clear hc; have m2a_ := k2a_.on B12_; have m2b_ := k2b_.on B12_; have BV12_ := BV2_.trans (B12_.mono BV2_.size); obtain ⟨Ac200, Ac201, Ac202⟩ := (A.out.on BV12_).cells3; obtain ⟨Cc200, Cc201, Cc202⟩ := (C.out.on BV12_).cells3)
        | (go_at_call_of 7 (Value.slice a2 p2 c2); have hc := HF2.out v10 BV10_; rw [← hrb.out, ← hzy.out] at hc; (with_reducible refine (hc).mono ?_); rintro e v200 ⟨t2, a4, n4, c4, b4, m4, d4, rfl, rfl, o3, o4, hn4, hm4, B200_⟩; clear hc; have BV200_ := BV10_.trans (B200_.mono BV10_.size); obtain ⟨Ad000, Ad001, Ad002⟩ := (A.out.on BV200_).cells3; obtain ⟨Cd000, Cd001, Cd002⟩ := (C.out.on BV200_).cells3; have hs100 : V.heap.size + 0 ≤ v10.heap.size := (by have := B10_.size; simpa using this); have hs200 : v10.heap.size + 0 ≤ v200.heap.size := (by have := B200_.size; simpa using this); have N00 := Lib.hid (nums00 (ga := v200.heap.size) (gb := v200.heap.size + 1) hs100 hs200 A.out.lt C.out.lt rfl rfl); clear hs100 hs200; have ea00 := N00.out.2.2.2.2.2.2.1; have neA000 := N00.out.2.2.2.2.2.2.2.1; have neA001 := N00.out.2.2.2.2.2.2.2.2.1; have neC000 := N00.out.2.2.2.2.2.2.2.2.2.1; have neC001 := N00.out.2.2.2.2.2.2.2.2.2.2; have bf00 : Below v200.heap.size v200 ((v200.alloc (.cells #[.bool false, .slice none 0 0, .slice none 0 0] 30)).alloc (.cells #[.bool false, .slice none 0 0, .slice none 0 0] 30)) := ((Below.refl _ _).alloc (Nat.le_refl _) _).alloc (by simp) _; have BVf00 := BV200_.trans (bf00.mono BV200_.size); have kf00a : Blk ((v200.alloc (.cells #[.bool false, .slice none 0 0, .slice none 0 0] 30)).alloc (.cells #[.bool false, .slice none 0 0, .slice none 0 0] 30)) v200.heap.size 30 #[.bool false, .slice none 0 0, .slice none 0 0] := (Blk.new v200 _ _).alloc _; have kf00b : Blk ((v200.alloc (.cells #[.bool false, .slice none 0 0, .slice none 0 0] 30)).alloc (.cells #[.bool false, .slice none 0 0, .slice none 0 0] 30)) (v200.heap.size + 1) 30 #[.bool false, .slice none 0 0, .slice none 0 0] := blk_up _ _ _ _; have w100 := (o1.low (show V.heap.size + 0 ≤ _ by simp)); have w200 := (o2.low (show V.heap.size + 0 ≤ _ by simp)); have w300 := (o3.low (show v10.heap.size + 0 ≤ _ by simp)); have w400 := (o4.low (show v10.heap.size + 0 ≤ _ by simp)); have z100 := w100.kept B200_; have z200 := w200.kept B200_; have z300 := w300; have z400 := w400; have p100 := z100.kept bf00; have p200 := z200.kept bf00; have p300 := z300.kept bf00; have p400 := z400.kept bf00; have fin1 := Lib.hid (D2At.newA (K := 65) BV200_ z100 z200 z300 z400 hn3 hm3 hn4 hm4); have fin2 := Lib.hid (D2At.newB (K := 65) BV200_ z100 z200 z300 z400 hn3 hm3 hn4 hm4); have enA000 := neA000.symm; have enA001 := neA001.symm; have enC000 := neC000.symm; have enC001 := neC001.symm)
        | (go_at_call_of 7 (Value.slice a2 p2 c2); have hc := HF2.out (v10.alloc (.cells #[.bool false, .slice none 0 0, .slice none 0 0] 30)) BV101_; rw [← hrb.out, ← hzy.out] at hc; (with_reducible refine (hc).mono ?_); rintro e v201 ⟨t2, a4, n4, c4, b4, m4, d4, rfl, rfl, o3, o4, hn4, hm4, B201_⟩; clear hc; have BV201_ := BV101_.trans (B201_.mono BV101_.size); obtain ⟨Ad010, Ad011, Ad012⟩ := (A.out.on BV201_).cells3; obtain ⟨Cd010, Cd011, Cd012⟩ := (C.out.on BV201_).cells3; have q01a_u01 := q01a_.on B201_; have hs101 : V.heap.size + 0 ≤ v10.heap.size := (by have := B10_.size; simpa using this); have hs201 : v10.heap.size + 1 ≤ v201.heap.size := (by have := B201_.size; simpa using this); obtain ⟨ga01, hga01⟩ : ∃ g, Hid (g = v10.heap.size) := ⟨_, rfl⟩; rw [← hga01.out]; have nq01a_u01 : Blk v201 ga01 30 #[.bool false, .slice none 0 0, .slice none 0 0] := (by rw [hga01.out]; exact q01a_u01); clear q01a_u01; have N01 := Lib.hid (nums01 (ga := ga01) (gb := v201.heap.size) hs101 hs201 A.out.lt C.out.lt hga01.out rfl); clear hs101 hs201; have ea01 := N01.out.2.2.2.2.2.2.1; have neA010 := N01.out.2.2.2.2.2.2.2.1; have neA011 := N01.out.2.2.2.2.2.2.2.2.1; have neC010 := N01.out.2.2.2.2.2.2.2.2.2.1; have neC011 := N01.out.2.2.2.2.2.2.2.2.2.2; have bf01 : Below v201.heap.size v201 (v201.alloc (.cells #[.bool false, .slice none 0 0, .slice none 0 0] 30)) := (Below.refl _ _).alloc (Nat.le_refl _) _; have BVf01 := BV201_.trans (bf01.mono BV201_.size); have nq01a_u01f := nq01a_u01.on bf01; have kf01a : Blk (v201.alloc (.cells #[.bool false, .slice none 0 0, .slice none 0 0] 30)) v201.heap.size 30 #[.bool false, .slice none 0 0, .slice none 0 0] := Blk.new v201 _ _; have w101 := (o1.low (show V.heap.size + 0 ≤ _ by simp)); have w201 := (o2.low (show V.heap.size + 0 ≤ _ by simp)); have w301 := (o3.low (show v10.heap.size + 1 ≤ _ by simp)); have w401 := (o4.low (show v10.heap.size + 1 ≤ _ by simp)); have z101 := (w101.kept bz01_).kept B201_; have z201 := (w201.kept bz01_).kept B201_; have z301 := w301; have z401 := w401; have p101 := z101.kept bf01; have p201 := z201.kept bf01; have p301 := z301.kept bf01; have p401 := z401.kept bf01; have fin3 := (D2At.newC (K := 65) nq01a_u01 BV201_ N01.out.2.2.2.2.1 z101 z201 z301 z401 (w101.away N01.out.1) (w201.away N01.out.1) (w301.away N01.out.2.2.1) (w401.away N01.out.2.2.1) hn3 hm3 hn4 hm4); unfold put3 at fin3; have fin3 := Lib.hid fin3; have eb01 := ea01.symm; have enA010 := neA010.symm; have enA011 := neA011.symm; have enC010 := neC010.symm; have enC011 := neC011.symm; have fin1 := (D2At.mk (K := 65) nq01a_u01f kf01a ea01 BVf01 N01.out.2.2.2.2.1 N01.out.2.2.2.2.2.1 p101 p201 p301 p401 (w101.away N01.out.1) (w201.away N01.out.1) (w301.away N01.out.2.2.1) (w401.away N01.out.2.2.1) (w101.away N01.out.2.1) (w201.away N01.out.2.1) (w301.away N01.out.2.2.2.1) (w401.away N01.out.2.2.2.1) hn3 hm3 hn4 hm4); have fin2 := (D2At.mk (K := 65) kf01a nq01a_u01f eb01 BVf01 N01.out.2.2.2.2.2.1 N01.out.2.2.2.2.1 p101 p201 p301 p401 (w101.away N01.out.2.1) (w201.away N01.out.2.1) (w301.away N01.out.2.2.2.1) (w401.away N01.out.2.2.2.1) (w101.away N01.out.1) (w201.away N01.out.1) (w301.away N01.out.2.2.1) (w401.away N01.out.2.2.1) hn3 hm3 hn4 hm4); unfold put3 at fin1 fin2; have fin1 := Lib.hid fin1; have fin2 := Lib.hid fin2; have kX01 := nq01a_u01.alloc (.cells #[.bool zx.s, .slice a3 n3 c3, .slice b3 m3 d3] 30); obtain ⟨c1010, c1011, c1012⟩ := nq01a_u01f.cells3; have d1010 := nq01a_u01f.frozen 0; have d1011 := nq01a_u01f.frozen 1; have d1012 := nq01a_u01f.frozen 2; obtain ⟨c2010, c2011, c2012⟩ := kf01a.cells3; have d2010 := kf01a.frozen 0; have d2011 := kf01a.frozen 1; have d2012 := kf01a.frozen 2; obtain ⟨c3010, c3011, c3012⟩ := nq01a_u01.cells3; have d3010 := nq01a_u01.frozen 0; have d3011 := nq01a_u01.frozen 1; have d3012 := nq01a_u01.frozen 2; obtain ⟨c4010, c4011, c4012⟩ := kX01.cells3; have d4010 := kX01.frozen 0; have d4011 := kX01.frozen 1; have d4012 := kX01.frozen 2)
        | (go_at_call_of 7 (Value.slice a2 p2 c2); have hc := HF2.out ((v10.alloc (.cells #[.bool false, .slice none 0 0, .slice none 0 0] 30)).alloc (.cells #[.bool false, .slice none 0 0, .slice none 0 0] 30)) BV102_; rw [← hrb.out, ← hzy.out] at hc; (with_reducible refine (hc).mono ?_); rintro e v202 ⟨t2, a4, n4, c4, b4, m4, d4, rfl, rfl, o3, o4, hn4, hm4, B202_⟩; clear hc; have BV202_ := BV102_.trans (B202_.mono BV102_.size); obtain ⟨Ad020, Ad021, Ad022⟩ := (A.out.on BV202_).cells3; obtain ⟨Cd020, Cd021, Cd022⟩ := (C.out.on BV202_).cells3; have q02a_u02 := q02a_.on B202_; have q02b_u02 := q02b_.on B202_; have hs102 : V.heap.size + 0 ≤ v10.heap.size := (by have := B10_.size; simpa using this); have hs202 : v10.heap.size + 2 ≤ v202.heap.size := (by have := B202_.size; simpa using this); obtain ⟨ga02, hga02⟩ : ∃ g, Hid (g = v10.heap.size) := ⟨_, rfl⟩; obtain ⟨gb02, hgb02⟩ : ∃ g, Hid (g = v10.heap.size + 1) := ⟨_, rfl⟩; rw [← hgb02.out]; rw [← hga02.out]; have nq02a_u02 : Blk v202 ga02 30 #[.bool false, .slice none 0 0, .slice none 0 0] := (by rw [hga02.out]; exact q02a_u02); clear q02a_u02; have nq02b_u02 : Blk v202 gb02 30 #[.bool false, .slice none 0 0, .slice none 0 0] := (by rw [hgb02.out]; exact q02b_u02); clear q02b_u02; have N02 := Lib.hid (nums02 (ga := ga02) (gb := gb02) hs102 hs202 A.out.lt C.out.lt hga02.out hgb02.out); clear hs102 hs202; have ea02 := N02.out.2.2.2.2.2.2.1; have neA020 := N02.out.2.2.2.2.2.2.2.1; have neA021 := N02.out.2.2.2.2.2.2.2.2.1; have neC020 := N02.out.2.2.2.2.2.2.2.2.2.1; have neC021 := N02.out.2.2.2.2.2.2.2.2.2.2; have w102 := (o1.low (show V.heap.size + 0 ≤ _ by simp)); have w202 := (o2.low (show V.heap.size + 0 ≤ _ by simp)); have w302 := (o3.low (show v10.heap.size + 2 ≤ _ by simp)); have w402 := (o4.low (show v10.heap.size + 2 ≤ _ by simp)); have z102 := (w102.kept bz02_).kept B202_; have z202 := (w202.kept bz02_).kept B202_; have z302 := w302; have z402 := w402; have p102 := z102; have p202 := z202; have p302 := z302; have p402 := z402; have eb02 := ea02.symm; have enA020 := neA020.symm; have enA021 := neA021.symm; have enC020 := neC020.symm; have enC021 := neC021.symm; have fin1 := (D2At.mk (K := 65) nq02a_u02 nq02b_u02 ea02 BV202_ N02.out.2.2.2.2.1 N02.out.2.2.2.2.2.1 p102 p202 p302 p402 (w102.away N02.out.1) (w202.away N02.out.1) (w302.away N02.out.2.2.1) (w402.away N02.out.2.2.1) (w102.away N02.out.2.1) (w202.away N02.out.2.1) (w302.away N02.out.2.2.2.1) (w402.away N02.out.2.2.2.1) hn3 hm3 hn4 hm4); have fin2 := (D2At.mk (K := 65) nq02b_u02 nq02a_u02 eb02 BV202_ N02.out.2.2.2.2.2.1 N02.out.2.2.2.2.1 p102 p202 p302 p402 (w102.away N02.out.2.1) (w202.away N02.out.2.1) (w302.away N02.out.2.2.2.1) (w402.away N02.out.2.2.2.1) (w102.away N02.out.1) (w202.away N02.out.1) (w302.away N02.out.2.2.1) (w402.away N02.out.2.2.1) hn3 hm3 hn4 hm4); unfold put3 at fin1 fin2; have fin1 := Lib.hid fin1; have fin2 := Lib.hid fin2; obtain ⟨c1020, c1021, c1022⟩ := nq02a_u02.cells3; have d1020 := nq02a_u02.frozen 0; have d1021 := nq02a_u02.frozen 1; have d1022 := nq02a_u02.frozen 2; obtain ⟨c2020, c2021, c2022⟩ := nq02b_u02.cells3; have d2020 := nq02b_u02.frozen 0; have d2021 := nq02b_u02.frozen 1; have d2022 := nq02b_u02.frozen 2)
        | (go_at_call_of 7 (Value.slice a2 p2 c2); have hc := HF2.out v11 BV11_; rw [← hrb.out, ← hzy.out] at hc; (with_reducible refine (hc).mono ?_); rintro e v210 ⟨t2, a4, n4, c4, b4, m4, d4, rfl, rfl, o3, o4, hn4, hm4, B210_⟩; clear hc; have BV210_ := BV11_.trans (B210_.mono BV11_.size); obtain ⟨Ad100, Ad101, Ad102⟩ := (A.out.on BV210_).cells3; obtain ⟨Cd100, Cd101, Cd102⟩ := (C.out.on BV210_).cells3; have m1a_u10 := m1a_.on B210_; have hs110 : V.heap.size + 1 ≤ v11.heap.size := (by have := B11_.size; simpa using this); have hs210 : v11.heap.size + 0 ≤ v210.heap.size := (by have := B210_.size; simpa using this); obtain ⟨ga10, hga10⟩ : ∃ g, Hid (g = V.heap.size) := ⟨_, rfl⟩; rw [← hga10.out]; have nm1a_u10 : Blk v210 ga10 30 #[.bool false, .slice none 0 0, .slice none 0 0] := (by rw [hga10.out]; exact m1a_u10); clear m1a_u10; have N10 := Lib.hid (nums10 (ga := ga10) (gb := v210.heap.size) hs110 hs210 A.out.lt C.out.lt hga10.out rfl); clear hs110 hs210; have ea10 := N10.out.2.2.2.2.2.2.1; have neA100 := N10.out.2.2.2.2.2.2.2.1; have neA101 := N10.out.2.2.2.2.2.2.2.2.1; have neC100 := N10.out.2.2.2.2.2.2.2.2.2.1; have neC101 := N10.out.2.2.2.2.2.2.2.2.2.2; have bf10 : Below v210.heap.size v210 (v210.alloc (.cells #[.bool false, .slice none 0 0, .slice none 0 0] 30)) := (Below.refl _ _).alloc (Nat.le_refl _) _; have BVf10 := BV210_.trans (bf10.mono BV210_.size); have nm1a_u10f := nm1a_u10.on bf10; have kf10a : Blk (v210.alloc (.cells #[.bool false, .slice none 0 0, .slice none 0 0] 30)) v210.heap.size 30 #[.bool false, .slice none 0 0, .slice none 0 0] := Blk.new v210 _ _; have w110 := (o1.low (show V.heap.size + 1 ≤ _ by simp)); have w210 := (o2.low (show V.heap.size + 1 ≤ _ by simp)); have w310 := (o3.low (show v11.heap.size + 0 ≤ _ by simp)); have w410 := (o4.low (show v11.heap.size + 0 ≤ _ by simp)); have z110 := w110.kept B210_; have z210 := w210.kept B210_; have z310 := w310; have z410 := w410; have p110 := z110.kept bf10; have p210 := z210.kept bf10; have p310 := z310.kept bf10; have p410 := z410.kept bf10; have fin3 := (D2At.newC (K := 65) nm1a_u10 BV210_ N10.out.2.2.2.2.1 z110 z210 z310 z410 (w110.away N10.out.1) (w210.away N10.out.1) (w310.away N10.out.2.2.1) (w410.away N10.out.2.2.1) hn3 hm3 hn4 hm4); unfold put3 at fin3; have fin3 := Lib.hid fin3; have eb10 := ea10.symm; have enA100 := neA100.symm; have enA101 := neA101.symm; have enC100 := neC100.symm; have enC101 := neC101.symm; have fin1 := (D2At.mk (K := 65) nm1a_u10f kf10a ea10 BVf10 N10.out.2.2.2.2.1 N10.out.2.2.2.2.2.1 p110 p210 p310 p410 (w110.away N10.out.1) (w210.away N10.out.1) (w310.away N10.out.2.2.1) (w410.away N10.out.2.2.1) (w110.away N10.out.2.1) (w210.away N10.out.2.1) (w310.away N10.out.2.2.2.1) (w410.away N10.out.2.2.2.1) hn3 hm3 hn4 hm4); have fin2 := (D2At.mk (K := 65) kf10a nm1a_u10f eb10 BVf10 N10.out.2.2.2.2.2.1 N10.out.2.2.2.2.1 p110 p210 p310 p410 (w110.away N10.out.2.1) (w210.away N10.out.2.1) (w310.away N10.out.2.2.2.1) (w410.away N10.out.2.2.2.1) (w110.away N10.out.1) (w210.away N10.out.1) (w310.away N10.out.2.2.1) (w410.away N10.out.2.2.1) hn3 hm3 hn4 hm4); unfold put3 at fin1 fin2; have fin1 := Lib.hid fin1; have fin2 := Lib.hid fin2; have kX10 := nm1a_u10.alloc (.cells #[.bool zx.s, .slice a3 n3 c3, .slice b3 m3 d3] 30); obtain ⟨c1100, c1101, c1102⟩ := nm1a_u10f.cells3; have d1100 := nm1a_u10f.frozen 0; have d1101 := nm1a_u10f.frozen 1; have d1102 := nm1a_u10f.frozen 2; obtain ⟨c2100, c2101, c2102⟩ := kf10a.cells3; have d2100 := kf10a.frozen 0; have d2101 := kf10a.frozen 1; have d2102 := kf10a.frozen 2; obtain ⟨c3100, c3101, c3102⟩ := nm1a_u10.cells3; have d3100 := nm1a_u10.frozen 0; have d3101 := nm1a_u10.frozen 1; have d3102 := nm1a_u10.frozen 2; obtain ⟨c4100, c4101, c4102⟩ := kX10.cells3; have d4100 := kX10.frozen 0; have d4101 := kX10.frozen 1; have d4102 := kX10.frozen 2)
        | (go_at_call_of 7 (Value.slice a2 p2 c2); have hc := HF2.out (v11.alloc (.cells #[.bool false, .slice none 0 0, .slice none 0 0] 30)) BV111_; rw [← hrb.out, ← hzy.out] at hc; (with_reducible refine (hc).mono ?_); rintro e v211 ⟨t2, a4, n4, c4, b4, m4, d4, rfl, rfl, o3, o4, hn4, hm4, B211_⟩; clear hc; have BV211_ := BV111_.trans (B211_.mono BV111_.size); obtain ⟨Ad110, Ad111, Ad112⟩ := (A.out.on BV211_).cells3; obtain ⟨Cd110, Cd111, Cd112⟩ := (C.out.on BV211_).cells3; have m1a_z11u11 := m1a_z11.on B211_; have q11a_u11 := q11a_.on B211_; have hs111 : V.heap.size + 1 ≤ v11.heap.size := (by have := B11_.size; simpa using this); have hs211 : v11.heap.size + 1 ≤ v211.heap.size := (by have := B211_.size; simpa using this); obtain ⟨ga11, hga11⟩ : ∃ g, Hid (g = V.heap.size) := ⟨_, rfl⟩; obtain ⟨gb11, hgb11⟩ : ∃ g, Hid (g = v11.heap.size) := ⟨_, rfl⟩; rw [← hgb11.out]; rw [← hga11.out]; have nm1a_z11u11 : Blk v211 ga11 30 #[.bool false, .slice none 0 0, .slice none 0 0] := (by rw [hga11.out]; exact m1a_z11u11); clear m1a_z11u11; have nq11a_u11 : Blk v211 gb11 30 #[.bool false, .slice none 0 0, .slice none 0 0] := (by rw [hgb11.out]; exact q11a_u11); clear q11a_u11; have N11 := Lib.hid (nums11 (ga := ga11) (gb := gb11) hs111 hs211 A.out.lt C.out.lt hga11.out hgb11.out); clear hs111 hs211; have ea11 := N11.out.2.2.2.2.2.2.1; have neA110 := N11.out.2.2.2.2.2.2.2.1; have neA111 := N11.out.2.2.2.2.2.2.2.2.1; have neC110 := N11.out.2.2.2.2.2.2.2.2.2.1; have neC111 := N11.out.2.2.2.2.2.2.2.2.2.2; have w111 := (o1.low (show V.heap.size + 1 ≤ _ by simp)); have w211 := (o2.low (show V.heap.size + 1 ≤ _ by simp)); have w311 := (o3.low (show v11.heap.size + 1 ≤ _ by simp)); have w411 := (o4.low (show v11.heap.size + 1 ≤ _ by simp)); have z111 := (w111.kept bz11_).kept B211_; have z211 := (w211.kept bz11_).kept B211_; have z311 := w311; have z411 := w411; have p111 := z111; have p211 := z211; have p311 := z311; have p411 := z411; have eb11 := ea11.symm; have enA110 := neA110.symm; have enA111 := neA111.symm; have enC110 := neC110.symm; have enC111 := neC111.symm; have fin1 := (D2At.mk (K := 65) nm1a_z11u11 nq11a_u11 ea11 BV211_ N11.out.2.2.2.2.1 N11.out.2.2.2.2.2.1 p111 p211 p311 p411 (w111.away N11.out.1) (w211.away N11.out.1) (w311.away N11.out.2.2.1) (w411.away N11.out.2.2.1) (w111.away N11.out.2.1) (w211.away N11.out.2.1) (w311.away N11.out.2.2.2.1) (w411.away N11.out.2.2.2.1) hn3 hm3 hn4 hm4); have fin2 := (D2At.mk (K := 65) nq11a_u11 nm1a_z11u11 eb11 BV211_ N11.out.2.2.2.2.2.1 N11.out.2.2.2.2.1 p111 p211 p311 p411 (w111.away N11.out.2.1) (w211.away N11.out.2.1) (w311.away N11.out.2.2.2.1) (w411.away N11.out.2.2.2.1) (w111.away N11.out.1) (w211.away N11.out.1) (w311.away N11.out.2.2.1) (w411.away N11.out.2.2.1) hn3 hm3 hn4 hm4); unfold put3 at fin1 fin2; have fin1 := Lib.hid fin1; have fin2 := Lib.hid fin2; obtain ⟨c1110, c1111, c1112⟩ := nm1a_z11u11.cells3; have d1110 := nm1a_z11u11.frozen 0; have d1111 := nm1a_z11u11.frozen 1; have d1112 := nm1a_z11u11.frozen 2; obtain ⟨c2110, c2111, c2112⟩ := nq11a_u11.cells3; have d2110 := nq11a_u11.frozen 0; have d2111 := nq11a_u11.frozen 1; have d2112 := nq11a_u11.frozen 2)
        | (go_at_call_of 7 (Value.slice a2 p2 c2); have hc := HF2.out v12 BV12_; rw [← hrb.out, ← hzy.out] at hc; (with_reducible refine (hc).mono ?_); rintro e v220 ⟨t2, a4, n4, c4, b4, m4, d4, rfl, rfl, o3, o4, hn4, hm4, B220_⟩; clear hc; have BV220_ := BV12_.trans (B220_.mono BV12_.size); obtain ⟨Ad200, Ad201, Ad202⟩ := (A.out.on BV220_).cells3; obtain ⟨Cd200, Cd201, Cd202⟩ := (C.out.on BV220_).cells3; have m2a_u20 := m2a_.on B220_; have m2b_u20 := m2b_.on B220_; have hs120 : V.heap.size + 2 ≤ v12.heap.size := (by have := B12_.size; simpa using this); have hs220 : v12.heap.size + 0 ≤ v220.heap.size := (by have := B220_.size; simpa using this); obtain ⟨ga20, hga20⟩ : ∃ g, Hid (g = V.heap.size) := ⟨_, rfl⟩; obtain ⟨gb20, hgb20⟩ : ∃ g, Hid (g = V.heap.size + 1) := ⟨_, rfl⟩; rw [← hgb20.out]; rw [← hga20.out]; have nm2a_u20 : Blk v220 ga20 30 #[.bool false, .slice none 0 0, .slice none 0 0] := (by rw [hga20.out]; exact m2a_u20); clear m2a_u20; have nm2b_u20 : Blk v220 gb20 30 #[.bool false, .slice none 0 0, .slice none 0 0] := (by rw [hgb20.out]; exact m2b_u20); clear m2b_u20; have N20 := Lib.hid (nums20 (ga := ga20) (gb := gb20) hs120 hs220 A.out.lt C.out.lt hga20.out hgb20.out); clear hs120 hs220; have ea20 := N20.out.2.2.2.2.2.2.1; have neA200 := N20.out.2.2.2.2.2.2.2.1; have neA201 := N20.out.2.2.2.2.2.2.2.2.1; have neC200 := N20.out.2.2.2.2.2.2.2.2.2.1; have neC201 := N20.out.2.2.2.2.2.2.2.2.2.2; have w120 := (o1.low (show V.heap.size + 2 ≤ _ by simp)); have w220 := (o2.low (show V.heap.size + 2 ≤ _ by simp)); have w320 := (o3.low (show v12.heap.size + 0 ≤ _ by simp)); have w420 := (o4.low (show v12.heap.size + 0 ≤ _ by simp)); have z120 := w120.kept B220_; have z220 := w220.kept B220_; have z320 := w320; have z420 := w420; have p120 := z120; have p220 := z220; have p320 := z320; have p420 := z420; have eb20 := ea20.symm; have enA200 := neA200.symm; have enA201 := neA201.symm; have enC200 := neC200.symm; have enC201 := neC201.symm; have fin1 := (D2At.mk (K := 65) nm2a_u20 nm2b_u20 ea20 BV220_ N20.out.2.2.2.2.1 N20.out.2.2.2.2.2.1 p120 p220 p320 p420 (w120.away N20.out.1) (w220.away N20.out.1) (w320.away N20.out.2.2.1) (w420.away N20.out.2.2.1) (w120.away N20.out.2.1) (w220.away N20.out.2.1) (w320.away N20.out.2.2.2.1) (w420.away N20.out.2.2.2.1) hn3 hm3 hn4 hm4); have fin2 := (D2At.mk (K := 65) nm2b_u20 nm2a_u20 eb20 BV220_ N20.out.2.2.2.2.2.1 N20.out.2.2.2.2.1 p120 p220 p320 p420 (w120.away N20.out.2.1) (w220.away N20.out.2.1) (w320.away N20.out.2.2.2.1) (w420.away N20.out.2.2.2.1) (w120.away N20.out.1) (w220.away N20.out.1) (w320.away N20.out.2.2.1) (w420.away N20.out.2.2.1) hn3 hm3 hn4 hm4); unfold put3 at fin1 fin2; have fin1 := Lib.hid fin1; have fin2 := Lib.hid fin2; obtain ⟨c1200, c1201, c1202⟩ := nm2a_u20.cells3; have d1200 := nm2a_u20.frozen 0; have d1201 := nm2a_u20.frozen 1; have d1202 := nm2a_u20.frozen 2; obtain ⟨c2200, c2201, c2202⟩ := nm2b_u20.cells3; have d2200 := nm2b_u20.frozen 0; have d2201 := nm2b_u20.frozen 1; have d2202 := nm2b_u20.frozen 2))
      all_goals
        go_wp2_with fail
        go_meet
        refine ⟨_, _, rfl, rfl, ?_⟩
        first | (with_reducible exact fin1.out) | (with_reducible exact fin2.out) | (with_reducible exact fin3.out)
    case rest =>
      obtain ⟨gx, gy, rfl, rfl, ax, bx, nx, cx, mx, dx, ay, by', ny, cy, my, dy, KX, LX, MX, hnx, hmx, KY, LY, MY, hny, hmy, hgx, hgy, b2⟩ := hcut
      replace P1 := Lib.hid (P1.out.below b2)
      replace Q1 := Lib.hid (Q1.out.below b2)
      replace P2 := Lib.hid (P2.out.below b2)
      replace Q2 := Lib.hid (Q2.out.below b2)
      replace A := Lib.hid (A.out.on b2)
      replace C := Lib.hid (C.out.on b2)
      replace BV := Lib.hid (BV.out.trans (b2.mono BV.out.size))
      clear HF1 HF2 i0 i1 i2 ii0 ii1 ii2 BV0_ BV1_ BV2_ k1a_ k2a_ k2b_ nA00 nA01 nA02 nA10 nA11 nA12 nA20 nA21 nA22 nC00 nC01 nC02 nC10 nC11 nC12 nC20 nC21 nC22
      have KX := Lib.hid KX; have LX := Lib.hid LX; have MX := Lib.hid MX; have KY := Lib.hid KY; have LY := Lib.hid LY; have MY := Lib.hid MY
      obtain ⟨V2, hV2⟩ : ∃ V2, V2 = wc := ⟨_, rfl⟩
      rw [← hV2] at A C BV P1 Q1 P2 Q2 KX LX MX KY LY MY ⊢
      clear hV2 b2 hgx hgy
      have bX : Hid (zx.p < 2 ^ 65 ∧ zx.q < 2 ^ 65) := by
        show _ ∧ _
        have h1 := val_lt_two P1.out.ok P1.out.len hp1
        have h2 := val_lt_two Q1.out.ok Q1.out.len hq1
        have p1' := nf_p_le ra
        have p2' := nf_q_le ra
        rw [hra.out] at p1' p2'
        rw [hzx.out, hra.out]
        have e : (2 : Nat) ^ (32 * 2) * 2 = 2 ^ 65 := by decide
        simp only at p1' p2'
        omega
      have bY : Hid (zy.p < 2 ^ 65 ∧ zy.q < 2 ^ 65) := by
        show _ ∧ _
        have h1 := val_lt_two P2.out.ok P2.out.len hp2
        have h2 := val_lt_two Q2.out.ok Q2.out.len hq2
        have p1' := nf_p_le rb
        have p2' := nf_q_le rb
        rw [hrb.out] at p1' p2'
        rw [hzy.out, hrb.out]
        have e : (2 : Nat) ^ (32 * 2) * 2 = 2 ^ 65 := by decide
        simp only at p1' p2'
        omega
      obtain ⟨g, hg⟩ : ∃ g, Hid (g = RatMath.cmp ra rb) := ⟨_, rfl⟩
      have hcr := cmpR_c zx.s zy.s _ _ _ _ _ _ _ _ _ _ _ _ zx.p zx.q zy.p zy.q 65 V2 LX.out MX.out LY.out MY.out bX.out.1 bX.out.2 bY.out.1 bY.out.2 (by omega) (by omega) g (by rw [hg.out, ← cmp_ref ra rb, hzx.out, hzy.out])
      have HCR := Lib.hid hcr
      clear hcr
      obtain ⟨jjj0, jjj1, jjj2⟩ := KX.out.cells3
      obtain ⟨jjjj0, jjjj1, jjjj2⟩ := KY.out.cells3
      go_wp2_with fail
      refine HCR.out.mono ?_
      rintro e wc ⟨rfl, b3⟩
      replace P1 := Lib.hid (P1.out.below b3)
      replace Q1 := Lib.hid (Q1.out.below b3)
      replace P2 := Lib.hid (P2.out.below b3)
      replace Q2 := Lib.hid (Q2.out.below b3)
      replace LX := Lib.hid (LX.out.below b3)
      replace MX := Lib.hid (MX.out.below b3)
      replace LY := Lib.hid (LY.out.below b3)
      replace MY := Lib.hid (MY.out.below b3)
      replace A := Lib.hid (A.out.on b3)
      replace C := Lib.hid (C.out.on b3)
      replace KX := Lib.hid (KX.out.on b3)
      replace KY := Lib.hid (KY.out.on b3)
      replace BV := Lib.hid (BV.out.trans (b3.mono BV.out.size))
      clear HCR jjj0 jjj1 jjj2 jjjj0 jjjj1 jjjj2
      obtain ⟨V3, hV3⟩ : ∃ V3, V3 = wc := ⟨_, rfl⟩
      rw [← hV3] at A C BV P1 Q1 P2 Q2 KX LX MX KY LY MY ⊢
      clear hV3 b3
      obtain ⟨jjj0, jjj1, jjj2⟩ := KX.out.cells3
      obtain ⟨jjjj0, jjjj1, jjjj2⟩ := KY.out.cells3
      have hlx := KX.out.lt; have hly := KY.out.lt
      have n1' : gx ≠ V3.heap.size := Nat.ne_of_lt hlx
      have n2' : gy ≠ V3.heap.size := Nat.ne_of_lt hly
      have n3' : gx ≠ V3.heap.size + 1 := by omega
      have n4' : gy ≠ V3.heap.size + 1 := by omega
      have n5' := n1'.symm; have n6' := n2'.symm; have n7' := n3'.symm; have n8' := n4'.symm
      have HLX := Lib.hid hlx; have HLY := Lib.hid hly
      clear hlx hly
      go_wp2_with fail
      go_cut [8, 9] (fun s8 s9 wx => ∃ gl gm : Nat, s8 = .pointer (some ⟨gl, 0, none⟩) ∧ s9 = .pointer (some ⟨gm, 0, none⟩) ∧ TwoAt V3 #[.bool zx.s, .slice ax nx cx, .slice bx mx dx] #[.bool zy.s, .slice ay ny cy, .slice by' my dy] wx gl gm)
      case first =>
        go_region_held3 (fun w' => w'.cell? ⟨gx, 0, none⟩ = some (.bool zx.s) ∧ w'.cell? ⟨gx, 1, none⟩ = some (.slice ax nx cx) ∧ w'.cell? ⟨gx, 2, none⟩ = some (.slice bx mx dx) ∧ w'.cell? ⟨gy, 0, none⟩ = some (.bool zy.s) ∧ w'.cell? ⟨gy, 1, none⟩ = some (.slice ay ny cy) ∧ w'.cell? ⟨gy, 2, none⟩ = some (.slice by' my dy)) (go_keep) (fail)
        all_goals
          go_wp2_with fail
          go_meet
          refine ⟨_, _, rfl, rfl, ?_⟩
          first | exact (TwoAt.newA V3 _ _).drew | exact (TwoAt.newB V3 _ _).drew
      case rest =>
        obtain ⟨gl, gm, rfl, rfl, KL, KM, hgl, hgm, hne, b4⟩ := hcut
        clear n1' n2' n3' n4' n5' n6' n7' n8' jjj0 jjj1 jjj2 jjjj0 jjjj1 jjjj2
        have hneS := hne.symm
        have hgg : (g == g) = true := by simp
        obtain ⟨jjj0, jjj1, jjj2⟩ := (KX.out.on b4).cells3
        obtain ⟨jjjj0, jjjj1, jjjj2⟩ := (KY.out.on b4).cells3
        by_cases hpos : 0 < g
        · have hd : decide (0 < g) = true := by simpa using hpos
          obtain ⟨f0, f1, f2⟩ := KL.cells3
          obtain ⟨e0, e1, e2⟩ := KM.cells3
          have f3 := KL.frozen 0; have f4 := KL.frozen 1; have f5 := KL.frozen 2
          have e3 := KM.frozen 0; have e4 := KM.frozen 1; have e5 := KM.frozen 2
          have HP := Lib.hid hpos
          have hxl : gx ≠ gl := Nat.ne_of_lt (Nat.lt_of_lt_of_le HLX.out hgl)
          have hxm : gx ≠ gm := Nat.ne_of_lt (Nat.lt_of_lt_of_le HLX.out hgm)
          have hyl : gy ≠ gl := Nat.ne_of_lt (Nat.lt_of_lt_of_le HLY.out hgl)
          have hym : gy ≠ gm := Nat.ne_of_lt (Nat.lt_of_lt_of_le HLY.out hgm)
          have hxl' := hxl.symm; have hxm' := hxm.symm; have hyl' := hyl.symm; have hym' := hym.symm
          clear hpos
          go_wp2_with fail
          go_region_held3 (fun w' => w'.cell? ⟨gx, 0, none⟩ = some (.bool zx.s) ∧ w'.cell? ⟨gx, 1, none⟩ = some (.slice ax nx cx) ∧ w'.cell? ⟨gx, 2, none⟩ = some (.slice bx mx dx) ∧ w'.cell? ⟨gy, 0, none⟩ = some (.bool zy.s) ∧ w'.cell? ⟨gy, 1, none⟩ = some (.slice ay ny cy) ∧ w'.cell? ⟨gy, 2, none⟩ = some (.slice by' my dy)) (go_keep) (fail)
          have bP := (below_put3 (below_put3 b4 hgl (.bool zy.s) (.slice ay ny cy) (.slice by' my dy)) hgm (.bool zx.s) (.slice ax nx cx) (.slice bx mx dx)).drew
          have KL2 := blk_drew (put3_other (KL.put3 (.bool zy.s) (.slice ay ny cy) (.slice by' my dy)) hne (.bool zx.s) (.slice ax nx cx) (.slice bx mx dx))
          have KM2 := blk_drew ((put3_other KM hneS (.bool zy.s) (.slice ay ny cy) (.slice by' my dy)).put3 (.bool zx.s) (.slice ax nx cx) (.slice bx mx dx))
          replace P1 := Lib.hid (P1.out.below bP)
          replace Q1 := Lib.hid (Q1.out.below bP)
          replace P2 := Lib.hid (P2.out.below bP)
          replace Q2 := Lib.hid (Q2.out.below bP)
          replace LX := Lib.hid (LX.out.below bP)
          replace MX := Lib.hid (MX.out.below bP)
          replace LY := Lib.hid (LY.out.below bP)
          replace MY := Lib.hid (MY.out.below bP)
          replace A := Lib.hid (A.out.on bP)
          replace C := Lib.hid (C.out.on bP)
          replace KX := Lib.hid (KX.out.on bP)
          replace KY := Lib.hid (KY.out.on bP)
          replace BV := Lib.hid (BV.out.trans (bP.mono BV.out.size))
          clear KL KM
          have KL := KL2; have KM := KM2
          go_wp2_with fail
          obtain ⟨V4, hV4⟩ : ∃ V4, V4 = (put3 (put3 wc gl (.bool zy.s) (.slice ay ny cy) (.slice by' my dy)) gm (.bool zx.s) (.slice ax nx cx) (.slice bx mx dx)).drew := ⟨_, rfl⟩
          change Code.wp _ _ _ _ (put3 (put3 wc gl (.bool zy.s) (.slice ay ny cy) (.slice by' my dy)) gm (.bool zx.s) (.slice ax nx cx) (.slice bx mx dx)).drew
          rw [← hV4] at A C BV P1 Q1 P2 Q2 KX LX MX KY LY MY KL KM ⊢
          clear hV4 b4 bP jjj0 jjj1 jjj2 jjjj0 jjjj1 jjjj2 f0 f1 f2 f3 f4 f5 e0 e1 e2 e3 e4 e5 KL2 KM2
          have EA : Hid (BoxAt V4.drew g1 25 #[.bool s1, .slice a1 p1 c1, .slice b1 q1 d1]) := BoxAt.drewN A.out 1
          have EC : Hid (BoxAt V4.drew g2 25 #[.bool s2, .slice a2 p2 c2, .slice b2 q2 d2]) := BoxAt.drewN C.out 1
          have EL : Hid (BoxAt V4.drew gl 30 #[.bool zy.s, .slice ay ny cy, .slice by' my dy]) := BoxAt.drewN KL 1
          have EM : Hid (BoxAt V4.drew gm 30 #[.bool zx.s, .slice ax nx cx, .slice bx mx dx]) := BoxAt.drewN KM 1
          obtain ⟨jl0, jl1, jl2⟩ := KL.cells3
          obtain ⟨jm0, jm1, jm2⟩ := KM.cells3
          have D1 : Hid (Lst .u32 V4.drew a1 p1 c1 X1) := P1.out.drewN 1
          have D2 : Hid (Lst .u32 V4.drew b1 q1 d1 Y1) := Q1.out.drewN 1
          have D3 : Hid (Lst .u32 V4.drew a2 p2 c2 X2) := P2.out.drewN 1
          have D4 : Hid (Lst .u32 V4.drew b2 q2 d2 Y2) := Q2.out.drewN 1
          have D5 : Hid (LstB V4.drew ax nx cx (bitsN zx.p)) := LX.out.drewN 1
          have D6 : Hid (LstB V4.drew bx mx dx (bitsN zx.q)) := MX.out.drewN 1
          have D7 : Hid (LstB V4.drew ay ny cy (bitsN zy.p)) := LY.out.drewN 1
          have D8 : Hid (LstB V4.drew by' my dy (bitsN zy.q)) := MY.out.drewN 1
          have DB : Hid (Below w.heap.size w V4.drew) := BV.out.drew
          obtain ⟨j0, j1, j2⟩ := A.out.cells3
          obtain ⟨jj0, jj1, jj2⟩ := C.out.cells3
          have cm1 : Hid (zy = nf (if 0 < RatMath.cmp ra rb then rb else ra)) := by
            show _ = _
            rw [← hg.out]
            rw [if_pos HP.out, hzy.out]
          have cm2 : Hid (zx = nf (if RatMath.cmp ra rb < 0 then rb else ra)) := by
            show _ = _
            rw [← hg.out]
            have hp := HP.out
            rw [if_neg (by omega), hzx.out]
          go_wp2_with fail
          go_region_held3 (fun w' => w'.cell? ⟨g1, 0, none⟩ = some (.bool s1) ∧ w'.cell? ⟨g1, 1, none⟩ = some (.slice a1 p1 c1) ∧ w'.cell? ⟨g1, 2, none⟩ = some (.slice b1 q1 d1) ∧ w'.cell? ⟨g2, 0, none⟩ = some (.bool s2) ∧ w'.cell? ⟨g2, 1, none⟩ = some (.slice a2 p2 c2) ∧ w'.cell? ⟨g2, 2, none⟩ = some (.slice b2 q2 d2) ∧ w'.cell? ⟨gl, 0, none⟩ = some (.bool zy.s) ∧ w'.cell? ⟨gl, 1, none⟩ = some (.slice ay ny cy) ∧ w'.cell? ⟨gl, 2, none⟩ = some (.slice by' my dy) ∧ w'.cell? ⟨gm, 0, none⟩ = some (.bool zx.s) ∧ w'.cell? ⟨gm, 1, none⟩ = some (.slice ax nx cx) ∧ w'.cell? ⟨gm, 2, none⟩ = some (.slice bx mx dx)) (go_keep) (first
            | (go_at_call 8; refine (awake2_c V4.drew (HT.out.below DB.out)).mono ?_; rintro e r1 ⟨rfl, B1_⟩; have X1_1 := (D1.out).below B1_; have Y1_1 := (D2.out).below B1_; have X2_1 := (D3.out).below B1_; have Y2_1 := (D4.out).below B1_; have LX_1 := (D5.out).below B1_; have MX_1 := (D6.out).below B1_; have LY_1 := (D7.out).below B1_; have MY_1 := (D8.out).below B1_; have A_1 := (EA.out).below B1_; have C_1 := (EC.out).below B1_; have L_1 := (EL.out).below B1_; have M_1 := (EM.out).below B1_; have bb_1 := (DB.out).trans (B1_.mono (DB.out).size); obtain ⟨cA1_0, cA1_1, cA1_2⟩ := Blk.cells3 A_1; obtain ⟨cC1_0, cC1_1, cC1_2⟩ := Blk.cells3 C_1; obtain ⟨cL1_0, cL1_1, cL1_2⟩ := Blk.cells3 L_1; obtain ⟨cM1_0, cM1_1, cM1_2⟩ := Blk.cells3 M_1)
            | (go_at_call 21; have hc := rcmp_c s1 s2 _ _ _ _ _ _ _ _ _ _ _ _ 2 X1 Y1 X2 Y2 r1 X1_1 Y1_1 X2_1 Y2_1 hp1 hq1 hp2 hq2 (by omega); rw [← hra.out, ← hrb.out, ← hg.out] at hc; refine (hc).mono ?_; rintro e r2 ⟨rfl, B2_⟩; clear hc; have X1_2 := (X1_1).below B2_; have Y1_2 := (Y1_1).below B2_; have X2_2 := (X2_1).below B2_; have Y2_2 := (Y2_1).below B2_; have LX_2 := (LX_1).below B2_; have MX_2 := (MX_1).below B2_; have LY_2 := (LY_1).below B2_; have MY_2 := (MY_1).below B2_; have A_2 := (A_1).below B2_; have C_2 := (C_1).below B2_; have L_2 := (L_1).below B2_; have M_2 := (M_1).below B2_; have bb_2 := (bb_1).trans (B2_.mono (bb_1).size); obtain ⟨cA2_0, cA2_1, cA2_2⟩ := Blk.cells3 A_2; obtain ⟨cC2_0, cC2_1, cC2_2⟩ := Blk.cells3 C_2; obtain ⟨cL2_0, cL2_1, cL2_2⟩ := Blk.cells3 L_2; obtain ⟨cM2_0, cM2_1, cM2_2⟩ := Blk.cells3 M_2)
            | (go_at_call 22; have hc := rmin_c s1 s2 _ _ _ _ _ _ _ _ _ _ _ _ 2 X1 Y1 X2 Y2 r2 X1_2 Y1_2 X2_2 Y2_2 hp1 hq1 hp2 hq2 (by omega) zy (by rw [← hra.out, ← hrb.out]; exact cm1.out); refine (hc).mono ?_; rintro e r3 ⟨t11, a11', n11', c11', b11', m11', d11', rfl, rfl, o11, q11, hn11, hm11, B3_⟩; clear hc; have X1_3 := (X1_2).below B3_; have Y1_3 := (Y1_2).below B3_; have X2_3 := (X2_2).below B3_; have Y2_3 := (Y2_2).below B3_; have LX_3 := (LX_2).below B3_; have MX_3 := (MX_2).below B3_; have LY_3 := (LY_2).below B3_; have MY_3 := (MY_2).below B3_; have A_3 := (A_2).below B3_; have C_3 := (C_2).below B3_; have L_3 := (L_2).below B3_; have M_3 := (M_2).below B3_; have bb_3 := (bb_2).trans (B3_.mono (bb_2).size); obtain ⟨cA3_0, cA3_1, cA3_2⟩ := Blk.cells3 A_3; obtain ⟨cC3_0, cC3_1, cC3_2⟩ := Blk.cells3 C_3; obtain ⟨cL3_0, cL3_1, cL3_2⟩ := Blk.cells3 L_3; obtain ⟨cM3_0, cM3_1, cM3_2⟩ := Blk.cells3 M_3; have O11_3 := o11.lst; have U11_3 := q11.lst)
            | (go_at_call_of 9 (Value.slice a11' n11' c11'); have hc := is2_c zy.s zy.s _ _ _ _ _ _ _ _ _ _ _ _ zy.p zy.q _ _ r3 O11_3 U11_3 LY_3 MY_3 (by omega) (by omega); rw [decide_eq_true ⟨rfl, rfl, rfl⟩] at hc; refine (hc).mono ?_; rintro e r4 ⟨rfl, B4_⟩; clear hc; have X1_4 := (X1_3).below B4_; have Y1_4 := (Y1_3).below B4_; have X2_4 := (X2_3).below B4_; have Y2_4 := (Y2_3).below B4_; have LX_4 := (LX_3).below B4_; have MX_4 := (MX_3).below B4_; have LY_4 := (LY_3).below B4_; have MY_4 := (MY_3).below B4_; have A_4 := (A_3).below B4_; have C_4 := (C_3).below B4_; have L_4 := (L_3).below B4_; have M_4 := (M_3).below B4_; have bb_4 := (bb_3).trans (B4_.mono (bb_3).size); obtain ⟨cA4_0, cA4_1, cA4_2⟩ := Blk.cells3 A_4; obtain ⟨cC4_0, cC4_1, cC4_2⟩ := Blk.cells3 C_4; obtain ⟨cL4_0, cL4_1, cL4_2⟩ := Blk.cells3 L_4; obtain ⟨cM4_0, cM4_1, cM4_2⟩ := Blk.cells3 M_4)
            | (go_at_call 23; have hc := rmax_c s1 s2 _ _ _ _ _ _ _ _ _ _ _ _ 2 X1 Y1 X2 Y2 r4 X1_4 Y1_4 X2_4 Y2_4 hp1 hq1 hp2 hq2 (by omega) zx (by rw [← hra.out, ← hrb.out]; exact cm2.out); refine (hc).mono ?_; rintro e r5 ⟨t12, a12', n12', c12', b12', m12', d12', rfl, rfl, o12, q12, hn12, hm12, B5_⟩; clear hc; have X1_5 := (X1_4).below B5_; have Y1_5 := (Y1_4).below B5_; have X2_5 := (X2_4).below B5_; have Y2_5 := (Y2_4).below B5_; have LX_5 := (LX_4).below B5_; have MX_5 := (MX_4).below B5_; have LY_5 := (LY_4).below B5_; have MY_5 := (MY_4).below B5_; have A_5 := (A_4).below B5_; have C_5 := (C_4).below B5_; have L_5 := (L_4).below B5_; have M_5 := (M_4).below B5_; have bb_5 := (bb_4).trans (B5_.mono (bb_4).size); obtain ⟨cA5_0, cA5_1, cA5_2⟩ := Blk.cells3 A_5; obtain ⟨cC5_0, cC5_1, cC5_2⟩ := Blk.cells3 C_5; obtain ⟨cL5_0, cL5_1, cL5_2⟩ := Blk.cells3 L_5; obtain ⟨cM5_0, cM5_1, cM5_2⟩ := Blk.cells3 M_5; have O12_5 := o12.lst; have U12_5 := q12.lst)
            | (go_at_call_of 9 (Value.slice a12' n12' c12'); have hc := is2_c zx.s zx.s _ _ _ _ _ _ _ _ _ _ _ _ zx.p zx.q _ _ r5 O12_5 U12_5 LX_5 MX_5 (by omega) (by omega); rw [decide_eq_true ⟨rfl, rfl, rfl⟩] at hc; refine (hc).mono ?_; rintro e r6 ⟨rfl, B6_⟩; clear hc; have X1_6 := (X1_5).below B6_; have Y1_6 := (Y1_5).below B6_; have X2_6 := (X2_5).below B6_; have Y2_6 := (Y2_5).below B6_; have LX_6 := (LX_5).below B6_; have MX_6 := (MX_5).below B6_; have LY_6 := (LY_5).below B6_; have MY_6 := (MY_5).below B6_; have A_6 := (A_5).below B6_; have C_6 := (C_5).below B6_; have L_6 := (L_5).below B6_; have M_6 := (M_5).below B6_; have bb_6 := (bb_5).trans (B6_.mono (bb_5).size); obtain ⟨cA6_0, cA6_1, cA6_2⟩ := Blk.cells3 A_6; obtain ⟨cC6_0, cC6_1, cC6_2⟩ := Blk.cells3 C_6; obtain ⟨cL6_0, cL6_1, cL6_2⟩ := Blk.cells3 L_6; obtain ⟨cM6_0, cM6_1, cM6_2⟩ := Blk.cells3 M_6))
          go_wp2_with fail
          go_ret
          exact ⟨rfl, bb_6⟩
        · have hd : decide (0 < g) = false := by simpa using hpos
          have HP := Lib.hid hpos
          clear hpos
          replace P1 := Lib.hid (P1.out.below b4)
          replace Q1 := Lib.hid (Q1.out.below b4)
          replace P2 := Lib.hid (P2.out.below b4)
          replace Q2 := Lib.hid (Q2.out.below b4)
          replace LX := Lib.hid (LX.out.below b4)
          replace MX := Lib.hid (MX.out.below b4)
          replace LY := Lib.hid (LY.out.below b4)
          replace MY := Lib.hid (MY.out.below b4)
          replace A := Lib.hid (A.out.on b4)
          replace C := Lib.hid (C.out.on b4)
          replace KX := Lib.hid (KX.out.on b4)
          replace KY := Lib.hid (KY.out.on b4)
          replace BV := Lib.hid (BV.out.trans (b4.mono BV.out.size))
          obtain ⟨V4, hV4⟩ : ∃ V4, V4 = wc := ⟨_, rfl⟩
          rw [← hV4] at A C BV P1 Q1 P2 Q2 KX LX MX KY LY MY KL KM ⊢
          clear hV4 b4 jjj0 jjj1 jjj2 jjjj0 jjjj1 jjjj2
          have EA : Hid (BoxAt V4.drew g1 25 #[.bool s1, .slice a1 p1 c1, .slice b1 q1 d1]) := BoxAt.drewN A.out 1
          have EC : Hid (BoxAt V4.drew g2 25 #[.bool s2, .slice a2 p2 c2, .slice b2 q2 d2]) := BoxAt.drewN C.out 1
          have EL : Hid (BoxAt V4.drew gl 30 #[.bool zx.s, .slice ax nx cx, .slice bx mx dx]) := BoxAt.drewN KL 1
          have EM : Hid (BoxAt V4.drew gm 30 #[.bool zy.s, .slice ay ny cy, .slice by' my dy]) := BoxAt.drewN KM 1
          obtain ⟨jl0, jl1, jl2⟩ := KL.cells3
          obtain ⟨jm0, jm1, jm2⟩ := KM.cells3
          have D1 : Hid (Lst .u32 V4.drew a1 p1 c1 X1) := P1.out.drewN 1
          have D2 : Hid (Lst .u32 V4.drew b1 q1 d1 Y1) := Q1.out.drewN 1
          have D3 : Hid (Lst .u32 V4.drew a2 p2 c2 X2) := P2.out.drewN 1
          have D4 : Hid (Lst .u32 V4.drew b2 q2 d2 Y2) := Q2.out.drewN 1
          have D5 : Hid (LstB V4.drew ax nx cx (bitsN zx.p)) := LX.out.drewN 1
          have D6 : Hid (LstB V4.drew bx mx dx (bitsN zx.q)) := MX.out.drewN 1
          have D7 : Hid (LstB V4.drew ay ny cy (bitsN zy.p)) := LY.out.drewN 1
          have D8 : Hid (LstB V4.drew by' my dy (bitsN zy.q)) := MY.out.drewN 1
          have DB : Hid (Below w.heap.size w V4.drew) := BV.out.drew
          obtain ⟨j0, j1, j2⟩ := A.out.cells3
          obtain ⟨jj0, jj1, jj2⟩ := C.out.cells3
          have cm1 : Hid (zx = nf (if 0 < RatMath.cmp ra rb then rb else ra)) := by
            show _ = _
            rw [← hg.out]
            rw [if_neg HP.out, hzx.out]
          have cm2 : Hid (zy = nf (if RatMath.cmp ra rb < 0 then rb else ra)) := by
            show _ = _
            rw [← hg.out]
            have hp := HP.out
            by_cases h0 : g < 0
            · rw [if_pos h0, hzy.out]
            · rw [if_neg h0, hzy.out]
              exact (cmp_eq (by rw [← hg.out]; omega)).symm
          go_wp2_with fail
          go_region_held3 (fun w' => w'.cell? ⟨g1, 0, none⟩ = some (.bool s1) ∧ w'.cell? ⟨g1, 1, none⟩ = some (.slice a1 p1 c1) ∧ w'.cell? ⟨g1, 2, none⟩ = some (.slice b1 q1 d1) ∧ w'.cell? ⟨g2, 0, none⟩ = some (.bool s2) ∧ w'.cell? ⟨g2, 1, none⟩ = some (.slice a2 p2 c2) ∧ w'.cell? ⟨g2, 2, none⟩ = some (.slice b2 q2 d2) ∧ w'.cell? ⟨gl, 0, none⟩ = some (.bool zx.s) ∧ w'.cell? ⟨gl, 1, none⟩ = some (.slice ax nx cx) ∧ w'.cell? ⟨gl, 2, none⟩ = some (.slice bx mx dx) ∧ w'.cell? ⟨gm, 0, none⟩ = some (.bool zy.s) ∧ w'.cell? ⟨gm, 1, none⟩ = some (.slice ay ny cy) ∧ w'.cell? ⟨gm, 2, none⟩ = some (.slice by' my dy)) (go_keep) (first
            | (go_at_call 8; refine (awake2_c V4.drew (HT.out.below DB.out)).mono ?_; rintro e r1 ⟨rfl, B1_⟩; have X1_1 := (D1.out).below B1_; have Y1_1 := (D2.out).below B1_; have X2_1 := (D3.out).below B1_; have Y2_1 := (D4.out).below B1_; have LX_1 := (D5.out).below B1_; have MX_1 := (D6.out).below B1_; have LY_1 := (D7.out).below B1_; have MY_1 := (D8.out).below B1_; have A_1 := (EA.out).below B1_; have C_1 := (EC.out).below B1_; have L_1 := (EL.out).below B1_; have M_1 := (EM.out).below B1_; have bb_1 := (DB.out).trans (B1_.mono (DB.out).size); obtain ⟨cA1_0, cA1_1, cA1_2⟩ := Blk.cells3 A_1; obtain ⟨cC1_0, cC1_1, cC1_2⟩ := Blk.cells3 C_1; obtain ⟨cL1_0, cL1_1, cL1_2⟩ := Blk.cells3 L_1; obtain ⟨cM1_0, cM1_1, cM1_2⟩ := Blk.cells3 M_1)
            | (go_at_call 21; have hc := rcmp_c s1 s2 _ _ _ _ _ _ _ _ _ _ _ _ 2 X1 Y1 X2 Y2 r1 X1_1 Y1_1 X2_1 Y2_1 hp1 hq1 hp2 hq2 (by omega); rw [← hra.out, ← hrb.out, ← hg.out] at hc; refine (hc).mono ?_; rintro e r2 ⟨rfl, B2_⟩; clear hc; have X1_2 := (X1_1).below B2_; have Y1_2 := (Y1_1).below B2_; have X2_2 := (X2_1).below B2_; have Y2_2 := (Y2_1).below B2_; have LX_2 := (LX_1).below B2_; have MX_2 := (MX_1).below B2_; have LY_2 := (LY_1).below B2_; have MY_2 := (MY_1).below B2_; have A_2 := (A_1).below B2_; have C_2 := (C_1).below B2_; have L_2 := (L_1).below B2_; have M_2 := (M_1).below B2_; have bb_2 := (bb_1).trans (B2_.mono (bb_1).size); obtain ⟨cA2_0, cA2_1, cA2_2⟩ := Blk.cells3 A_2; obtain ⟨cC2_0, cC2_1, cC2_2⟩ := Blk.cells3 C_2; obtain ⟨cL2_0, cL2_1, cL2_2⟩ := Blk.cells3 L_2; obtain ⟨cM2_0, cM2_1, cM2_2⟩ := Blk.cells3 M_2)
            | (go_at_call 22; have hc := rmin_c s1 s2 _ _ _ _ _ _ _ _ _ _ _ _ 2 X1 Y1 X2 Y2 r2 X1_2 Y1_2 X2_2 Y2_2 hp1 hq1 hp2 hq2 (by omega) zx (by rw [← hra.out, ← hrb.out]; exact cm1.out); refine (hc).mono ?_; rintro e r3 ⟨t11, a11', n11', c11', b11', m11', d11', rfl, rfl, o11, q11, hn11, hm11, B3_⟩; clear hc; have X1_3 := (X1_2).below B3_; have Y1_3 := (Y1_2).below B3_; have X2_3 := (X2_2).below B3_; have Y2_3 := (Y2_2).below B3_; have LX_3 := (LX_2).below B3_; have MX_3 := (MX_2).below B3_; have LY_3 := (LY_2).below B3_; have MY_3 := (MY_2).below B3_; have A_3 := (A_2).below B3_; have C_3 := (C_2).below B3_; have L_3 := (L_2).below B3_; have M_3 := (M_2).below B3_; have bb_3 := (bb_2).trans (B3_.mono (bb_2).size); obtain ⟨cA3_0, cA3_1, cA3_2⟩ := Blk.cells3 A_3; obtain ⟨cC3_0, cC3_1, cC3_2⟩ := Blk.cells3 C_3; obtain ⟨cL3_0, cL3_1, cL3_2⟩ := Blk.cells3 L_3; obtain ⟨cM3_0, cM3_1, cM3_2⟩ := Blk.cells3 M_3; have O11_3 := o11.lst; have U11_3 := q11.lst)
            | (go_at_call_of 9 (Value.slice a11' n11' c11'); have hc := is2_c zx.s zx.s _ _ _ _ _ _ _ _ _ _ _ _ zx.p zx.q _ _ r3 O11_3 U11_3 LX_3 MX_3 (by omega) (by omega); rw [decide_eq_true ⟨rfl, rfl, rfl⟩] at hc; refine (hc).mono ?_; rintro e r4 ⟨rfl, B4_⟩; clear hc; have X1_4 := (X1_3).below B4_; have Y1_4 := (Y1_3).below B4_; have X2_4 := (X2_3).below B4_; have Y2_4 := (Y2_3).below B4_; have LX_4 := (LX_3).below B4_; have MX_4 := (MX_3).below B4_; have LY_4 := (LY_3).below B4_; have MY_4 := (MY_3).below B4_; have A_4 := (A_3).below B4_; have C_4 := (C_3).below B4_; have L_4 := (L_3).below B4_; have M_4 := (M_3).below B4_; have bb_4 := (bb_3).trans (B4_.mono (bb_3).size); obtain ⟨cA4_0, cA4_1, cA4_2⟩ := Blk.cells3 A_4; obtain ⟨cC4_0, cC4_1, cC4_2⟩ := Blk.cells3 C_4; obtain ⟨cL4_0, cL4_1, cL4_2⟩ := Blk.cells3 L_4; obtain ⟨cM4_0, cM4_1, cM4_2⟩ := Blk.cells3 M_4)
            | (go_at_call 23; have hc := rmax_c s1 s2 _ _ _ _ _ _ _ _ _ _ _ _ 2 X1 Y1 X2 Y2 r4 X1_4 Y1_4 X2_4 Y2_4 hp1 hq1 hp2 hq2 (by omega) zy (by rw [← hra.out, ← hrb.out]; exact cm2.out); refine (hc).mono ?_; rintro e r5 ⟨t12, a12', n12', c12', b12', m12', d12', rfl, rfl, o12, q12, hn12, hm12, B5_⟩; clear hc; have X1_5 := (X1_4).below B5_; have Y1_5 := (Y1_4).below B5_; have X2_5 := (X2_4).below B5_; have Y2_5 := (Y2_4).below B5_; have LX_5 := (LX_4).below B5_; have MX_5 := (MX_4).below B5_; have LY_5 := (LY_4).below B5_; have MY_5 := (MY_4).below B5_; have A_5 := (A_4).below B5_; have C_5 := (C_4).below B5_; have L_5 := (L_4).below B5_; have M_5 := (M_4).below B5_; have bb_5 := (bb_4).trans (B5_.mono (bb_4).size); obtain ⟨cA5_0, cA5_1, cA5_2⟩ := Blk.cells3 A_5; obtain ⟨cC5_0, cC5_1, cC5_2⟩ := Blk.cells3 C_5; obtain ⟨cL5_0, cL5_1, cL5_2⟩ := Blk.cells3 L_5; obtain ⟨cM5_0, cM5_1, cM5_2⟩ := Blk.cells3 M_5; have O12_5 := o12.lst; have U12_5 := q12.lst)
            | (go_at_call_of 9 (Value.slice a12' n12' c12'); have hc := is2_c zy.s zy.s _ _ _ _ _ _ _ _ _ _ _ _ zy.p zy.q _ _ r5 O12_5 U12_5 LY_5 MY_5 (by omega) (by omega); rw [decide_eq_true ⟨rfl, rfl, rfl⟩] at hc; refine (hc).mono ?_; rintro e r6 ⟨rfl, B6_⟩; clear hc; have X1_6 := (X1_5).below B6_; have Y1_6 := (Y1_5).below B6_; have X2_6 := (X2_5).below B6_; have Y2_6 := (Y2_5).below B6_; have LX_6 := (LX_5).below B6_; have MX_6 := (MX_5).below B6_; have LY_6 := (LY_5).below B6_; have MY_6 := (MY_5).below B6_; have A_6 := (A_5).below B6_; have C_6 := (C_5).below B6_; have L_6 := (L_5).below B6_; have M_6 := (M_5).below B6_; have bb_6 := (bb_5).trans (B6_.mono (bb_5).size); obtain ⟨cA6_0, cA6_1, cA6_2⟩ := Blk.cells3 A_6; obtain ⟨cC6_0, cC6_1, cC6_2⟩ := Blk.cells3 C_6; obtain ⟨cL6_0, cL6_1, cL6_2⟩ := Blk.cells3 L_6; obtain ⟨cM6_0, cM6_1, cM6_2⟩ := Blk.cells3 M_6))
          go_wp2_with fail
          go_ret
          exact ⟨rfl, bb_6⟩
end Go.Proofs.YtmojcnlddfijjaaGreatDoor
