/-
  The walk of RatioProduct.
-/
import Derived.Test.YtmojcnlddfijjaaGreatDoorRatLaw
import Derived.Test.YtmojcnlddfijjaaGreatDoorRatRef2
import Derived.Test.YtmojcnlddfijjaaGreatDoorRatOps3
import Derived.Test.YtmojcnlddfijjaaGreatDoorRatAwake
import Derived.Deep.RegionHeld3
import Derived.Deep.RegionWith
import Derived.Deep.DeepCutAuto
namespace Go.Proofs.YtmojcnlddfijjaaGreatDoor
open Go.RowKit NatMath RatMath

theorem OwnT.away {B : Nat} {w : World} {ao : Option Addr} {n c : Nat} {xs : List Bool} (h : OwnT B w ao n c xs) {g : Nat} (hg : g < B ∨ w.heap.size ≤ g) : ∀ a, ao = some a → g ≠ a.block := by
  rcases hg with hg | hg
  · exact h.hi hg
  · exact h.up hg
theorem blk_up (w : World) (t : TypeId) (cs ds : Array Value) : Blk ((w.alloc (.cells cs t)).alloc (.cells ds t)) (w.heap.size + 1) t ds := by
  have := Blk.new (w.alloc (.cells cs t)) t ds
  rwa [show (w.alloc (.cells cs t)).heap.size = w.heap.size + 1 by simp] at this
/-- Two numbers of the reference lie in blocks gx and gy of the call's own. -/
def D2At (V : World) (x y : R) (K : Nat) (wx : World) (gx gy : Nat) : Prop := ∃ (a b : Option Addr) (n c m d : Nat) (a' b' : Option Addr) (n' c' m' d' : Nat),
  Blk wx gx 30 #[.bool x.s, .slice a n c, .slice b m d] ∧ LstB wx a n c (bitsN x.p) ∧ LstB wx b m d (bitsN x.q) ∧ n ≤ K ∧ m ≤ K ∧
  Blk wx gy 30 #[.bool y.s, .slice a' n' c', .slice b' m' d'] ∧ LstB wx a' n' c' (bitsN y.p) ∧ LstB wx b' m' d' (bitsN y.q) ∧ n' ≤ K ∧ m' ≤ K ∧ V.heap.size ≤ gx ∧ V.heap.size ≤ gy ∧ Below V.heap.size V wx
theorem D2At.mk {V W : World} {x y : R} {K gx gy B1 B2 : Nat} {a b a' b' : Option Addr} {n c m d n' c' m' d' : Nat} {v0 v1 v2 u0 u1 u2 : Value}
    (kx : Blk W gx 30 #[v0, v1, v2]) (ky : Blk W gy 30 #[u0, u1, u2]) (hne : gy ≠ gx) (bb : Below V.heap.size V W) (hgx : V.heap.size ≤ gx) (hgy : V.heap.size ≤ gy)
    (o1 : OwnT B1 W a n c (bitsN x.p)) (o2 : OwnT B1 W b m d (bitsN x.q)) (o3 : OwnT B2 W a' n' c' (bitsN y.p)) (o4 : OwnT B2 W b' m' d' (bitsN y.q))
    (x1 : ∀ q, a = some q → gx ≠ q.block) (x2 : ∀ q, b = some q → gx ≠ q.block) (x3 : ∀ q, a' = some q → gx ≠ q.block) (x4 : ∀ q, b' = some q → gx ≠ q.block)
    (y1 : ∀ q, a = some q → gy ≠ q.block) (y2 : ∀ q, b = some q → gy ≠ q.block) (y3 : ∀ q, a' = some q → gy ≠ q.block) (y4 : ∀ q, b' = some q → gy ≠ q.block)
    (hn : n ≤ K) (hm : m ≤ K) (hn' : n' ≤ K) (hm' : m' ≤ K) :
    D2At V x y K (put3 (put3 W gx (.bool x.s) (.slice a n c) (.slice b m d)) gy (.bool y.s) (.slice a' n' c') (.slice b' m' d')) gx gy :=
  ⟨a, b, n, c, m, d, a', b', n', c', m', d', put3_other (kx.put3 _ _ _) hne.symm _ _ _, ((o1.put3 x1 _ _ _).put3 y1 _ _ _).lst, ((o2.put3 x2 _ _ _).put3 y2 _ _ _).lst, hn, hm,
    (put3_other ky hne _ _ _).put3 _ _ _, ((o3.put3 x3 _ _ _).put3 y3 _ _ _).lst, ((o4.put3 x4 _ _ _).put3 y4 _ _ _).lst, hn', hm', hgx, hgy, below_put3 (below_put3 bb hgx _ _ _) hgy _ _ _⟩

theorem D2At.newA {V u : World} {x y : R} {K B1 B2 : Nat} {a b a' b' : Option Addr} {n c m d n' c' m' d' : Nat} (bb : Below V.heap.size V u)
    (o1 : OwnT B1 u a n c (bitsN x.p)) (o2 : OwnT B1 u b m d (bitsN x.q)) (o3 : OwnT B2 u a' n' c' (bitsN y.p)) (o4 : OwnT B2 u b' m' d' (bitsN y.q)) (hn : n ≤ K) (hm : m ≤ K) (hn' : n' ≤ K) (hm' : m' ≤ K) :
    D2At V x y K ((u.alloc (.cells #[.bool x.s, .slice a n c, .slice b m d] 30)).alloc (.cells #[.bool y.s, .slice a' n' c', .slice b' m' d'] 30)) u.heap.size (u.heap.size + 1) := by
  have bz : Below u.heap.size u ((u.alloc (.cells #[.bool x.s, .slice a n c, .slice b m d] 30)).alloc (.cells #[.bool y.s, .slice a' n' c', .slice b' m' d'] 30)) := ((Below.refl _ _).alloc (Nat.le_refl _) _).alloc (by simp) _
  have hs := bb.size
  exact ⟨a, b, n, c, m, d, a', b', n', c', m', d', (Blk.new u _ _).alloc _, o1.lst.below bz, o2.lst.below bz, hn, hm, blk_up _ _ _ _, o3.lst.below bz, o4.lst.below bz, hn', hm', hs, by omega, bb.trans (bz.mono bb.size)⟩
theorem D2At.newB {V u : World} {x y : R} {K B1 B2 : Nat} {a b a' b' : Option Addr} {n c m d n' c' m' d' : Nat} (bb : Below V.heap.size V u)
    (o1 : OwnT B1 u a n c (bitsN x.p)) (o2 : OwnT B1 u b m d (bitsN x.q)) (o3 : OwnT B2 u a' n' c' (bitsN y.p)) (o4 : OwnT B2 u b' m' d' (bitsN y.q)) (hn : n ≤ K) (hm : m ≤ K) (hn' : n' ≤ K) (hm' : m' ≤ K) :
    D2At V x y K ((u.alloc (.cells #[.bool y.s, .slice a' n' c', .slice b' m' d'] 30)).alloc (.cells #[.bool x.s, .slice a n c, .slice b m d] 30)) (u.heap.size + 1) u.heap.size := by
  have bz : Below u.heap.size u ((u.alloc (.cells #[.bool y.s, .slice a' n' c', .slice b' m' d'] 30)).alloc (.cells #[.bool x.s, .slice a n c, .slice b m d] 30)) := ((Below.refl _ _).alloc (Nat.le_refl _) _).alloc (by simp) _
  have hs := bb.size
  exact ⟨a, b, n, c, m, d, a', b', n', c', m', d', blk_up _ _ _ _, o1.lst.below bz, o2.lst.below bz, hn, hm, (Blk.new u _ _).alloc _, o3.lst.below bz, o4.lst.below bz, hn', hm', by omega, hs, bb.trans (bz.mono bb.size)⟩
theorem D2At.newC {V u : World} {x y : R} {K B1 B2 g : Nat} {a b a' b' : Option Addr} {n c m d n' c' m' d' : Nat} {u0 u1 u2 : Value} (ky : Blk u g 30 #[u0, u1, u2]) (bb : Below V.heap.size V u) (hg : V.heap.size ≤ g)
    (o1 : OwnT B1 u a n c (bitsN x.p)) (o2 : OwnT B1 u b m d (bitsN x.q)) (o3 : OwnT B2 u a' n' c' (bitsN y.p)) (o4 : OwnT B2 u b' m' d' (bitsN y.q))
    (y1 : ∀ q, a = some q → g ≠ q.block) (y2 : ∀ q, b = some q → g ≠ q.block) (y3 : ∀ q, a' = some q → g ≠ q.block) (y4 : ∀ q, b' = some q → g ≠ q.block) (hn : n ≤ K) (hm : m ≤ K) (hn' : n' ≤ K) (hm' : m' ≤ K) :
    D2At V x y K (put3 (u.alloc (.cells #[.bool x.s, .slice a n c, .slice b m d] 30)) g (.bool y.s) (.slice a' n' c') (.slice b' m' d')) u.heap.size g := by
  have bz : Below u.heap.size u (u.alloc (.cells #[.bool x.s, .slice a n c, .slice b m d] 30)) := (Below.refl _ _).alloc (Nat.le_refl _) _
  have hlt := ky.lt
  exact ⟨a, b, n, c, m, d, a', b', n', c', m', d', put3_other (Blk.new u _ _) (Nat.ne_of_gt hlt) _ _ _, ((o1.kept bz).put3 y1 _ _ _).lst, ((o2.kept bz).put3 y2 _ _ _).lst, hn, hm,
    (ky.alloc _).put3 _ _ _, ((o3.kept bz).put3 y3 _ _ _).lst, ((o4.kept bz).put3 y4 _ _ _).lst, hn', hm', bb.size, hg, below_put3 (bb.trans (bz.mono bb.size)) hg _ _ _⟩

theorem nums00 {V v u g1 g2 ga gb : Nat} (_h1 : V + 0 ≤ v) (_h2 : v + 0 ≤ u) (_hA : g1 < V) (_hC : g2 < V) (_ea : ga = u) (_eb : gb = u + 1) : (ga < V + 0 ∨ v ≤ ga) ∧ (gb < V + 0 ∨ v ≤ gb) ∧ (ga < v + 0 ∨ u ≤ ga) ∧ (gb < v + 0 ∨ u ≤ gb) ∧ V ≤ ga ∧ V ≤ gb ∧ gb ≠ ga ∧ g1 ≠ ga ∧ g1 ≠ gb ∧ g2 ≠ ga ∧ g2 ≠ gb := by omega
theorem nums01 {V v u g1 g2 ga gb : Nat} (_h1 : V + 0 ≤ v) (_h2 : v + 1 ≤ u) (_hA : g1 < V) (_hC : g2 < V) (_ea : ga = v) (_eb : gb = u) : (ga < V + 0 ∨ v ≤ ga) ∧ (gb < V + 0 ∨ v ≤ gb) ∧ (ga < v + 1 ∨ u ≤ ga) ∧ (gb < v + 1 ∨ u ≤ gb) ∧ V ≤ ga ∧ V ≤ gb ∧ gb ≠ ga ∧ g1 ≠ ga ∧ g1 ≠ gb ∧ g2 ≠ ga ∧ g2 ≠ gb := by omega
theorem nums02 {V v u g1 g2 ga gb : Nat} (_h1 : V + 0 ≤ v) (_h2 : v + 2 ≤ u) (_hA : g1 < V) (_hC : g2 < V) (_ea : ga = v) (_eb : gb = v + 1) : (ga < V + 0 ∨ v ≤ ga) ∧ (gb < V + 0 ∨ v ≤ gb) ∧ (ga < v + 2 ∨ u ≤ ga) ∧ (gb < v + 2 ∨ u ≤ gb) ∧ V ≤ ga ∧ V ≤ gb ∧ gb ≠ ga ∧ g1 ≠ ga ∧ g1 ≠ gb ∧ g2 ≠ ga ∧ g2 ≠ gb := by omega
theorem nums10 {V v u g1 g2 ga gb : Nat} (_h1 : V + 1 ≤ v) (_h2 : v + 0 ≤ u) (_hA : g1 < V) (_hC : g2 < V) (_ea : ga = V) (_eb : gb = u) : (ga < V + 1 ∨ v ≤ ga) ∧ (gb < V + 1 ∨ v ≤ gb) ∧ (ga < v + 0 ∨ u ≤ ga) ∧ (gb < v + 0 ∨ u ≤ gb) ∧ V ≤ ga ∧ V ≤ gb ∧ gb ≠ ga ∧ g1 ≠ ga ∧ g1 ≠ gb ∧ g2 ≠ ga ∧ g2 ≠ gb := by omega
theorem nums11 {V v u g1 g2 ga gb : Nat} (_h1 : V + 1 ≤ v) (_h2 : v + 1 ≤ u) (_hA : g1 < V) (_hC : g2 < V) (_ea : ga = V) (_eb : gb = v) : (ga < V + 1 ∨ v ≤ ga) ∧ (gb < V + 1 ∨ v ≤ gb) ∧ (ga < v + 1 ∨ u ≤ ga) ∧ (gb < v + 1 ∨ u ≤ gb) ∧ V ≤ ga ∧ V ≤ gb ∧ gb ≠ ga ∧ g1 ≠ ga ∧ g1 ≠ gb ∧ g2 ≠ ga ∧ g2 ≠ gb := by omega
theorem nums20 {V v u g1 g2 ga gb : Nat} (_h1 : V + 2 ≤ v) (_h2 : v + 0 ≤ u) (_hA : g1 < V) (_hC : g2 < V) (_ea : ga = V) (_eb : gb = V + 1) : (ga < V + 2 ∨ v ≤ ga) ∧ (gb < V + 2 ∨ v ≤ gb) ∧ (ga < v + 0 ∨ u ≤ ga) ∧ (gb < v + 0 ∨ u ≤ gb) ∧ V ≤ ga ∧ V ≤ gb ∧ gb ≠ ga ∧ g1 ≠ ga ∧ g1 ≠ gb ∧ g2 ≠ ga ∧ g2 ≠ gb := by omega

theorem own_lt {e : TypeId} {B : Nat} {w : World} {a : Option Addr} {n c v K : Nat} (h : Own e .u32 B w a n c (limbs v)) (hn : n ≤ K) : v < 2 ^ (32 * K) := by
  have := val_lt_two h.lst.ok h.lst.len hn
  rwa [val_limbs] at this
/-- A block, carried along. -/
def BoxAt (w : World) (g : Nat) (t : TypeId) (cs : Array Value) : Prop := Blk w g t cs
theorem BoxAt.below {w w' : World} {g : Nat} {t : TypeId} {cs : Array Value} (h : BoxAt w g t cs) (hb : Below w.heap.size w w') : BoxAt w' g t cs := Blk.on h hb
theorem BoxAt.drewN {w : World} {g : Nat} {t : TypeId} {cs : Array Value} (h : BoxAt w g t cs) (q : Nat) : BoxAt (w.drewN q) g t cs := h

theorem Own.up {e : TypeId} {k : IntKind} {B : Nat} {w : World} {ao : Option Addr} {n c : Nat} {xs : List Int} (h : Own e k B w ao n c xs) {g : Nat} (hg : w.heap.size ≤ g) : ∀ a, ao = some a → g ≠ a.block := by
  intro a ha
  rcases h.cases with ⟨h0, _⟩ | ⟨q, hq, h1, h2, _⟩
  · rw [h0] at ha; cases ha
  · rw [hq] at ha
    cases ha
    show g ≠ q
    omega
/-- A number lies in block g of the call's own; nothing under V has turned. -/
def RAt (V : World) (z : R) (K : Nat) (wx : World) (g : Nat) : Prop := ∃ (a b : Option Addr) (n c m d : Nat),
  Blk wx g 25 #[.bool z.s, .slice a n c, .slice b m d] ∧ Lst .u32 wx a n c (limbs z.p) ∧ Lst .u32 wx b m d (limbs z.q) ∧ n ≤ K ∧ m ≤ K ∧ V.heap.size ≤ g ∧ Below V.heap.size V wx
theorem RAt.mk {V v : World} {z : R} {g B K : Nat} {v0 v1 v2 : Value} {a b : Option Addr} {n c m d : Nat} (kd : Blk v g 25 #[v0, v1, v2]) (bb : Below V.heap.size V v) (hg : V.heap.size ≤ g)
    (o1 : Own 66 .u32 B v a n c (limbs z.p)) (h1 : ∀ q, a = some q → g ≠ q.block) (o2 : Own 66 .u32 B v b m d (limbs z.q)) (h2 : ∀ q, b = some q → g ≠ q.block) (hn : n ≤ K) (hm : m ≤ K) :
    RAt V z K (put3 v g (.bool z.s) (.slice a n c) (.slice b m d)) g :=
  ⟨a, b, n, c, m, d, kd.put3 _ _ _, (o1.put3 h1 _ _ _).lst, (o2.put3 h2 _ _ _).lst, hn, hm, hg, below_put3 bb hg _ _ _⟩
theorem RAt.new {V v : World} {z : R} {B K : Nat} {a b : Option Addr} {n c m d : Nat} (bb : Below V.heap.size V v)
    (o1 : Own 66 .u32 B v a n c (limbs z.p)) (o2 : Own 66 .u32 B v b m d (limbs z.q)) (hn : n ≤ K) (hm : m ≤ K) :
    RAt V z K (v.alloc (.cells #[.bool z.s, .slice a n c, .slice b m d] 25)) v.heap.size :=
  have bz := (Below.refl v.heap.size v).alloc (Nat.le_refl _) (.cells #[.bool z.s, .slice a n c, .slice b m d] 25)
  ⟨a, b, n, c, m, d, Blk.new v _ _, o1.lst.below bz, o2.lst.below bz, hn, hm, bb.size, bb.trans (bz.mono bb.size)⟩

set_option maxHeartbeats 6400000 in
set_option maxRecDepth 100000 in
theorem rproductLaw_c (s1 : Bool) (a1 b1 : Option Addr) (n1 c1 m1 d1 : Nat) (xs1 ys1 : List Int) (s2 : Bool) (a2 b2 : Option Addr) (n2 c2 m2 d2 : Nat) (xs2 ys2 : List Int) (w : World)
    (h1 : Lst .u32 w a1 n1 c1 xs1) (k1 : Lst .u32 w b1 m1 d1 ys1) (h2 : Lst .u32 w a2 n2 c2 xs2) (k2 : Lst .u32 w b2 m2 d2 ys2) (htab : Tab w) :
    Calls Tryz.prog 4 #[.agg #[.bool s1, .slice a1 n1 c1, .slice b1 m1 d1], .agg #[.bool s2, .slice a2 n2 c2, .slice b2 m2 d2]] w fun e w' => e = .returned (.bool true) ∧ Below w.heap.size w w' := by
  have HT := Lib.hid htab
  have H1 := Lib.hid h1; have K1 := Lib.hid k1; have H2 := Lib.hid h2; have K2 := Lib.hid k2
  clear h1 k1 h2 k2 htab
  go_enter Tryz.func4, Tryz.ntmps4
  go_wp2_with fail
  obtain ⟨W0, hW0, kA, kB, bb⟩ := boxed2 w 25 #[.bool s1, .slice a1 n1 c1, .slice b1 m1 d1] #[.bool s2, .slice a2 n2 c2, .slice b2 m2 d2]
  rw [← hW0]
  have S1 := Lib.hid (fun w1 (hb : Below w.heap.size w w1) => short2_c s1 a1 b1 n1 c1 m1 d1 xs1 ys1 2 w1 (H1.out.below hb) (K1.out.below hb))
  have S2 := Lib.hid (fun w1 (hb : Below w.heap.size w w1) => short2_c s2 a2 b2 n2 c2 m2 d2 xs2 ys2 2 w1 (H2.out.below hb) (K2.out.below hb))
  have BB : Hid (Below w.heap.size w W0.drew) := bb.drew
  have AA : Hid (Blk W0.drew w.heap.size 25 #[.bool s1, .slice a1 n1 c1, .slice b1 m1 d1]) := kA
  have CC : Hid (Blk W0.drew (w.heap.size + 1) 25 #[.bool s2, .slice a2 n2 c2, .slice b2 m2 d2]) := kB
  obtain ⟨x0, x1, x2⟩ := kA.cells3
  obtain ⟨y0, y1, y2⟩ := kB.cells3
  clear hW0 kA kB bb
  go_cut [9] (fun s12 wx => ∃ p1 q1 p2 q2 : Nat, (p1 ≤ 2 ∧ q1 ≤ 2 ∧ p2 ≤ 2 ∧ q2 ≤ 2) ∧ Lst .u32 w a1 p1 c1 (xs1.take 2) ∧ Lst .u32 w b1 q1 d1 (ys1.take 2) ∧ Lst .u32 w a2 p2 c2 (xs2.take 2) ∧ Lst .u32 w b2 q2 d2 (ys2.take 2) ∧
    Blk wx w.heap.size 25 #[.bool s1, .slice a1 p1 c1, .slice b1 q1 d1] ∧ Blk wx (w.heap.size + 1) 25 #[.bool s2, .slice a2 p2 c2, .slice b2 q2 d2] ∧ Below w.heap.size w wx)
  case first =>
    go_region_with ((first
      | (go_at_call_of 6 (Value.agg #[Value.bool s1, Value.slice a1 n1 c1, Value.slice b1 m1 d1]); refine (S1.out W0.drew BB.out).mono ?_; rintro e v1 ⟨p1, q1, rfl, hp1, hq1, L1, M1, B1⟩; have A1 := AA.out.on B1; have C1 := CC.out.on B1; have B1' := BB.out.trans (B1.mono BB.out.size); clear B1; obtain ⟨i0, i1, i2⟩ := C1.cells3)
      | (go_at_call 6; refine (S2.out v1 B1').mono ?_; rintro e v3 ⟨p2, q2, rfl, hp2, hq2, L2, M2, B3⟩; have A3 := A1.on B3; have C3 := C1.on B3; have B3' := B1'.trans (B3.mono B1'.size); clear B3; obtain ⟨k0, k1, k2, k3, k4, k5⟩ := A3.store3 (.bool s1) (.slice a1 p1 c1); have A4 := A3.put3 (.bool s1) (.slice a1 p1 c1) (.slice b1 q1 d1); have C4 := put3_other (g := w.heap.size) C3 (by omega) (.bool s1) (.slice a1 p1 c1) (.slice b1 q1 d1); obtain ⟨l0, l1, l2, l3, l4, l5⟩ := C4.store3 (.bool s2) (.slice a2 p2 c2); unfold put3 at l0 l1 l2 l3 l4 l5)))
    all_goals
      go_wp2_with fail
      go_meet
      have C5 := C4.put3 (.bool s2) (.slice a2 p2 c2) (.slice b2 q2 d2)
      have A5 := put3_other (g := w.heap.size + 1) A4 (by omega) (.bool s2) (.slice a2 p2 c2) (.slice b2 q2 d2)
      have B6 := below_put3 (below_put3 B3' (Nat.le_refl _) (.bool s1) (.slice a1 p1 c1) (.slice b1 q1 d1)) (Nat.le_add_right _ 1) (.bool s2) (.slice a2 p2 c2) (.slice b2 q2 d2)
      exact ⟨p1, q1, p2, q2, ⟨hp1, hq1, hp2, hq2⟩, H1.out.retake L1, K1.out.retake M1, H2.out.retake L2, K2.out.retake M2, A5, C5, B6⟩
  case rest =>
    obtain ⟨p1, q1, p2, q2, ⟨hp1, hq1, hp2, hq2⟩, L1, M1, L2, M2, A, C, bb⟩ := hcut
    obtain ⟨X1, hX1⟩ : ∃ X, Hid (X = xs1.take 2) := ⟨_, rfl⟩
    obtain ⟨Y1, hY1⟩ : ∃ X, Hid (X = ys1.take 2) := ⟨_, rfl⟩
    obtain ⟨X2, hX2⟩ : ∃ X, Hid (X = xs2.take 2) := ⟨_, rfl⟩
    obtain ⟨Y2, hY2⟩ : ∃ X, Hid (X = ys2.take 2) := ⟨_, rfl⟩
    rw [← hX1.out] at L1; rw [← hY1.out] at M1; rw [← hX2.out] at L2; rw [← hY2.out] at M2
    have P1 := Lib.hid (L1.below bb); have Q1 := Lib.hid (M1.below bb); have P2 := Lib.hid (L2.below bb); have Q2 := Lib.hid (M2.below bb)
    obtain ⟨g1, hg1⟩ : ∃ g, Hid (g = w.heap.size) := ⟨_, rfl⟩
    obtain ⟨g2, hg2⟩ : ∃ g, Hid (g = w.heap.size + 1) := ⟨_, rfl⟩
    clear L1 M1 L2 M2 H1 K1 H2 K2 S1 S2 hX1 hY1 hX2 hY2 x0 x1 x2 y0 y1 y2 AA CC BB
    rw [← hg2.out] at C ⊢
    rw [← hg1.out] at A ⊢
    have A := Lib.hid A; have C := Lib.hid C
    have BV := Lib.hid bb
    obtain ⟨V, hV⟩ : ∃ V, V = wc := ⟨_, rfl⟩
    rw [← hV] at A C BV P1 Q1 P2 Q2 ⊢
    clear hV bb
    obtain ⟨ra, hra⟩ : ∃ x, Hid (x = (⟨s1, val X1, val Y1⟩ : R)) := ⟨_, rfl⟩
    obtain ⟨rb, hrb⟩ : ∃ x, Hid (x = (⟨s2, val X2, val Y2⟩ : R)) := ⟨_, rfl⟩
    obtain ⟨zx, hzx⟩ : ∃ x, Hid (x = nf ra) := ⟨_, rfl⟩
    obtain ⟨zy, hzy⟩ : ∃ x, Hid (x = nf rb) := ⟨_, rfl⟩
    have HF1 := Lib.hid (fun (W : World) (hb : Below V.heap.size V W) => from2b_c s1 a1 b1 p1 c1 q1 d1 X1 Y1 2 W (P1.out.below hb) (Q1.out.below hb) hp1 hq1 (by omega))
    have HF2 := Lib.hid (fun (W : World) (hb : Below V.heap.size V W) => from2b_c s2 a2 b2 p2 c2 q2 d2 X2 Y2 2 W (P2.out.below hb) (Q2.out.below hb) hp2 hq2 (by omega))
    obtain ⟨i0, i1, i2⟩ := A.out.cells3
    obtain ⟨ii0, ii1, ii2⟩ := C.out.cells3
    go_wp2_with fail
    have BV0_ : Below V.heap.size V V.drew := (Below.refl _ _).drew
    have BV1_ : Below V.heap.size V (V.alloc (.cells #[.bool false, .slice none 0 0, .slice none 0 0] 30)).drew := ((Below.refl _ _).alloc (Nat.le_refl _) _).drew
    have BV2_ : Below V.heap.size V ((V.alloc (.cells #[.bool false, .slice none 0 0, .slice none 0 0] 30)).alloc (.cells #[.bool false, .slice none 0 0, .slice none 0 0] 30)).drew := (((Below.refl _ _).alloc (Nat.le_refl _) _).alloc (by simp) _).drew
    have k1a_ : Blk (V.alloc (.cells #[.bool false, .slice none 0 0, .slice none 0 0] 30)).drew V.heap.size 30 #[.bool false, .slice none 0 0, .slice none 0 0] := Blk.new V _ _
    have k2a_ : Blk ((V.alloc (.cells #[.bool false, .slice none 0 0, .slice none 0 0] 30)).alloc (.cells #[.bool false, .slice none 0 0, .slice none 0 0] 30)).drew V.heap.size 30 #[.bool false, .slice none 0 0, .slice none 0 0] := (Blk.new V _ _).alloc _
    have k2b_ : Blk ((V.alloc (.cells #[.bool false, .slice none 0 0, .slice none 0 0] 30)).alloc (.cells #[.bool false, .slice none 0 0, .slice none 0 0] 30)).drew (V.heap.size + 1) 30 #[.bool false, .slice none 0 0, .slice none 0 0] := (by have := Blk.new (V.alloc (.cells #[.bool false, .slice none 0 0, .slice none 0 0] 30)) 30 #[.bool false, .slice none 0 0, .slice none 0 0]; rwa [show (V.alloc (.cells #[.bool false, .slice none 0 0, .slice none 0 0] 30)).heap.size = V.heap.size + 1 by simp] at this)
    obtain ⟨nA00, nA01, nA02⟩ := (A.out.on BV0_).cells3
    obtain ⟨nC00, nC01, nC02⟩ := (C.out.on BV0_).cells3
    obtain ⟨nA10, nA11, nA12⟩ := (A.out.on BV1_).cells3
    obtain ⟨nC10, nC11, nC12⟩ := (C.out.on BV1_).cells3
    obtain ⟨nA20, nA21, nA22⟩ := (A.out.on BV2_).cells3
    obtain ⟨nC20, nC21, nC22⟩ := (C.out.on BV2_).cells3
    go_cut [5, 6] (fun s5 s6 wx => ∃ gx gy : Nat, s5 = .pointer (some ⟨gx, 0, none⟩) ∧ s6 = .pointer (some ⟨gy, 0, none⟩) ∧ D2At V zx zy 65 wx gx gy)
    case first =>
      go_region_held3 (fun w' => w'.cell? ⟨g1, 0, none⟩ = some (.bool s1) ∧ w'.cell? ⟨g1, 1, none⟩ = some (.slice a1 p1 c1) ∧ w'.cell? ⟨g1, 2, none⟩ = some (.slice b1 q1 d1) ∧ w'.cell? ⟨g2, 0, none⟩ = some (.bool s2) ∧ w'.cell? ⟨g2, 1, none⟩ = some (.slice a2 p2 c2) ∧ w'.cell? ⟨g2, 2, none⟩ = some (.slice b2 q2 d2)) (go_keep) (first
        | (go_at_call_of 7 (Value.slice a1 p1 c1); have hc := HF1.out V.drew BV0_; rw [← hra.out, ← hzx.out] at hc; (with_reducible refine (hc).mono ?_); rintro e v10 ⟨t1, a3, n3, c3, b3, m3, d3, rfl, rfl, o1, o2, hn3, hm3, B10_⟩; clear hc; have BV10_ := BV0_.trans (B10_.mono BV0_.size); obtain ⟨Ac000, Ac001, Ac002⟩ := (A.out.on BV10_).cells3; obtain ⟨Cc000, Cc001, Cc002⟩ := (C.out.on BV10_).cells3; have bz01_ : Below v10.heap.size v10 (v10.alloc (.cells #[.bool false, .slice none 0 0, .slice none 0 0] 30)) := (Below.refl _ _).alloc (Nat.le_refl _) _; have BV101_ := BV10_.trans (bz01_.mono BV10_.size); have q01a_ : Blk (v10.alloc (.cells #[.bool false, .slice none 0 0, .slice none 0 0] 30)) v10.heap.size 30 #[.bool false, .slice none 0 0, .slice none 0 0] := Blk.new v10 _ _; obtain ⟨Ac010, Ac011, Ac012⟩ := (A.out.on BV101_).cells3; obtain ⟨Cc010, Cc011, Cc012⟩ := (C.out.on BV101_).cells3; have bz02_ : Below v10.heap.size v10 ((v10.alloc (.cells #[.bool false, .slice none 0 0, .slice none 0 0] 30)).alloc (.cells #[.bool false, .slice none 0 0, .slice none 0 0] 30)) := ((Below.refl _ _).alloc (Nat.le_refl _) _).alloc (by simp) _; have BV102_ := BV10_.trans (bz02_.mono BV10_.size); have q02a_ : Blk ((v10.alloc (.cells #[.bool false, .slice none 0 0, .slice none 0 0] 30)).alloc (.cells #[.bool false, .slice none 0 0, .slice none 0 0] 30)) v10.heap.size 30 #[.bool false, .slice none 0 0, .slice none 0 0] := (Blk.new v10 _ _).alloc _; have q02b_ : Blk ((v10.alloc (.cells #[.bool false, .slice none 0 0, .slice none 0 0] 30)).alloc (.cells #[.bool false, .slice none 0 0, .slice none 0 0] 30)) (v10.heap.size + 1) 30 #[.bool false, .slice none 0 0, .slice none 0 0] := (by have := Blk.new (v10.alloc (.cells #[.bool false, .slice none 0 0, .slice none 0 0] 30)) 30 #[.bool false, .slice none 0 0, .slice none 0 0]; rwa [show (v10.alloc (.cells #[.bool false, .slice none 0 0, .slice none 0 0] 30)).heap.size = v10.heap.size + 1 by simp] at this); obtain ⟨Ac020, Ac021, Ac022⟩ := (A.out.on BV102_).cells3; obtain ⟨Cc020, Cc021, Cc022⟩ := (C.out.on BV102_).cells3)
        | (go_at_call_of 7 (Value.slice a1 p1 c1); have hc := HF1.out (V.alloc (.cells #[.bool false, .slice none 0 0, .slice none 0 0] 30)).drew BV1_; rw [← hra.out, ← hzx.out] at hc; (with_reducible refine (hc).mono ?_); rintro e v11 ⟨t1, a3, n3, c3, b3, m3, d3, rfl, rfl, o1, o2, hn3, hm3, B11_⟩; clear hc; have m1a_ := k1a_.on B11_; have BV11_ := BV1_.trans (B11_.mono BV1_.size); obtain ⟨Ac100, Ac101, Ac102⟩ := (A.out.on BV11_).cells3; obtain ⟨Cc100, Cc101, Cc102⟩ := (C.out.on BV11_).cells3; have bz11_ : Below v11.heap.size v11 (v11.alloc (.cells #[.bool false, .slice none 0 0, .slice none 0 0] 30)) := (Below.refl _ _).alloc (Nat.le_refl _) _; have BV111_ := BV11_.trans (bz11_.mono BV11_.size); have m1a_z11 := m1a_.on bz11_; have q11a_ : Blk (v11.alloc (.cells #[.bool false, .slice none 0 0, .slice none 0 0] 30)) v11.heap.size 30 #[.bool false, .slice none 0 0, .slice none 0 0] := Blk.new v11 _ _; obtain ⟨Ac110, Ac111, Ac112⟩ := (A.out.on BV111_).cells3; obtain ⟨Cc110, Cc111, Cc112⟩ := (C.out.on BV111_).cells3)
        | (go_at_call_of 7 (Value.slice a1 p1 c1); have hc := HF1.out ((V.alloc (.cells #[.bool false, .slice none 0 0, .slice none 0 0] 30)).alloc (.cells #[.bool false, .slice none 0 0, .slice none 0 0] 30)).drew BV2_; rw [← hra.out, ← hzx.out] at hc; (with_reducible refine (hc).mono ?_); rintro e v12 ⟨t1, a3, n3, c3, b3, m3, d3, rfl, rfl, o1, o2, hn3, hm3, B12_⟩; clear hc; have m2a_ := k2a_.on B12_; have m2b_ := k2b_.on B12_; have BV12_ := BV2_.trans (B12_.mono BV2_.size); obtain ⟨Ac200, Ac201, Ac202⟩ := (A.out.on BV12_).cells3; obtain ⟨Cc200, Cc201, Cc202⟩ := (C.out.on BV12_).cells3)
        | (go_at_call_of 7 (Value.slice a2 p2 c2); have hc := HF2.out v10 BV10_; rw [← hrb.out, ← hzy.out] at hc; (with_reducible refine (hc).mono ?_); rintro e v200 ⟨t2, a4, n4, c4, b4, m4, d4, rfl, rfl, o3, o4, hn4, hm4, B200_⟩; clear hc; have BV200_ := BV10_.trans (B200_.mono BV10_.size); obtain ⟨Ad000, Ad001, Ad002⟩ := (A.out.on BV200_).cells3; obtain ⟨Cd000, Cd001, Cd002⟩ := (C.out.on BV200_).cells3; have hs100 : V.heap.size + 0 ≤ v10.heap.size := (by have := B10_.size; simpa using this); have hs200 : v10.heap.size + 0 ≤ v200.heap.size := (by have := B200_.size; simpa using this); have N00 := Lib.hid (nums00 (ga := v200.heap.size) (gb := v200.heap.size + 1) hs100 hs200 A.out.lt C.out.lt rfl rfl); clear hs100 hs200; have ea00 := N00.out.2.2.2.2.2.2.1; have neA000 := N00.out.2.2.2.2.2.2.2.1; have neA001 := N00.out.2.2.2.2.2.2.2.2.1; have neC000 := N00.out.2.2.2.2.2.2.2.2.2.1; have neC001 := N00.out.2.2.2.2.2.2.2.2.2.2; have bf00 : Below v200.heap.size v200 ((v200.alloc (.cells #[.bool false, .slice none 0 0, .slice none 0 0] 30)).alloc (.cells #[.bool false, .slice none 0 0, .slice none 0 0] 30)) := ((Below.refl _ _).alloc (Nat.le_refl _) _).alloc (by simp) _; have BVf00 := BV200_.trans (bf00.mono BV200_.size); have kf00a : Blk ((v200.alloc (.cells #[.bool false, .slice none 0 0, .slice none 0 0] 30)).alloc (.cells #[.bool false, .slice none 0 0, .slice none 0 0] 30)) v200.heap.size 30 #[.bool false, .slice none 0 0, .slice none 0 0] := (Blk.new v200 _ _).alloc _; have kf00b : Blk ((v200.alloc (.cells #[.bool false, .slice none 0 0, .slice none 0 0] 30)).alloc (.cells #[.bool false, .slice none 0 0, .slice none 0 0] 30)) (v200.heap.size + 1) 30 #[.bool false, .slice none 0 0, .slice none 0 0] := blk_up _ _ _ _; have w100 := (o1.low (show V.heap.size + 0 ≤ _ by simp)); have w200 := (o2.low (show V.heap.size + 0 ≤ _ by simp)); have w300 := (o3.low (show v10.heap.size + 0 ≤ _ by simp)); have w400 := (o4.low (show v10.heap.size + 0 ≤ _ by simp)); have z100 := w100.kept B200_; have z200 := w200.kept B200_; have z300 := w300; have z400 := w400; have p100 := z100.kept bf00; have p200 := z200.kept bf00; have p300 := z300.kept bf00; have p400 := z400.kept bf00; have fin1 := Lib.hid (D2At.newA (K := 65) BV200_ z100 z200 z300 z400 hn3 hm3 hn4 hm4); have fin2 := Lib.hid (D2At.newB (K := 65) BV200_ z100 z200 z300 z400 hn3 hm3 hn4 hm4); have enA000 := neA000.symm; have enA001 := neA001.symm; have enC000 := neC000.symm; have enC001 := neC001.symm)
        | (go_at_call_of 7 (Value.slice a2 p2 c2); have hc := HF2.out (v10.alloc (.cells #[.bool false, .slice none 0 0, .slice none 0 0] 30)) BV101_; rw [← hrb.out, ← hzy.out] at hc; (with_reducible refine (hc).mono ?_); rintro e v201 ⟨t2, a4, n4, c4, b4, m4, d4, rfl, rfl, o3, o4, hn4, hm4, B201_⟩; clear hc; have BV201_ := BV101_.trans (B201_.mono BV101_.size); obtain ⟨Ad010, Ad011, Ad012⟩ := (A.out.on BV201_).cells3; obtain ⟨Cd010, Cd011, Cd012⟩ := (C.out.on BV201_).cells3; have q01a_u01 := q01a_.on B201_; have hs101 : V.heap.size + 0 ≤ v10.heap.size := (by have := B10_.size; simpa using this); have hs201 : v10.heap.size + 1 ≤ v201.heap.size := (by have := B201_.size; simpa using this); obtain ⟨ga01, hga01⟩ : ∃ g, Hid (g = v10.heap.size) := ⟨_, rfl⟩; rw [← hga01.out]; have nq01a_u01 : Blk v201 ga01 30 #[.bool false, .slice none 0 0, .slice none 0 0] := (by rw [hga01.out]; exact q01a_u01); clear q01a_u01; have N01 := Lib.hid (nums01 (ga := ga01) (gb := v201.heap.size) hs101 hs201 A.out.lt C.out.lt hga01.out rfl); clear hs101 hs201; have ea01 := N01.out.2.2.2.2.2.2.1; have neA010 := N01.out.2.2.2.2.2.2.2.1; have neA011 := N01.out.2.2.2.2.2.2.2.2.1; have neC010 := N01.out.2.2.2.2.2.2.2.2.2.1; have neC011 := N01.out.2.2.2.2.2.2.2.2.2.2; have bf01 : Below v201.heap.size v201 (v201.alloc (.cells #[.bool false, .slice none 0 0, .slice none 0 0] 30)) := (Below.refl _ _).alloc (Nat.le_refl _) _; have BVf01 := BV201_.trans (bf01.mono BV201_.size); have nq01a_u01f := nq01a_u01.on bf01; have kf01a : Blk (v201.alloc (.cells #[.bool false, .slice none 0 0, .slice none 0 0] 30)) v201.heap.size 30 #[.bool false, .slice none 0 0, .slice none 0 0] := Blk.new v201 _ _; have w101 := (o1.low (show V.heap.size + 0 ≤ _ by simp)); have w201 := (o2.low (show V.heap.size + 0 ≤ _ by simp)); have w301 := (o3.low (show v10.heap.size + 1 ≤ _ by simp)); have w401 := (o4.low (show v10.heap.size + 1 ≤ _ by simp)); have z101 := (w101.kept bz01_).kept B201_; have z201 := (w201.kept bz01_).kept B201_; have z301 := w301; have z401 := w401; have p101 := z101.kept bf01; have p201 := z201.kept bf01; have p301 := z301.kept bf01; have p401 := z401.kept bf01; have fin3 := (D2At.newC (K := 65) nq01a_u01 BV201_ N01.out.2.2.2.2.1 z101 z201 z301 z401 (w101.away N01.out.1) (w201.away N01.out.1) (w301.away N01.out.2.2.1) (w401.away N01.out.2.2.1) hn3 hm3 hn4 hm4); unfold put3 at fin3; have fin3 := Lib.hid fin3; have eb01 := ea01.symm; have enA010 := neA010.symm; have enA011 := neA011.symm; have enC010 := neC010.symm; have enC011 := neC011.symm; have fin1 := (D2At.mk (K := 65) nq01a_u01f kf01a ea01 BVf01 N01.out.2.2.2.2.1 N01.out.2.2.2.2.2.1 p101 p201 p301 p401 (w101.away N01.out.1) (w201.away N01.out.1) (w301.away N01.out.2.2.1) (w401.away N01.out.2.2.1) (w101.away N01.out.2.1) (w201.away N01.out.2.1) (w301.away N01.out.2.2.2.1) (w401.away N01.out.2.2.2.1) hn3 hm3 hn4 hm4); have fin2 := (D2At.mk (K := 65) kf01a nq01a_u01f eb01 BVf01 N01.out.2.2.2.2.2.1 N01.out.2.2.2.2.1 p101 p201 p301 p401 (w101.away N01.out.2.1) (w201.away N01.out.2.1) (w301.away N01.out.2.2.2.1) (w401.away N01.out.2.2.2.1) (w101.away N01.out.1) (w201.away N01.out.1) (w301.away N01.out.2.2.1) (w401.away N01.out.2.2.1) hn3 hm3 hn4 hm4); unfold put3 at fin1 fin2; have fin1 := Lib.hid fin1; have fin2 := Lib.hid fin2; have kX01 := nq01a_u01.alloc (.cells #[.bool zx.s, .slice a3 n3 c3, .slice b3 m3 d3] 30); obtain ⟨c1010, c1011, c1012⟩ := nq01a_u01f.cells3; have d1010 := nq01a_u01f.frozen 0; have d1011 := nq01a_u01f.frozen 1; have d1012 := nq01a_u01f.frozen 2; obtain ⟨c2010, c2011, c2012⟩ := kf01a.cells3; have d2010 := kf01a.frozen 0; have d2011 := kf01a.frozen 1; have d2012 := kf01a.frozen 2; obtain ⟨c3010, c3011, c3012⟩ := nq01a_u01.cells3; have d3010 := nq01a_u01.frozen 0; have d3011 := nq01a_u01.frozen 1; have d3012 := nq01a_u01.frozen 2; obtain ⟨c4010, c4011, c4012⟩ := kX01.cells3; have d4010 := kX01.frozen 0; have d4011 := kX01.frozen 1; have d4012 := kX01.frozen 2)
        | (go_at_call_of 7 (Value.slice a2 p2 c2); have hc := HF2.out ((v10.alloc (.cells #[.bool false, .slice none 0 0, .slice none 0 0] 30)).alloc (.cells #[.bool false, .slice none 0 0, .slice none 0 0] 30)) BV102_; rw [← hrb.out, ← hzy.out] at hc; (with_reducible refine (hc).mono ?_); rintro e v202 ⟨t2, a4, n4, c4, b4, m4, d4, rfl, rfl, o3, o4, hn4, hm4, B202_⟩; clear hc; have BV202_ := BV102_.trans (B202_.mono BV102_.size); obtain ⟨Ad020, Ad021, Ad022⟩ := (A.out.on BV202_).cells3; obtain ⟨Cd020, Cd021, Cd022⟩ := (C.out.on BV202_).cells3; have q02a_u02 := q02a_.on B202_; have q02b_u02 := q02b_.on B202_; have hs102 : V.heap.size + 0 ≤ v10.heap.size := (by have := B10_.size; simpa using this); have hs202 : v10.heap.size + 2 ≤ v202.heap.size := (by have := B202_.size; simpa using this); obtain ⟨ga02, hga02⟩ : ∃ g, Hid (g = v10.heap.size) := ⟨_, rfl⟩; obtain ⟨gb02, hgb02⟩ : ∃ g, Hid (g = v10.heap.size + 1) := ⟨_, rfl⟩; rw [← hgb02.out]; rw [← hga02.out]; have nq02a_u02 : Blk v202 ga02 30 #[.bool false, .slice none 0 0, .slice none 0 0] := (by rw [hga02.out]; exact q02a_u02); clear q02a_u02; have nq02b_u02 : Blk v202 gb02 30 #[.bool false, .slice none 0 0, .slice none 0 0] := (by rw [hgb02.out]; exact q02b_u02); clear q02b_u02; have N02 := Lib.hid (nums02 (ga := ga02) (gb := gb02) hs102 hs202 A.out.lt C.out.lt hga02.out hgb02.out); clear hs102 hs202; have ea02 := N02.out.2.2.2.2.2.2.1; have neA020 := N02.out.2.2.2.2.2.2.2.1; have neA021 := N02.out.2.2.2.2.2.2.2.2.1; have neC020 := N02.out.2.2.2.2.2.2.2.2.2.1; have neC021 := N02.out.2.2.2.2.2.2.2.2.2.2; have w102 := (o1.low (show V.heap.size + 0 ≤ _ by simp)); have w202 := (o2.low (show V.heap.size + 0 ≤ _ by simp)); have w302 := (o3.low (show v10.heap.size + 2 ≤ _ by simp)); have w402 := (o4.low (show v10.heap.size + 2 ≤ _ by simp)); have z102 := (w102.kept bz02_).kept B202_; have z202 := (w202.kept bz02_).kept B202_; have z302 := w302; have z402 := w402; have p102 := z102; have p202 := z202; have p302 := z302; have p402 := z402; have eb02 := ea02.symm; have enA020 := neA020.symm; have enA021 := neA021.symm; have enC020 := neC020.symm; have enC021 := neC021.symm; have fin1 := (D2At.mk (K := 65) nq02a_u02 nq02b_u02 ea02 BV202_ N02.out.2.2.2.2.1 N02.out.2.2.2.2.2.1 p102 p202 p302 p402 (w102.away N02.out.1) (w202.away N02.out.1) (w302.away N02.out.2.2.1) (w402.away N02.out.2.2.1) (w102.away N02.out.2.1) (w202.away N02.out.2.1) (w302.away N02.out.2.2.2.1) (w402.away N02.out.2.2.2.1) hn3 hm3 hn4 hm4); have fin2 := (D2At.mk (K := 65) nq02b_u02 nq02a_u02 eb02 BV202_ N02.out.2.2.2.2.2.1 N02.out.2.2.2.2.1 p102 p202 p302 p402 (w102.away N02.out.2.1) (w202.away N02.out.2.1) (w302.away N02.out.2.2.2.1) (w402.away N02.out.2.2.2.1) (w102.away N02.out.1) (w202.away N02.out.1) (w302.away N02.out.2.2.1) (w402.away N02.out.2.2.1) hn3 hm3 hn4 hm4); unfold put3 at fin1 fin2; have fin1 := Lib.hid fin1; have fin2 := Lib.hid fin2; obtain ⟨c1020, c1021, c1022⟩ := nq02a_u02.cells3; have d1020 := nq02a_u02.frozen 0; have d1021 := nq02a_u02.frozen 1; have d1022 := nq02a_u02.frozen 2; obtain ⟨c2020, c2021, c2022⟩ := nq02b_u02.cells3; have d2020 := nq02b_u02.frozen 0; have d2021 := nq02b_u02.frozen 1; have d2022 := nq02b_u02.frozen 2)
        | (go_at_call_of 7 (Value.slice a2 p2 c2); have hc := HF2.out v11 BV11_; rw [← hrb.out, ← hzy.out] at hc; (with_reducible refine (hc).mono ?_); rintro e v210 ⟨t2, a4, n4, c4, b4, m4, d4, rfl, rfl, o3, o4, hn4, hm4, B210_⟩; clear hc; have BV210_ := BV11_.trans (B210_.mono BV11_.size); obtain ⟨Ad100, Ad101, Ad102⟩ := (A.out.on BV210_).cells3; obtain ⟨Cd100, Cd101, Cd102⟩ := (C.out.on BV210_).cells3; have m1a_u10 := m1a_.on B210_; have hs110 : V.heap.size + 1 ≤ v11.heap.size := (by have := B11_.size; simpa using this); have hs210 : v11.heap.size + 0 ≤ v210.heap.size := (by have := B210_.size; simpa using this); obtain ⟨ga10, hga10⟩ : ∃ g, Hid (g = V.heap.size) := ⟨_, rfl⟩; rw [← hga10.out]; have nm1a_u10 : Blk v210 ga10 30 #[.bool false, .slice none 0 0, .slice none 0 0] := (by rw [hga10.out]; exact m1a_u10); clear m1a_u10; have N10 := Lib.hid (nums10 (ga := ga10) (gb := v210.heap.size) hs110 hs210 A.out.lt C.out.lt hga10.out rfl); clear hs110 hs210; have ea10 := N10.out.2.2.2.2.2.2.1; have neA100 := N10.out.2.2.2.2.2.2.2.1; have neA101 := N10.out.2.2.2.2.2.2.2.2.1; have neC100 := N10.out.2.2.2.2.2.2.2.2.2.1; have neC101 := N10.out.2.2.2.2.2.2.2.2.2.2; have bf10 : Below v210.heap.size v210 (v210.alloc (.cells #[.bool false, .slice none 0 0, .slice none 0 0] 30)) := (Below.refl _ _).alloc (Nat.le_refl _) _; have BVf10 := BV210_.trans (bf10.mono BV210_.size); have nm1a_u10f := nm1a_u10.on bf10; have kf10a : Blk (v210.alloc (.cells #[.bool false, .slice none 0 0, .slice none 0 0] 30)) v210.heap.size 30 #[.bool false, .slice none 0 0, .slice none 0 0] := Blk.new v210 _ _; have w110 := (o1.low (show V.heap.size + 1 ≤ _ by simp)); have w210 := (o2.low (show V.heap.size + 1 ≤ _ by simp)); have w310 := (o3.low (show v11.heap.size + 0 ≤ _ by simp)); have w410 := (o4.low (show v11.heap.size + 0 ≤ _ by simp)); have z110 := w110.kept B210_; have z210 := w210.kept B210_; have z310 := w310; have z410 := w410; have p110 := z110.kept bf10; have p210 := z210.kept bf10; have p310 := z310.kept bf10; have p410 := z410.kept bf10; have fin3 := (D2At.newC (K := 65) nm1a_u10 BV210_ N10.out.2.2.2.2.1 z110 z210 z310 z410 (w110.away N10.out.1) (w210.away N10.out.1) (w310.away N10.out.2.2.1) (w410.away N10.out.2.2.1) hn3 hm3 hn4 hm4); unfold put3 at fin3; have fin3 := Lib.hid fin3; have eb10 := ea10.symm; have enA100 := neA100.symm; have enA101 := neA101.symm; have enC100 := neC100.symm; have enC101 := neC101.symm; have fin1 := (D2At.mk (K := 65) nm1a_u10f kf10a ea10 BVf10 N10.out.2.2.2.2.1 N10.out.2.2.2.2.2.1 p110 p210 p310 p410 (w110.away N10.out.1) (w210.away N10.out.1) (w310.away N10.out.2.2.1) (w410.away N10.out.2.2.1) (w110.away N10.out.2.1) (w210.away N10.out.2.1) (w310.away N10.out.2.2.2.1) (w410.away N10.out.2.2.2.1) hn3 hm3 hn4 hm4); have fin2 := (D2At.mk (K := 65) kf10a nm1a_u10f eb10 BVf10 N10.out.2.2.2.2.2.1 N10.out.2.2.2.2.1 p110 p210 p310 p410 (w110.away N10.out.2.1) (w210.away N10.out.2.1) (w310.away N10.out.2.2.2.1) (w410.away N10.out.2.2.2.1) (w110.away N10.out.1) (w210.away N10.out.1) (w310.away N10.out.2.2.1) (w410.away N10.out.2.2.1) hn3 hm3 hn4 hm4); unfold put3 at fin1 fin2; have fin1 := Lib.hid fin1; have fin2 := Lib.hid fin2; have kX10 := nm1a_u10.alloc (.cells #[.bool zx.s, .slice a3 n3 c3, .slice b3 m3 d3] 30); obtain ⟨c1100, c1101, c1102⟩ := nm1a_u10f.cells3; have d1100 := nm1a_u10f.frozen 0; have d1101 := nm1a_u10f.frozen 1; have d1102 := nm1a_u10f.frozen 2; obtain ⟨c2100, c2101, c2102⟩ := kf10a.cells3; have d2100 := kf10a.frozen 0; have d2101 := kf10a.frozen 1; have d2102 := kf10a.frozen 2; obtain ⟨c3100, c3101, c3102⟩ := nm1a_u10.cells3; have d3100 := nm1a_u10.frozen 0; have d3101 := nm1a_u10.frozen 1; have d3102 := nm1a_u10.frozen 2; obtain ⟨c4100, c4101, c4102⟩ := kX10.cells3; have d4100 := kX10.frozen 0; have d4101 := kX10.frozen 1; have d4102 := kX10.frozen 2)
        | (go_at_call_of 7 (Value.slice a2 p2 c2); have hc := HF2.out (v11.alloc (.cells #[.bool false, .slice none 0 0, .slice none 0 0] 30)) BV111_; rw [← hrb.out, ← hzy.out] at hc; (with_reducible refine (hc).mono ?_); rintro e v211 ⟨t2, a4, n4, c4, b4, m4, d4, rfl, rfl, o3, o4, hn4, hm4, B211_⟩; clear hc; have BV211_ := BV111_.trans (B211_.mono BV111_.size); obtain ⟨Ad110, Ad111, Ad112⟩ := (A.out.on BV211_).cells3; obtain ⟨Cd110, Cd111, Cd112⟩ := (C.out.on BV211_).cells3; have m1a_z11u11 := m1a_z11.on B211_; have q11a_u11 := q11a_.on B211_; have hs111 : V.heap.size + 1 ≤ v11.heap.size := (by have := B11_.size; simpa using this); have hs211 : v11.heap.size + 1 ≤ v211.heap.size := (by have := B211_.size; simpa using this); obtain ⟨ga11, hga11⟩ : ∃ g, Hid (g = V.heap.size) := ⟨_, rfl⟩; obtain ⟨gb11, hgb11⟩ : ∃ g, Hid (g = v11.heap.size) := ⟨_, rfl⟩; rw [← hgb11.out]; rw [← hga11.out]; have nm1a_z11u11 : Blk v211 ga11 30 #[.bool false, .slice none 0 0, .slice none 0 0] := (by rw [hga11.out]; exact m1a_z11u11); clear m1a_z11u11; have nq11a_u11 : Blk v211 gb11 30 #[.bool false, .slice none 0 0, .slice none 0 0] := (by rw [hgb11.out]; exact q11a_u11); clear q11a_u11; have N11 := Lib.hid (nums11 (ga := ga11) (gb := gb11) hs111 hs211 A.out.lt C.out.lt hga11.out hgb11.out); clear hs111 hs211; have ea11 := N11.out.2.2.2.2.2.2.1; have neA110 := N11.out.2.2.2.2.2.2.2.1; have neA111 := N11.out.2.2.2.2.2.2.2.2.1; have neC110 := N11.out.2.2.2.2.2.2.2.2.2.1; have neC111 := N11.out.2.2.2.2.2.2.2.2.2.2; have w111 := (o1.low (show V.heap.size + 1 ≤ _ by simp)); have w211 := (o2.low (show V.heap.size + 1 ≤ _ by simp)); have w311 := (o3.low (show v11.heap.size + 1 ≤ _ by simp)); have w411 := (o4.low (show v11.heap.size + 1 ≤ _ by simp)); have z111 := (w111.kept bz11_).kept B211_; have z211 := (w211.kept bz11_).kept B211_; have z311 := w311; have z411 := w411; have p111 := z111; have p211 := z211; have p311 := z311; have p411 := z411; have eb11 := ea11.symm; have enA110 := neA110.symm; have enA111 := neA111.symm; have enC110 := neC110.symm; have enC111 := neC111.symm; have fin1 := (D2At.mk (K := 65) nm1a_z11u11 nq11a_u11 ea11 BV211_ N11.out.2.2.2.2.1 N11.out.2.2.2.2.2.1 p111 p211 p311 p411 (w111.away N11.out.1) (w211.away N11.out.1) (w311.away N11.out.2.2.1) (w411.away N11.out.2.2.1) (w111.away N11.out.2.1) (w211.away N11.out.2.1) (w311.away N11.out.2.2.2.1) (w411.away N11.out.2.2.2.1) hn3 hm3 hn4 hm4); have fin2 := (D2At.mk (K := 65) nq11a_u11 nm1a_z11u11 eb11 BV211_ N11.out.2.2.2.2.2.1 N11.out.2.2.2.2.1 p111 p211 p311 p411 (w111.away N11.out.2.1) (w211.away N11.out.2.1) (w311.away N11.out.2.2.2.1) (w411.away N11.out.2.2.2.1) (w111.away N11.out.1) (w211.away N11.out.1) (w311.away N11.out.2.2.1) (w411.away N11.out.2.2.1) hn3 hm3 hn4 hm4); unfold put3 at fin1 fin2; have fin1 := Lib.hid fin1; have fin2 := Lib.hid fin2; obtain ⟨c1110, c1111, c1112⟩ := nm1a_z11u11.cells3; have d1110 := nm1a_z11u11.frozen 0; have d1111 := nm1a_z11u11.frozen 1; have d1112 := nm1a_z11u11.frozen 2; obtain ⟨c2110, c2111, c2112⟩ := nq11a_u11.cells3; have d2110 := nq11a_u11.frozen 0; have d2111 := nq11a_u11.frozen 1; have d2112 := nq11a_u11.frozen 2)
        | (go_at_call_of 7 (Value.slice a2 p2 c2); have hc := HF2.out v12 BV12_; rw [← hrb.out, ← hzy.out] at hc; (with_reducible refine (hc).mono ?_); rintro e v220 ⟨t2, a4, n4, c4, b4, m4, d4, rfl, rfl, o3, o4, hn4, hm4, B220_⟩; clear hc; have BV220_ := BV12_.trans (B220_.mono BV12_.size); obtain ⟨Ad200, Ad201, Ad202⟩ := (A.out.on BV220_).cells3; obtain ⟨Cd200, Cd201, Cd202⟩ := (C.out.on BV220_).cells3; have m2a_u20 := m2a_.on B220_; have m2b_u20 := m2b_.on B220_; have hs120 : V.heap.size + 2 ≤ v12.heap.size := (by have := B12_.size; simpa using this); have hs220 : v12.heap.size + 0 ≤ v220.heap.size := (by have := B220_.size; simpa using this); obtain ⟨ga20, hga20⟩ : ∃ g, Hid (g = V.heap.size) := ⟨_, rfl⟩; obtain ⟨gb20, hgb20⟩ : ∃ g, Hid (g = V.heap.size + 1) := ⟨_, rfl⟩; rw [← hgb20.out]; rw [← hga20.out]; have nm2a_u20 : Blk v220 ga20 30 #[.bool false, .slice none 0 0, .slice none 0 0] := (by rw [hga20.out]; exact m2a_u20); clear m2a_u20; have nm2b_u20 : Blk v220 gb20 30 #[.bool false, .slice none 0 0, .slice none 0 0] := (by rw [hgb20.out]; exact m2b_u20); clear m2b_u20; have N20 := Lib.hid (nums20 (ga := ga20) (gb := gb20) hs120 hs220 A.out.lt C.out.lt hga20.out hgb20.out); clear hs120 hs220; have ea20 := N20.out.2.2.2.2.2.2.1; have neA200 := N20.out.2.2.2.2.2.2.2.1; have neA201 := N20.out.2.2.2.2.2.2.2.2.1; have neC200 := N20.out.2.2.2.2.2.2.2.2.2.1; have neC201 := N20.out.2.2.2.2.2.2.2.2.2.2; have w120 := (o1.low (show V.heap.size + 2 ≤ _ by simp)); have w220 := (o2.low (show V.heap.size + 2 ≤ _ by simp)); have w320 := (o3.low (show v12.heap.size + 0 ≤ _ by simp)); have w420 := (o4.low (show v12.heap.size + 0 ≤ _ by simp)); have z120 := w120.kept B220_; have z220 := w220.kept B220_; have z320 := w320; have z420 := w420; have p120 := z120; have p220 := z220; have p320 := z320; have p420 := z420; have eb20 := ea20.symm; have enA200 := neA200.symm; have enA201 := neA201.symm; have enC200 := neC200.symm; have enC201 := neC201.symm; have fin1 := (D2At.mk (K := 65) nm2a_u20 nm2b_u20 ea20 BV220_ N20.out.2.2.2.2.1 N20.out.2.2.2.2.2.1 p120 p220 p320 p420 (w120.away N20.out.1) (w220.away N20.out.1) (w320.away N20.out.2.2.1) (w420.away N20.out.2.2.1) (w120.away N20.out.2.1) (w220.away N20.out.2.1) (w320.away N20.out.2.2.2.1) (w420.away N20.out.2.2.2.1) hn3 hm3 hn4 hm4); have fin2 := (D2At.mk (K := 65) nm2b_u20 nm2a_u20 eb20 BV220_ N20.out.2.2.2.2.2.1 N20.out.2.2.2.2.1 p120 p220 p320 p420 (w120.away N20.out.2.1) (w220.away N20.out.2.1) (w320.away N20.out.2.2.2.1) (w420.away N20.out.2.2.2.1) (w120.away N20.out.1) (w220.away N20.out.1) (w320.away N20.out.2.2.1) (w420.away N20.out.2.2.1) hn3 hm3 hn4 hm4); unfold put3 at fin1 fin2; have fin1 := Lib.hid fin1; have fin2 := Lib.hid fin2; obtain ⟨c1200, c1201, c1202⟩ := nm2a_u20.cells3; have d1200 := nm2a_u20.frozen 0; have d1201 := nm2a_u20.frozen 1; have d1202 := nm2a_u20.frozen 2; obtain ⟨c2200, c2201, c2202⟩ := nm2b_u20.cells3; have d2200 := nm2b_u20.frozen 0; have d2201 := nm2b_u20.frozen 1; have d2202 := nm2b_u20.frozen 2))
      all_goals
        go_wp2_with fail
        go_meet
        refine ⟨_, _, rfl, rfl, ?_⟩
        first | (with_reducible exact fin1.out) | (with_reducible exact fin2.out) | (with_reducible exact fin3.out)
    case rest =>
      obtain ⟨gx, gy, rfl, rfl, ax, bx, nx, cx, mx, dx, ay, by', ny, cy, my, dy, KX, LX, MX, hnx, hmx, KY, LY, MY, hny, hmy, hgx, hgy, b2⟩ := hcut
      replace P1 := Lib.hid (P1.out.below b2)
      replace Q1 := Lib.hid (Q1.out.below b2)
      replace P2 := Lib.hid (P2.out.below b2)
      replace Q2 := Lib.hid (Q2.out.below b2)
      replace A := Lib.hid (A.out.on b2)
      replace C := Lib.hid (C.out.on b2)
      replace BV := Lib.hid (BV.out.trans (b2.mono BV.out.size))
      clear HF1 HF2 i0 i1 i2 ii0 ii1 ii2 BV0_ BV1_ BV2_ k1a_ k2a_ k2b_ nA00 nA01 nA02 nA10 nA11 nA12 nA20 nA21 nA22 nC00 nC01 nC02 nC10 nC11 nC12 nC20 nC21 nC22
      have KX := Lib.hid KX; have LX := Lib.hid LX; have MX := Lib.hid MX; have KY := Lib.hid KY; have LY := Lib.hid LY; have MY := Lib.hid MY
      obtain ⟨V2, hV2⟩ : ∃ V2, V2 = wc := ⟨_, rfl⟩
      rw [← hV2] at A C BV P1 Q1 P2 Q2 KX LX MX KY LY MY ⊢
      clear hV2 b2 hgx hgy
      have bX : Hid (zx.p < 2 ^ 65 ∧ zx.q < 2 ^ 65) := by
        show _ ∧ _
        have h1 := val_lt_two P1.out.ok P1.out.len hp1
        have h2 := val_lt_two Q1.out.ok Q1.out.len hq1
        have p1' := nf_p_le ra
        have p2' := nf_q_le ra
        rw [hra.out] at p1' p2'
        rw [hzx.out, hra.out]
        have e : (2 : Nat) ^ (32 * 2) * 2 = 2 ^ 65 := by decide
        simp only at p1' p2'
        omega
      have bY : Hid (zy.p < 2 ^ 65 ∧ zy.q < 2 ^ 65) := by
        show _ ∧ _
        have h1 := val_lt_two P2.out.ok P2.out.len hp2
        have h2 := val_lt_two Q2.out.ok Q2.out.len hq2
        have p1' := nf_p_le rb
        have p2' := nf_q_le rb
        rw [hrb.out] at p1' p2'
        rw [hzy.out, hrb.out]
        have e : (2 : Nat) ^ (32 * 2) * 2 = 2 ^ 65 := by decide
        simp only at p1' p2'
        omega
      obtain ⟨zm, hzm⟩ : ∃ x, Hid (x = nf (ml ra rb)) := ⟨_, rfl⟩
      have HDZ := Lib.hid (fun (W : World) (hb : Below V2.heap.size V2 W) (hz : val X2 = 0 ∨ val Y2 = 0) => rdiv_zero_c s1 s2 a1 b1 a2 b2 p1 c1 q1 d1 p2 c2 q2 d2 2 X1 Y1 X2 Y2 W (P1.out.below hb) (Q1.out.below hb) (P2.out.below hb) (Q2.out.below hb) hp1 hq1 hp2 hq2 (by omega) hz)
      have HDV := Lib.hid (fun (W : World) (hb : Below V2.heap.size V2 W) (h1 : val X2 ≠ 0) (h2 : val Y2 ≠ 0) => rdiv_c s1 s2 a1 b1 a2 b2 p1 c1 q1 d1 p2 c2 q2 d2 2 X1 Y1 X2 Y2 W (P1.out.below hb) (Q1.out.below hb) (P2.out.below hb) (Q2.out.below hb) hp1 hq1 hp2 hq2 (by omega) h1 h2)
      have hyp : zy.p = 0 ↔ val X2 = 0 ∨ val Y2 = 0 := by rw [hzy.out, nf_p, dv_p_zero, hrb.out]
      have hyl := LY.out.len
      obtain ⟨i0, i1, i2⟩ := A.out.cells3
      obtain ⟨ii0, ii1, ii2⟩ := C.out.cells3
      by_cases hz : val X2 = 0 ∨ val Y2 = 0
      · have HZ := Lib.hid hz
        have hny0 : ny = 0 := by rw [← hyl, hyp.2 hz, bitsN_zero]; rfl
        have HN0 := Lib.hid hny0
        have hm0 : zm = ⟨false, 0, 1⟩ := by
          rw [hzm.out]
          refine nf_zero ?_
          rcases hz with h | h
          · left; show ra.p * rb.p = 0; rw [hrb.out]; show ra.p * val X2 = 0; rw [h, Nat.mul_zero]
          · right; show ra.q * rb.q = 0; rw [hrb.out]; show ra.q * val Y2 = 0; rw [h, Nat.mul_zero]
        have HM0 := Lib.hid hm0
        clear hz hny0 hm0 hyp hyl HDV
        go_wp2_with fail
        refine (HDZ.out V2 (Below.refl _ _) HZ.out).mono ?_
        rintro e wc ⟨rfl, bq⟩
        have bz := (Below.refl wc.heap.size wc).alloc (Nat.le_refl _) (.cells #[.bool false, .slice none 0 0, .slice none 0 0] 25)
        have b3 := bq.trans (bz.mono bq.size)
        replace P1 := Lib.hid (P1.out.below b3)
        replace Q1 := Lib.hid (Q1.out.below b3)
        replace P2 := Lib.hid (P2.out.below b3)
        replace Q2 := Lib.hid (Q2.out.below b3)
        replace LX := Lib.hid (LX.out.below b3)
        replace MX := Lib.hid (MX.out.below b3)
        replace LY := Lib.hid (LY.out.below b3)
        replace MY := Lib.hid (MY.out.below b3)
        replace A := Lib.hid (A.out.on b3)
        replace C := Lib.hid (C.out.on b3)
        replace KX := Lib.hid (KX.out.on b3)
        replace KY := Lib.hid (KY.out.on b3)
        replace BV := Lib.hid (BV.out.trans (b3.mono BV.out.size))
        clear HDZ
        have KQ := Lib.hid (Blk.new wc 25 #[.bool false, .slice none 0 0, .slice none 0 0])
        obtain ⟨gq, hgq⟩ : ∃ g, Hid (g = wc.heap.size) := ⟨_, rfl⟩
        rw [← hgq.out] at KQ
        clear i0 i1 i2 ii0 ii1 ii2
        obtain ⟨jn0, jn1, jn2⟩ := KY.out.cells3
        have hN0 := HN0.out
        subst hN0
        clear HN0
        go_wp2_with fail
        obtain ⟨V3, hV3⟩ : ∃ V3, V3 = wc.alloc (.cells #[.bool false, .slice none 0 0, .slice none 0 0] 25) := ⟨_, rfl⟩
        rw [← hV3] at A C BV P1 Q1 P2 Q2 KX LX MX KY LY MY KQ ⊢
        rw [← hgq.out]
        clear hV3 b3 bq bz hgq
        have L1 := P1.out; have M1 := Q1.out; have L2 := P2.out; have M2 := Q2.out
        have EA : BoxAt V3 g1 25 #[.bool s1, .slice a1 p1 c1, .slice b1 q1 d1] := A.out
        have EC : BoxAt V3 g2 25 #[.bool s2, .slice a2 p2 c2, .slice b2 q2 d2] := C.out
        have EQ : BoxAt V3 gq 25 #[.bool false, .slice none 0 0, .slice none 0 0] := KQ.out
        have bb := BV.out
        clear A C KQ KX KY LX MX LY MY P1 Q1 P2 Q2 BV jn0 jn1 jn2
        have HC := Lib.hid (awake2_c V3 (HT.out.below bb))
        go_wp2_with fail
        refine HC.out.mono ?_
        rintro e v1 ⟨rfl, k1⟩
        clear HC
        replace L1 := L1.below k1; replace M1 := M1.below k1; replace L2 := L2.below k1; replace M2 := M2.below k1; replace EA := EA.below k1; replace EC := EC.below k1; replace EQ := EQ.below k1
        replace bb := Below.on bb k1 bb.size
        clear k1
        obtain ⟨uEA1_0, uEA1_1, uEA1_2⟩ := Blk.cells3 EA
        obtain ⟨uEC1_0, uEC1_1, uEC1_2⟩ := Blk.cells3 EC
        obtain ⟨uEQ1_0, uEQ1_1, uEQ1_2⟩ := Blk.cells3 EQ
        have he := eq2_c false false none none none none 0 0 0 0 0 0 0 0 [] [] [] [] v1 (Lst.nil _ _) (Lst.nil _ _) (Lst.nil _ _) (Lst.nil _ _)
        rw [decide_eq_true ⟨rfl, rfl, rfl⟩] at he
        have HC := Lib.hid (he)
        go_wp2_with fail
        refine HC.out.mono ?_
        rintro e v2 ⟨rfl, k2⟩
        clear HC
        replace L1 := L1.below k2; replace M1 := M1.below k2; replace L2 := L2.below k2; replace M2 := M2.below k2; replace EA := EA.below k2; replace EC := EC.below k2; replace EQ := EQ.below k2
        replace bb := Below.on bb k2 bb.size
        clear k2
        clear he
        obtain ⟨uEA2_0, uEA2_1, uEA2_2⟩ := Blk.cells3 EA
        obtain ⟨uEC2_0, uEC2_1, uEC2_2⟩ := Blk.cells3 EC
        obtain ⟨uEQ2_0, uEQ2_1, uEQ2_2⟩ := Blk.cells3 EQ
        have hc := rmul_c s1 s2 _ _ _ _ _ _ _ _ _ _ _ _ 2 X1 Y1 X2 Y2 v2 L1 M1 L2 M2 hp1 hq1 hp2 hq2 (by omega)
        rw [← hra.out, ← hrb.out, ← hzm.out] at hc
        have HC := Lib.hid (hc)
        go_wp2_with fail
        refine HC.out.mono ?_
        rintro e v3 ⟨t11, a11, n11, c11, b11, m11, d11, rfl, rfl, o11, q11, hn11, hm11, k3⟩
        clear HC
        have O11 := o11.lst
        have U11 := q11.lst
        have lo11 := own_lt o11 hn11
        have lq11 := own_lt q11 hm11
        replace L1 := L1.below k3; replace M1 := M1.below k3; replace L2 := L2.below k3; replace M2 := M2.below k3; replace EA := EA.below k3; replace EC := EC.below k3; replace EQ := EQ.below k3
        replace bb := Below.on bb k3 bb.size
        clear k3
        clear hc
        have hc := of2_c 0 v3 (by omega) (by omega)
        rw [show nf ⟨decide ((0 : Int) < 0), (0 : Int).natAbs, 1⟩ = zm by rw [HM0.out]; decide] at hc
        have HC := Lib.hid (hc)
        go_wp2_with fail
        refine HC.out.mono ?_
        rintro e v4 ⟨t12, a12, n12, c12, b12, m12, d12, rfl, rfl, o12, q12, k4⟩
        clear HC
        have O12 := o12.lst
        have U12 := q12.lst
        have ho12 := o12.bound lo11
        have hu12 := q12.bound lq11
        replace L1 := L1.below k4; replace M1 := M1.below k4; replace L2 := L2.below k4; replace M2 := M2.below k4; replace EA := EA.below k4; replace EC := EC.below k4; replace EQ := EQ.below k4; replace O11 := O11.below k4; replace U11 := U11.below k4
        replace bb := Below.on bb k4 bb.size
        clear k4
        clear hc
        have hc := is2_c zm.s zm.s _ _ _ _ _ _ _ _ _ _ _ _ zm.p zm.q _ _ v4 O11 U11 O12 U12 (by omega) (by omega)
        rw [decide_eq_true ⟨rfl, rfl, rfl⟩] at hc
        have HC := Lib.hid (hc)
        go_wp2_with fail
        refine HC.out.mono ?_
        rintro e v5 ⟨rfl, k5⟩
        clear HC
        replace L1 := L1.below k5; replace M1 := M1.below k5; replace L2 := L2.below k5; replace M2 := M2.below k5; replace EA := EA.below k5; replace EC := EC.below k5; replace EQ := EQ.below k5; replace O11 := O11.below k5; replace U11 := U11.below k5; replace O12 := O12.below k5; replace U12 := U12.below k5
        replace bb := Below.on bb k5 bb.size
        clear k5
        clear hc
        go_wp2_with fail
        go_ret
        exact ⟨rfl, bb⟩
      · have hz1 : val X2 ≠ 0 := fun e => hz (Or.inl e)
        have hz2 : val Y2 ≠ 0 := fun e => hz (Or.inr e)
        have hyp0 : zy.p ≠ 0 := fun e => hz (hyp.1 e)
        have hnb : ((ny : Int) == 0) = false := by
          have : 0 < ny := by rw [← hyl, bitsN_pos hyp0]; simp
          simp; omega
        obtain ⟨zq, hzq⟩ : ∃ x, Hid (x = nf (ml ra (inv rb))) := ⟨_, rfl⟩
        have E1 : Hid (nf (ml zx (inv zy)) = zq) := by
          show _ = _
          rw [hzq.out, hzx.out, hzy.out, ← div_nf ra (by rw [hrb.out]; exact hz1) (by rw [hrb.out]; exact hz2)]
        have E2 : Hid (nf (ml zx zy) = zm) := by show _ = _; rw [hzm.out, hzx.out, hzy.out, ← mul_nf]
        have HZ1 := Lib.hid hz1; have HZ2 := Lib.hid hz2
        clear hz hz1 hz2 hyp0 hyp hyl HDZ
        go_wp2_with fail
        have HQV' := HDV.out V2 (Below.refl _ _) HZ1.out HZ2.out
        rw [← hra.out, ← hrb.out, ← hzq.out] at HQV'
        refine HQV'.mono ?_
        rintro e wc ⟨t1, aq, nq, cq, bq', mq, dq, rfl, rfl, o1, o2, hnq, hmq, bq⟩
        have bz := (Below.refl wc.heap.size wc).alloc (Nat.le_refl _) (.cells #[.bool zq.s, .slice aq nq cq, .slice bq' mq dq] 25)
        have b3 := bq.trans (bz.mono bq.size)
        replace P1 := Lib.hid (P1.out.below b3)
        replace Q1 := Lib.hid (Q1.out.below b3)
        replace P2 := Lib.hid (P2.out.below b3)
        replace Q2 := Lib.hid (Q2.out.below b3)
        replace LX := Lib.hid (LX.out.below b3)
        replace MX := Lib.hid (MX.out.below b3)
        replace LY := Lib.hid (LY.out.below b3)
        replace MY := Lib.hid (MY.out.below b3)
        replace A := Lib.hid (A.out.on b3)
        replace C := Lib.hid (C.out.on b3)
        replace KX := Lib.hid (KX.out.on b3)
        replace KY := Lib.hid (KY.out.on b3)
        replace BV := Lib.hid (BV.out.trans (b3.mono BV.out.size))
        have l81 := own_lt o1 hnq
        have l82 := own_lt o2 hmq
        have lq8 : Hid (zq.p < 2 ^ (32 * (2 * 2 + 4)) ∧ zq.q < 2 ^ (32 * (2 * 2 + 5))) := ⟨l81, l82⟩
        have LQ := Lib.hid (o1.lst.below bz); have MQ := Lib.hid (o2.lst.below bz)
        clear HDV HQV' l81 l82 o1 o2
        have KQ := Lib.hid (Blk.new wc 25 #[.bool zq.s, .slice aq nq cq, .slice bq' mq dq])
        obtain ⟨gq, hgq⟩ : ∃ g, Hid (g = wc.heap.size) := ⟨_, rfl⟩
        rw [← hgq.out] at KQ
        clear i0 i1 i2 ii0 ii1 ii2
        obtain ⟨jn0, jn1, jn2⟩ := KY.out.cells3
        go_wp2_with fail
        obtain ⟨V3, hV3⟩ : ∃ V3, V3 = wc.alloc (.cells #[.bool zq.s, .slice aq nq cq, .slice bq' mq dq] 25) := ⟨_, rfl⟩
        rw [← hV3] at A C BV P1 Q1 P2 Q2 KX LX MX KY LY MY KQ LQ MQ ⊢
        rw [← hgq.out]
        clear hV3 b3 bq bz hgq
        have EA : Hid (BoxAt V3.drew g1 25 #[.bool s1, .slice a1 p1 c1, .slice b1 q1 d1]) := BoxAt.drewN A.out 1
        have EC : Hid (BoxAt V3.drew g2 25 #[.bool s2, .slice a2 p2 c2, .slice b2 q2 d2]) := BoxAt.drewN C.out 1
        have EX : Hid (BoxAt V3.drew gx 30 #[.bool zx.s, .slice ax nx cx, .slice bx mx dx]) := BoxAt.drewN KX.out 1
        have EY : Hid (BoxAt V3.drew gy 30 #[.bool zy.s, .slice ay ny cy, .slice by' my dy]) := BoxAt.drewN KY.out 1
        have D1 : Hid (Lst .u32 V3.drew a1 p1 c1 X1) := P1.out.drewN 1
        have D2 : Hid (Lst .u32 V3.drew b1 q1 d1 Y1) := Q1.out.drewN 1
        have D3 : Hid (Lst .u32 V3.drew a2 p2 c2 X2) := P2.out.drewN 1
        have D4 : Hid (Lst .u32 V3.drew b2 q2 d2 Y2) := Q2.out.drewN 1
        have D5 : Hid (LstB V3.drew ax nx cx (bitsN zx.p)) := LX.out.drewN 1
        have D6 : Hid (LstB V3.drew bx mx dx (bitsN zx.q)) := MX.out.drewN 1
        have D7 : Hid (LstB V3.drew ay ny cy (bitsN zy.p)) := LY.out.drewN 1
        have D8 : Hid (LstB V3.drew by' my dy (bitsN zy.q)) := MY.out.drewN 1
        have DB : Hid (Below w.heap.size w V3.drew) := BV.out.drew
        have EQ : Hid (BoxAt V3.drew gq 25 #[.bool zq.s, .slice aq nq cq, .slice bq' mq dq]) := BoxAt.drewN KQ.out 1
        have D9 : Hid (Lst .u32 V3.drew aq nq cq (limbs zq.p)) := LQ.out.drewN 1
        have D10 : Hid (Lst .u32 V3.drew bq' mq dq (limbs zq.q)) := MQ.out.drewN 1
        obtain ⟨jq0, jq1, jq2⟩ := KQ.out.cells3
        obtain ⟨j0, j1, j2⟩ := A.out.cells3
        obtain ⟨jj0, jj1, jj2⟩ := C.out.cells3
        obtain ⟨jjj0, jjj1, jjj2⟩ := KX.out.cells3
        obtain ⟨jjjj0, jjjj1, jjjj2⟩ := KY.out.cells3
        go_region_held3 (fun w' => w'.cell? ⟨g1, 0, none⟩ = some (.bool s1) ∧ w'.cell? ⟨g1, 1, none⟩ = some (.slice a1 p1 c1) ∧ w'.cell? ⟨g1, 2, none⟩ = some (.slice b1 q1 d1) ∧ w'.cell? ⟨g2, 0, none⟩ = some (.bool s2) ∧ w'.cell? ⟨g2, 1, none⟩ = some (.slice a2 p2 c2) ∧ w'.cell? ⟨g2, 2, none⟩ = some (.slice b2 q2 d2) ∧ w'.cell? ⟨gx, 0, none⟩ = some (.bool zx.s) ∧ w'.cell? ⟨gx, 1, none⟩ = some (.slice ax nx cx) ∧ w'.cell? ⟨gx, 2, none⟩ = some (.slice bx mx dx) ∧ w'.cell? ⟨gy, 0, none⟩ = some (.bool zy.s) ∧ w'.cell? ⟨gy, 1, none⟩ = some (.slice ay ny cy) ∧ w'.cell? ⟨gy, 2, none⟩ = some (.slice by' my dy) ∧ w'.cell? ⟨gq, 0, none⟩ = some (.bool zq.s) ∧ w'.cell? ⟨gq, 1, none⟩ = some (.slice aq nq cq) ∧ w'.cell? ⟨gq, 2, none⟩ = some (.slice bq' mq dq)) (go_keep) (first
          | (go_at_call 8; refine (awake2_c V3.drew (HT.out.below DB.out)).mono ?_; rintro e r1 ⟨rfl, B1_⟩; have X1_1 := (D1.out).below B1_; have Y1_1 := (D2.out).below B1_; have X2_1 := (D3.out).below B1_; have Y2_1 := (D4.out).below B1_; have LX_1 := (D5.out).below B1_; have MX_1 := (D6.out).below B1_; have LY_1 := (D7.out).below B1_; have MY_1 := (D8.out).below B1_; have A_1 := (EA.out).below B1_; have C_1 := (EC.out).below B1_; have X_1 := (EX.out).below B1_; have Y_1 := (EY.out).below B1_; have Q_1 := (EQ.out).below B1_; have OQ_1 := (D9.out).below B1_; have UQ_1 := (D10.out).below B1_; have bb_1 := (DB.out).trans (B1_.mono (DB.out).size); obtain ⟨cA1_0, cA1_1, cA1_2⟩ := Blk.cells3 A_1; obtain ⟨cC1_0, cC1_1, cC1_2⟩ := Blk.cells3 C_1; obtain ⟨cX1_0, cX1_1, cX1_2⟩ := Blk.cells3 X_1; obtain ⟨cY1_0, cY1_1, cY1_2⟩ := Blk.cells3 Y_1; obtain ⟨cQ1_0, cQ1_1, cQ1_2⟩ := Blk.cells3 Q_1)
          | (go_at_call 18; have hc := div2_c zx.s zy.s _ _ _ _ _ _ _ _ _ _ _ _ zx.p zx.q zy.p zy.q 65 r1 LX_1 MX_1 LY_1 MY_1 bX.out.1 bX.out.2 bY.out.1 bY.out.2 (by omega); rw [show nf (ml ⟨zx.s, zx.p, zx.q⟩ (inv ⟨zy.s, zy.p, zy.q⟩)) = zq from E1.out] at hc; refine (hc).mono ?_; rintro e r2 ⟨t12, a12', n12', c12', b12', m12', d12', rfl, rfl, o12, q12, B2_⟩; clear hc; have ho12 := o12.bound lq8.out.1; have hu12 := q12.bound lq8.out.2; have X1_2 := (X1_1).below B2_; have Y1_2 := (Y1_1).below B2_; have X2_2 := (X2_1).below B2_; have Y2_2 := (Y2_1).below B2_; have LX_2 := (LX_1).below B2_; have MX_2 := (MX_1).below B2_; have LY_2 := (LY_1).below B2_; have MY_2 := (MY_1).below B2_; have A_2 := (A_1).below B2_; have C_2 := (C_1).below B2_; have X_2 := (X_1).below B2_; have Y_2 := (Y_1).below B2_; have Q_2 := (Q_1).below B2_; have OQ_2 := (OQ_1).below B2_; have UQ_2 := (UQ_1).below B2_; have bb_2 := (bb_1).trans (B2_.mono (bb_1).size); obtain ⟨cA2_0, cA2_1, cA2_2⟩ := Blk.cells3 A_2; obtain ⟨cC2_0, cC2_1, cC2_2⟩ := Blk.cells3 C_2; obtain ⟨cX2_0, cX2_1, cX2_2⟩ := Blk.cells3 X_2; obtain ⟨cY2_0, cY2_1, cY2_2⟩ := Blk.cells3 Y_2; obtain ⟨cQ2_0, cQ2_1, cQ2_2⟩ := Blk.cells3 Q_2; have O12_2 := o12.lst; have U12_2 := q12.lst)
          | (go_at_call_of 9 (Value.slice aq nq cq); have hc := is2_c zq.s zq.s _ _ _ _ _ _ _ _ _ _ _ _ zq.p zq.q _ _ r2 OQ_2 UQ_2 O12_2 U12_2 (by omega) (by omega); rw [decide_eq_true ⟨rfl, rfl, rfl⟩] at hc; refine (hc).mono ?_; rintro e r3 ⟨rfl, B3_⟩; clear hc; have X1_3 := (X1_2).below B3_; have Y1_3 := (Y1_2).below B3_; have X2_3 := (X2_2).below B3_; have Y2_3 := (Y2_2).below B3_; have LX_3 := (LX_2).below B3_; have MX_3 := (MX_2).below B3_; have LY_3 := (LY_2).below B3_; have MY_3 := (MY_2).below B3_; have A_3 := (A_2).below B3_; have C_3 := (C_2).below B3_; have X_3 := (X_2).below B3_; have Y_3 := (Y_2).below B3_; have Q_3 := (Q_2).below B3_; have OQ_3 := (OQ_2).below B3_; have UQ_3 := (UQ_2).below B3_; have bb_3 := (bb_2).trans (B3_.mono (bb_2).size); obtain ⟨cA3_0, cA3_1, cA3_2⟩ := Blk.cells3 A_3; obtain ⟨cC3_0, cC3_1, cC3_2⟩ := Blk.cells3 C_3; obtain ⟨cX3_0, cX3_1, cX3_2⟩ := Blk.cells3 X_3; obtain ⟨cY3_0, cY3_1, cY3_2⟩ := Blk.cells3 Y_3; obtain ⟨cQ3_0, cQ3_1, cQ3_2⟩ := Blk.cells3 Q_3)
          | (go_at_call 16; have hc := rmul_c s1 s2 _ _ _ _ _ _ _ _ _ _ _ _ 2 X1 Y1 X2 Y2 r3 X1_3 Y1_3 X2_3 Y2_3 hp1 hq1 hp2 hq2 (by omega); rw [← hra.out, ← hrb.out, ← hzm.out] at hc; refine (hc).mono ?_; rintro e r4 ⟨t11, a11', n11', c11', b11', m11', d11', rfl, rfl, o11, q11, hn11, hm11, B4_⟩; clear hc; have lo11 := own_lt o11 hn11; have lq11 := own_lt q11 hm11; have X1_4 := (X1_3).below B4_; have Y1_4 := (Y1_3).below B4_; have X2_4 := (X2_3).below B4_; have Y2_4 := (Y2_3).below B4_; have LX_4 := (LX_3).below B4_; have MX_4 := (MX_3).below B4_; have LY_4 := (LY_3).below B4_; have MY_4 := (MY_3).below B4_; have A_4 := (A_3).below B4_; have C_4 := (C_3).below B4_; have X_4 := (X_3).below B4_; have Y_4 := (Y_3).below B4_; have Q_4 := (Q_3).below B4_; have OQ_4 := (OQ_3).below B4_; have UQ_4 := (UQ_3).below B4_; have bb_4 := (bb_3).trans (B4_.mono (bb_3).size); obtain ⟨cA4_0, cA4_1, cA4_2⟩ := Blk.cells3 A_4; obtain ⟨cC4_0, cC4_1, cC4_2⟩ := Blk.cells3 C_4; obtain ⟨cX4_0, cX4_1, cX4_2⟩ := Blk.cells3 X_4; obtain ⟨cY4_0, cY4_1, cY4_2⟩ := Blk.cells3 Y_4; obtain ⟨cQ4_0, cQ4_1, cQ4_2⟩ := Blk.cells3 Q_4; have O11_4 := o11.lst; have U11_4 := q11.lst)
          | (go_at_call 19; have hc := mul2_c zx.s zy.s _ _ _ _ _ _ _ _ _ _ _ _ zx.p zx.q zy.p zy.q 65 r4 LX_4 MX_4 LY_4 MY_4 bX.out.1 bX.out.2 bY.out.1 bY.out.2 (by omega); rw [show nf (ml ⟨zx.s, zx.p, zx.q⟩ ⟨zy.s, zy.p, zy.q⟩) = zm from E2.out] at hc; refine (hc).mono ?_; rintro e r5 ⟨t13, a13', n13', c13', b13', m13', d13', rfl, rfl, o13, q13, B5_⟩; clear hc; have ho13 := o13.bound lo11; have hu13 := q13.bound lq11; have X1_5 := (X1_4).below B5_; have Y1_5 := (Y1_4).below B5_; have X2_5 := (X2_4).below B5_; have Y2_5 := (Y2_4).below B5_; have LX_5 := (LX_4).below B5_; have MX_5 := (MX_4).below B5_; have LY_5 := (LY_4).below B5_; have MY_5 := (MY_4).below B5_; have A_5 := (A_4).below B5_; have C_5 := (C_4).below B5_; have X_5 := (X_4).below B5_; have Y_5 := (Y_4).below B5_; have Q_5 := (Q_4).below B5_; have OQ_5 := (OQ_4).below B5_; have UQ_5 := (UQ_4).below B5_; have O11_5 := (O11_4).below B5_; have U11_5 := (U11_4).below B5_; have bb_5 := (bb_4).trans (B5_.mono (bb_4).size); obtain ⟨cA5_0, cA5_1, cA5_2⟩ := Blk.cells3 A_5; obtain ⟨cC5_0, cC5_1, cC5_2⟩ := Blk.cells3 C_5; obtain ⟨cX5_0, cX5_1, cX5_2⟩ := Blk.cells3 X_5; obtain ⟨cY5_0, cY5_1, cY5_2⟩ := Blk.cells3 Y_5; obtain ⟨cQ5_0, cQ5_1, cQ5_2⟩ := Blk.cells3 Q_5; have O13_5 := o13.lst; have U13_5 := q13.lst)
          | (go_at_call_of 9 (Value.slice a11' n11' c11'); have hc := is2_c zm.s zm.s _ _ _ _ _ _ _ _ _ _ _ _ zm.p zm.q _ _ r5 O11_5 U11_5 O13_5 U13_5 (by omega) (by omega); rw [decide_eq_true ⟨rfl, rfl, rfl⟩] at hc; refine (hc).mono ?_; rintro e r6 ⟨rfl, B6_⟩; clear hc; have X1_6 := (X1_5).below B6_; have Y1_6 := (Y1_5).below B6_; have X2_6 := (X2_5).below B6_; have Y2_6 := (Y2_5).below B6_; have LX_6 := (LX_5).below B6_; have MX_6 := (MX_5).below B6_; have LY_6 := (LY_5).below B6_; have MY_6 := (MY_5).below B6_; have A_6 := (A_5).below B6_; have C_6 := (C_5).below B6_; have X_6 := (X_5).below B6_; have Y_6 := (Y_5).below B6_; have Q_6 := (Q_5).below B6_; have OQ_6 := (OQ_5).below B6_; have UQ_6 := (UQ_5).below B6_; have bb_6 := (bb_5).trans (B6_.mono (bb_5).size); obtain ⟨cA6_0, cA6_1, cA6_2⟩ := Blk.cells3 A_6; obtain ⟨cC6_0, cC6_1, cC6_2⟩ := Blk.cells3 C_6; obtain ⟨cX6_0, cX6_1, cX6_2⟩ := Blk.cells3 X_6; obtain ⟨cY6_0, cY6_1, cY6_2⟩ := Blk.cells3 Y_6; obtain ⟨cQ6_0, cQ6_1, cQ6_2⟩ := Blk.cells3 Q_6))
        go_wp2_with fail
        go_ret
        exact ⟨rfl, bb_6⟩
end Go.Proofs.YtmojcnlddfijjaaGreatDoor
