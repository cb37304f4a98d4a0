/-
  Structs of three cells that lie in a block of the call's own.
-/
import Derived.Test.YtmojcnlddfijjaaGreatDoorNatHelp2
import Derived.Laws.Rows
import Derived.Test.YtmojcnlddfijjaaGreatDoorNatGcdN
import Derived.Test.YtmojcnlddfijjaaGreatDoorNatBitLen
import Derived.Test.YtmojcnlddfijjaaGreatDoorRatMath
namespace Go.Proofs.YtmojcnlddfijjaaGreatDoor
open Go.RowKit NatMath

/-- Block g holds just these cells of element type t. -/
def Blk (w : World) (g : Nat) (t : TypeId) (cs : Array Value) : Prop := w.heap[g]? = some (.cells cs t (0, 0))

section
variable {w w' : World} {g : Nat} {t : TypeId} {cs : Array Value}
theorem Blk.lt (h : Blk w g t cs) : g < w.heap.size := by
  rcases Nat.lt_or_ge g w.heap.size with hlt | hge
  · exact hlt
  · unfold Blk at h; rw [Array.getElem?_eq_none hge] at h; cases h
theorem Blk.cell (h : Blk w g t cs) (i : Nat) : w.cell? ⟨g, i, none⟩ = cs[i]? := cell_of_row w g i cs t (0, 0) h
theorem Blk.frozen (h : Blk w g t cs) (i : Nat) : w.frozen? ⟨g, i, none⟩ = false := by
  unfold Blk at h
  simp [World.frozen?, h]
theorem Blk.new (w : World) (t : TypeId) (cs : Array Value) : Blk (w.alloc (.cells cs t)) w.heap.size t cs := heap_alloc_new w _
theorem Blk.drewN (h : Blk w g t cs) (n : Nat) : Blk (w.drewN n) g t cs := h
theorem Blk.alloc (h : Blk w g t cs) (o : Obj) : Blk (w.alloc o) g t cs := (Below.heap_alloc w o g h.lt).trans h
theorem Blk.set (h : Blk w g t cs) (i : Nat) (u : Value) : Blk (w.setCell ⟨g, i, none⟩ u) g t (cs.setIfInBounds i u) := by
  unfold Blk at h ⊢
  simp [World.setCell, Array.getElem?_modify, h]
theorem Blk.far (h : Blk w g t cs) {p : Addr} (hp : g ≠ p.block) (u : Value) : Blk (w.setCell p u) g t cs := (Below.heap_setCell w p u g hp).trans h
theorem Blk.below {B : Nat} (h : Blk w g t cs) (hb : Below B w w') (hg : g < B) : Blk w' g t cs := (hb.block g hg).trans h
theorem Blk.on (h : Blk w g t cs) (hb : Below w.heap.size w w') : Blk w' g t cs := h.below hb h.lt
end

/-- The world behind a store of three cells. -/
def put3 (w : World) (g : Nat) (u0 u1 u2 : Value) : World := ((w.setCell ⟨g, 0, none⟩ u0).setCell ⟨g, 1, none⟩ u1).setCell ⟨g, 2, none⟩ u2

section
variable {w : World} {g : Nat} {t : TypeId} {v0 v1 v2 : Value}
theorem Blk.cells3 (h : Blk w g t #[v0, v1, v2]) : w.cell? ⟨g, 0, none⟩ = some v0 ∧ w.cell? ⟨g, 1, none⟩ = some v1 ∧ w.cell? ⟨g, 2, none⟩ = some v2 := ⟨h.cell 0, h.cell 1, h.cell 2⟩
/-- What a store of three cells asks, one after another. -/
theorem Blk.store3 (h : Blk w g t #[v0, v1, v2]) (u0 u1 : Value) :
    w.cell? ⟨g, 0, none⟩ = some v0 ∧ w.frozen? ⟨g, 0, none⟩ = false ∧ (w.setCell ⟨g, 0, none⟩ u0).cell? ⟨g, 1, none⟩ = some v1 ∧ (w.setCell ⟨g, 0, none⟩ u0).frozen? ⟨g, 1, none⟩ = false ∧
    ((w.setCell ⟨g, 0, none⟩ u0).setCell ⟨g, 1, none⟩ u1).cell? ⟨g, 2, none⟩ = some v2 ∧ ((w.setCell ⟨g, 0, none⟩ u0).setCell ⟨g, 1, none⟩ u1).frozen? ⟨g, 2, none⟩ = false := by
  have h1 := h.set 0 u0
  have h2 := h1.set 1 u1
  exact ⟨h.cell 0, h.frozen 0, h1.cell 1, h1.frozen 1, h2.cell 2, h2.frozen 2⟩
theorem Blk.put3 (h : Blk w g t #[v0, v1, v2]) (u0 u1 u2 : Value) : Blk (put3 w g u0 u1 u2) g t #[u0, u1, u2] := ((h.set 0 u0).set 1 u1).set 2 u2
theorem below_put3 {B : Nat} {a : World} (h : Below B a w) (hg : B ≤ g) (u0 u1 u2 : Value) : Below B a (Go.Proofs.YtmojcnlddfijjaaGreatDoor.put3 w g u0 u1 u2) := ((h.setCell hg u0).setCell hg u1).setCell hg u2
theorem put3_other {g' : Nat} {t' : TypeId} {cs : Array Value} (h : Blk w g' t' cs) (hne : g' ≠ g) (u0 u1 u2 : Value) : Blk (Go.Proofs.YtmojcnlddfijjaaGreatDoor.put3 w g u0 u1 u2) g' t' cs := ((h.far (p := ⟨g, 0, none⟩) hne u0).far (p := ⟨g, 1, none⟩) hne u1).far (p := ⟨g, 2, none⟩) hne u2
theorem put3_grown (w : World) (g : Nat) (u0 u1 u2 : Value) : w.grownBy (Go.Proofs.YtmojcnlddfijjaaGreatDoor.put3 w g u0 u1 u2) (some g) := by
  have e : ∀ (w : World) (i : Nat) (u : Value), w.grownBy (w.setCell ⟨g, i, none⟩ u) (some g) := fun w i u =>
    ⟨rfl, rfl, rfl, by simp [World.setCell], fun k _ hk => Below.heap_setCell w _ u k (fun e => hk (by rw [e]))⟩
  exact grown_trans (grown_trans (e w 0 u0) (e _ 1 u1)) (e _ 2 u2)
end
theorem Own.put3 {e : TypeId} {k : IntKind} {B : Nat} {w : World} {ao : Option Addr} {n c : Nat} {xs : List Int} (h : Own e k B w ao n c xs) {g : Nat} (hne : ∀ a, ao = some a → g ≠ a.block) (u0 u1 u2 : Value) : Own e k B (put3 w g u0 u1 u2) ao n c xs :=
  h.grown (put3_grown w g u0 u1 u2) (fun a ha => by simpa using hne a ha)
theorem Own.hi {e : TypeId} {k : IntKind} {B : Nat} {w : World} {ao : Option Addr} {n c : Nat} {xs : List Int} (h : Own e k B w ao n c xs) {g : Nat} (hg : g < B) : ∀ a, ao = some a → g ≠ a.block := by
  intro a ha
  rcases h.cases with ⟨h0, _⟩ | ⟨q, hq, h1, _⟩
  · rw [h0] at ha; cases ha
  · rw [hq] at ha
    cases ha
    show g ≠ q
    omega
theorem Lst.put3 {k : IntKind} {w : World} {ao : Option Addr} {n c : Nat} {xs : List Int} (h : Lst k w ao n c xs) {g : Nat} (hne : ∀ i, i < n → (pt ao i).block ≠ g) (u0 u1 u2 : Value) : Lst k (put3 w g u0 u1 u2) ao n c xs :=
  h.grown (put3_grown w g u0 u1 u2) (fun i hi => by simpa using hne i hi)

/-- The world in which a body begins whose call has boxed two structs, or three. -/
theorem boxed2 (w : World) (t : TypeId) (A B : Array Value) : ∃ W, W = (w.alloc (.cells A t)).alloc (.cells B t) ∧ Blk W w.heap.size t A ∧ Blk W (w.heap.size + 1) t B ∧ Below w.heap.size w W := by
  refine ⟨_, rfl, (Blk.new w t A).alloc _, ?_, ((Below.refl w.heap.size w).alloc (Nat.le_refl _) _).alloc (by simp) _⟩
  have := Blk.new (w.alloc (.cells A t)) t B
  rwa [show (w.alloc (.cells A t)).heap.size = w.heap.size + 1 by simp] at this
theorem boxed3 (w : World) (t : TypeId) (A B C : Array Value) : ∃ W, W = ((w.alloc (.cells A t)).alloc (.cells B t)).alloc (.cells C t) ∧ Blk W w.heap.size t A ∧ Blk W (w.heap.size + 1) t B ∧ Blk W (w.heap.size + 1 + 1) t C ∧ Below w.heap.size w W := by
  refine ⟨_, rfl, ((Blk.new w t A).alloc _).alloc _, ?_, ?_, (((Below.refl w.heap.size w).alloc (Nat.le_refl _) _).alloc (by simp) _).alloc (by simp; omega) _⟩
  · have := (Blk.new (w.alloc (.cells A t)) t B).alloc (.cells C t)
    rwa [show (w.alloc (.cells A t)).heap.size = w.heap.size + 1 by simp] at this
  · have := Blk.new ((w.alloc (.cells A t)).alloc (.cells B t)) t C
    rwa [show ((w.alloc (.cells A t)).alloc (.cells B t)).heap.size = w.heap.size + 1 + 1 by simp] at this
end Go.Proofs.YtmojcnlddfijjaaGreatDoor

/-
  ratio.isZero, ratio.Make, ratio.normal, ratio.divisible, ratio.negate.
-/
namespace Go.Proofs.YtmojcnlddfijjaaGreatDoor
open Go.RowKit NatMath RatMath

theorem limbs_1 : limbs 1 = [1] := by
  rw [limbs_pos (by omega), show 1 / 4294967296 = 0 by omega, limbs_zero]; rfl
theorem val_nil : val [] = 0 := rfl

/-- The value of a Ratio. -/
def rv (s : Bool) (a : Option Addr) (n c : Nat) (b : Option Addr) (m d : Nat) : Value := .agg #[.bool s, .slice a n c, .slice b m d]

theorem bitsN_len {v : Nat} : (((bitsN v).length : Int) == 0) = decide (v = 0) := by
  by_cases h : v = 0
  · subst h; rw [bitsN_zero]; rfl
  · rw [bitsN_pos h, decide_eq_false h]
    simp
    omega

set_option maxHeartbeats 1600000 in
theorem isZero_c (ao : Option Addr) (n c : Nat) (xs : List Int) (w : World) (h : Lst .u32 w ao n c xs) (hn : n ≤ 1073741820) :
    Calls Tryz.prog 39 #[.slice ao n c] w fun e w' => e = .returned (.bool (decide (val xs = 0))) ∧ w = w' := by
  have HB := Lib.hid (bits_c ao n c xs w h (by omega))
  have hz := Lib.hid (bitsN_len (v := val xs))
  obtain ⟨L, hL⟩ : ∃ L, Hid (L = (bitsN (val xs)).length) := ⟨_, rfl⟩
  rw [← hL.out] at HB
  go_enter Tryz.func39, Tryz.ntmps39
  go_wp2_with fail
  refine HB.out.mono ?_
  rintro e w' ⟨rfl, rfl⟩
  go_wp2_with fail
  go_ret
  exact ⟨by rw [← hz.out, hL.out]; rfl, rfl⟩

set_option maxHeartbeats 3200000 in
set_option maxRecDepth 100000 in
theorem make_c (s : Bool) (ao bo : Option Addr) (n c m d : Nat) (xs ys : List Int) (w : World) (h : Lst .u32 w ao n c xs) (k : Lst .u32 w bo m d ys) (hn : n ≤ 1000000) (hm : m ≤ 1000000) :
    Calls Tryz.prog 32 #[.bool s, .slice ao n c, .slice bo m d] w fun e w' => ∃ s' a n' c' b m' d', e = .returned (.agg #[.bool s', .slice a n' c', .slice b m' d']) ∧ s' = (nf ⟨s, val xs, val ys⟩).s ∧ Own 66 .u32 w.heap.size w' a n' c' (limbs (nf ⟨s, val xs, val ys⟩).p) ∧ Own 66 .u32 w.heap.size w' b m' d' (limbs (nf ⟨s, val xs, val ys⟩).q) ∧ n' ≤ n ∧ m' ≤ m + 1 ∧ Below w.heap.size w w' := by
  obtain ⟨X, hX⟩ : ∃ X, Hid (X = val xs) := ⟨_, rfl⟩
  obtain ⟨Y, hY⟩ : ∃ Y, Hid (Y = val ys) := ⟨_, rfl⟩
  have HZ1 := fun w1 (hb : Below w.heap.size w w1) => isZero_c ao n c xs w1 (h.below hb) (by omega)
  have HZ2 := fun w1 (hb : Below w.heap.size w w1) => isZero_c bo m d ys w1 (k.below hb) (by omega)
  have HG := fun w1 (hb : Below w.heap.size w w1) => gcd_c ao bo n c m d xs ys w1 (h.below hb) (k.below hb) (by omega) (by omega)
  rw [← hX.out] at HZ1
  rw [← hY.out] at HZ2
  rw [← hX.out, ← hY.out] at HG ⊢
  have HZ1 := Lib.hid HZ1; have HZ2 := Lib.hid HZ2; have HG := Lib.hid HG
  have H := Lib.hid h; have K := Lib.hid k
  have bb := (Below.refl w.heap.size w).alloc (Nat.le_refl _) (.cells #[.bool false, .slice none 0 0, .slice none 0 0] 25)
  clear h k
  go_enter Tryz.func32, Tryz.ntmps32
  go_wp2_with fail
  refine (HZ1.out _ bb).mono ?_
  rintro e w' ⟨rfl, rfl⟩
  by_cases hx : X = 0
  · have hd : decide (X = 0) = true := by simpa using hx
    have HN := Lib.hid (nf_zero (x := ⟨s, X, Y⟩) (Or.inl hx))
    clear hx
    go_wp2_with fail
    refine (of_c 1 _ (by omega) (by omega)).mono ?_
    rintro e w2 ⟨a2, n2, c2, hn2, rfl, o2, b2⟩
    have hlen2 : n2 ≤ 1 := by rw [← o2.len, show Int.toNat 1 = 1 from rfl, limbs_1]; decide
    have k2 := (Blk.new w 25 #[.bool false, .slice none 0 0, .slice none 0 0]).on b2
    have BB := Lib.hid (bb.trans (b2.mono (by simp)))
    have O2 := Lib.hid o2
    obtain ⟨s0, s1, s2, s3, s4, s5⟩ := k2.store3 (.bool false) (.slice none 0 0)
    have K2 := Lib.hid k2
    clear k2 o2 b2
    go_wp2_with fail
    have k3 := K2.out.put3 (.bool false) (.slice none 0 0) (.slice a2 n2 c2)
    have b3 := below_put3 BB.out (Nat.le_refl _) (.bool false) (.slice none 0 0) (.slice a2 n2 c2)
    have o3 := O2.out.put3 (O2.out.hi (g := w.heap.size) (by simp)) (.bool false) (.slice none 0 0) (.slice a2 n2 c2)
    obtain ⟨W, hW⟩ : ∃ W, W = put3 w2 w.heap.size (.bool false) (.slice none 0 0) (.slice a2 n2 c2) := ⟨_, rfl⟩
    change bodyPost _ _ _ _ _ (put3 w2 w.heap.size (.bool false) (.slice none 0 0) (.slice a2 n2 c2))
    rw [← hW] at k3 b3 o3 ⊢
    obtain ⟨r0, r1, r2⟩ := k3.cells3
    refine bodyPost_ret (v := .agg #[.bool false, .slice none 0 0, .slice a2 n2 c2]) (by simp [results, Tryz.results32, go_sem, r0, r1, r2]) rfl ?_
    refine ⟨_, none, 0, 0, a2, n2, c2, rfl, by rw [HN.out]; rfl, ?_, ?_, Nat.zero_le _, by omega, b3⟩
    · rw [HN.out, show zero.p = 0 from rfl, limbs_zero]; exact own_nil _ _ _ _
    · rw [HN.out, show zero.q = 1 from rfl]
      exact o3.low (by simp)
  have hd : decide (X = 0) = false := by simpa using hx
  by_cases hy : Y = 0
  · have hd2 : decide (Y = 0) = true := by simpa using hy
    have HN := Lib.hid (nf_zero (x := ⟨s, X, Y⟩) (Or.inr hy))
    clear hx hy
    go_wp2_with fail
    refine (HZ2.out _ bb).mono ?_
    rintro e w' ⟨rfl, rfl⟩
    go_wp2_with fail
    refine (of_c 1 _ (by omega) (by omega)).mono ?_
    rintro e w2 ⟨a2, n2, c2, hn2, rfl, o2, b2⟩
    have hlen2 : n2 ≤ 1 := by rw [← o2.len, show Int.toNat 1 = 1 from rfl, limbs_1]; decide
    have k2 := (Blk.new w 25 #[.bool false, .slice none 0 0, .slice none 0 0]).on b2
    have BB := Lib.hid (bb.trans (b2.mono (by simp)))
    have O2 := Lib.hid o2
    obtain ⟨s0, s1, s2, s3, s4, s5⟩ := k2.store3 (.bool false) (.slice none 0 0)
    have K2 := Lib.hid k2
    clear k2 o2 b2
    go_wp2_with fail
    have k3 := K2.out.put3 (.bool false) (.slice none 0 0) (.slice a2 n2 c2)
    have b3 := below_put3 BB.out (Nat.le_refl _) (.bool false) (.slice none 0 0) (.slice a2 n2 c2)
    have o3 := O2.out.put3 (O2.out.hi (g := w.heap.size) (by simp)) (.bool false) (.slice none 0 0) (.slice a2 n2 c2)
    obtain ⟨W, hW⟩ : ∃ W, W = put3 w2 w.heap.size (.bool false) (.slice none 0 0) (.slice a2 n2 c2) := ⟨_, rfl⟩
    change bodyPost _ _ _ _ _ (put3 w2 w.heap.size (.bool false) (.slice none 0 0) (.slice a2 n2 c2))
    rw [← hW] at k3 b3 o3 ⊢
    obtain ⟨r0, r1, r2⟩ := k3.cells3
    refine bodyPost_ret (v := .agg #[.bool false, .slice none 0 0, .slice a2 n2 c2]) (by simp [results, Tryz.results32, go_sem, r0, r1, r2]) rfl ?_
    refine ⟨_, none, 0, 0, a2, n2, c2, rfl, by rw [HN.out]; rfl, ?_, ?_, Nat.zero_le _, by omega, b3⟩
    · rw [HN.out, show zero.p = 0 from rfl, limbs_zero]; exact own_nil _ _ _ _
    · rw [HN.out, show zero.q = 1 from rfl]
      exact o3.low (by simp)
  · have hd2 : decide (Y = 0) = false := by simpa using hy
    have HN := Lib.hid (nf_pos (x := ⟨s, X, Y⟩) hx hy)
    have hg0 : Nat.gcd X Y ≠ 0 := fun h0 => hx (Nat.eq_zero_of_gcd_eq_zero_left h0)
    have hXn := Lib.hid (limbs_val_length H.out.ok)
    have hYn := Lib.hid (limbs_val_length K.out.ok)
    rw [← hX.out, H.out.len] at hXn
    rw [← hY.out, K.out.len] at hYn
    have hgb : (limbs (Nat.gcd X Y)).length ≤ n := Nat.le_trans (limbs_len_mono (Nat.gcd_le_left Y (Nat.pos_of_ne_zero hx))) hXn.out
    obtain ⟨G, hG⟩ : ∃ G, Hid (G = Nat.gcd X Y) := ⟨_, rfl⟩
    rw [← hG.out] at HG hg0 hgb
    have HX := Lib.hid hx
    have HY := Lib.hid hy
    have HGB := Lib.hid hgb
    have HG0 := Lib.hid hg0
    clear hx hy hgb hg0
    go_wp2_with fail
    refine (HZ2.out _ bb).mono ?_
    rintro e w' ⟨rfl, rfl⟩
    go_wp2_with fail
    refine (HG.out _ bb).mono ?_
    rintro e w2 ⟨a2, n2, c2, rfl, o2, b2⟩
    have k2 := (Blk.new w 25 #[.bool false, .slice none 0 0, .slice none 0 0]).on b2
    have BB := Lib.hid (bb.trans (b2.mono (by simp)))
    have hn2 : n2 ≤ n := by rw [← o2.len]; exact HGB.out
    have D := o2.lst
    have hd1 := div_c ao a2 n c n2 c2 xs (limbs G) w2 (H.out.below BB.out) D (by omega) (by rw [val_limbs]; exact HG0.out)
    rw [val_limbs, ← hX.out] at hd1
    have HD1 := Lib.hid hd1
    have K2 := Lib.hid k2
    clear k2 o2 b2 hd1
    go_wp2_with fail
    refine HD1.out.mono ?_
    rintro e w3 ⟨a3, n3, c3, a4, n4, c4, rfl, o3, _, b3⟩
    have BB3 := Lib.hid (BB.out.trans (b3.mono BB.out.size))
    have K3 := Lib.hid (K2.out.on b3)
    have hn3 : n3 ≤ n := by
      rw [← o3.len]
      exact Nat.le_trans (limbs_len_mono (Nat.div_le_self X G)) hXn.out
    have O3 := Lib.hid (o3.low BB.out.size)
    have hlow3 := Lib.hid (o3.hi (g := w.heap.size) K2.out.lt)
    have D3 := D.below b3
    have hd2' := div_c bo a2 m d n2 c2 ys (limbs G) w3 (K.out.below BB3.out) D3 (by omega) (by rw [val_limbs]; exact HG0.out)
    rw [val_limbs, ← hY.out] at hd2'
    have HD2 := Lib.hid hd2'
    clear D D3 b3 hd2' HD1 o3
    go_wp2_with fail
    refine HD2.out.mono ?_
    rintro e w4 ⟨a5, n5, c5, a6, n6, c6, rfl, o5, _, b4⟩
    have BB := Lib.hid (BB3.out.trans (b4.mono BB3.out.size))
    have K2 := Lib.hid (K3.out.on b4)
    have hn5 : n5 ≤ m := by
      rw [← o5.len]
      exact Nat.le_trans (limbs_len_mono (Nat.div_le_self Y G)) hYn.out
    have O3 := Lib.hid (O3.out.kept b4)
    have hlow5 := Lib.hid (o5.hi (g := w.heap.size) K3.out.lt)
    have O5 := Lib.hid (o5.low BB3.out.size)
    obtain ⟨s0, s1, s2, s3, s4, s5⟩ := K2.out.store3 (.bool s) (.slice a3 n3 c3)
    clear o5 b4 HD2
    go_wp2_with fail
    have k3 := K2.out.put3 (.bool s) (.slice a3 n3 c3) (.slice a5 n5 c5)
    have b3 := below_put3 BB.out (Nat.le_refl _) (.bool s) (.slice a3 n3 c3) (.slice a5 n5 c5)
    have p3 := O3.out.put3 hlow3.out (.bool s) (.slice a3 n3 c3) (.slice a5 n5 c5)
    have p5 := O5.out.put3 hlow5.out (.bool s) (.slice a3 n3 c3) (.slice a5 n5 c5)
    obtain ⟨W, hW⟩ : ∃ W, W = put3 w4 w.heap.size (.bool s) (.slice a3 n3 c3) (.slice a5 n5 c5) := ⟨_, rfl⟩
    change bodyPost _ _ _ _ _ (put3 w4 w.heap.size (.bool s) (.slice a3 n3 c3) (.slice a5 n5 c5))
    rw [← hW] at k3 b3 p3 p5 ⊢
    obtain ⟨r0, r1, r2⟩ := k3.cells3
    refine bodyPost_ret (v := .agg #[.bool s, .slice a3 n3 c3, .slice a5 n5 c5]) (by simp [results, Tryz.results32, go_sem, r0, r1, r2]) rfl ?_
    refine ⟨_, a3, n3, c3, a5, n5, c5, rfl, by rw [HN.out], ?_, ?_, hn3, by omega, b3⟩
    · rw [HN.out, ← hG.out]; exact p3
    · rw [HN.out, ← hG.out]; exact p5
end Go.Proofs.YtmojcnlddfijjaaGreatDoor

/-
  ratio.normal, ratio.divisible, ratio.negate.
-/
namespace Go.Proofs.YtmojcnlddfijjaaGreatDoor
open Go.RowKit NatMath RatMath

set_option maxHeartbeats 3200000 in
set_option maxRecDepth 100000 in
theorem normal_c (s : Bool) (ao bo : Option Addr) (n c m d : Nat) (xs ys : List Int) (w : World) (h : Lst .u32 w ao n c xs) (k : Lst .u32 w bo m d ys) (hn : n ≤ 1000000) (hm : m ≤ 1000000) :
    Calls Tryz.prog 44 #[.agg #[.bool s, .slice ao n c, .slice bo m d]] w fun e w' => ∃ s' a n' c' b m' d', e = .returned (.agg #[.bool s', .slice a n' c', .slice b m' d']) ∧ s' = (nf ⟨s, val xs, val ys⟩).s ∧ Own 66 .u32 w.heap.size w' a n' c' (limbs (nf ⟨s, val xs, val ys⟩).p) ∧ Own 66 .u32 w.heap.size w' b m' d' (limbs (nf ⟨s, val xs, val ys⟩).q) ∧ n' ≤ n ∧ m' ≤ m + 1 ∧ Below w.heap.size w w' := by
  have HM := Lib.hid (fun w1 (hb : Below w.heap.size w w1) => make_c s ao bo n c m d xs ys w1 (h.below hb) (k.below hb) hn hm)
  clear h k
  go_enter Tryz.func44, Tryz.ntmps44
  go_wp2_with fail
  have bb : Below w.heap.size w ((w.alloc (.cells #[.bool s, .slice ao n c, .slice bo m d] 25)).alloc (.cells #[.bool false, .slice none 0 0, .slice none 0 0] 25)) := ((Below.refl w.heap.size w).alloc (Nat.le_refl _) _).alloc (by simp) _
  have kb := Blk.new (w.alloc (.cells #[.bool s, .slice ao n c, .slice bo m d] 25)) 25 #[.bool false, .slice none 0 0, .slice none 0 0]
  rw [show (w.alloc (.cells #[.bool s, .slice ao n c, .slice bo m d] 25)).heap.size = w.heap.size + 1 by simp] at kb
  obtain ⟨w1, hw1⟩ : ∃ w1, w1 = ((w.alloc (.cells #[.bool s, .slice ao n c, .slice bo m d] 25)).alloc (.cells #[.bool false, .slice none 0 0, .slice none 0 0] 25)) := ⟨_, rfl⟩
  rw [← hw1] at bb kb ⊢
  refine (HM.out w1 bb).mono ?_
  rintro e w2 ⟨s2, a2, n2, c2, b2, m2, d2, rfl, hs2, o2, o3, hn2, hm2, bb2⟩
  have K2 := kb.on bb2
  have BB := bb.trans (bb2.mono bb.size)
  have h2 := o2.hi (g := w.heap.size + 1) kb.lt
  have h3 := o3.hi (g := w.heap.size + 1) kb.lt
  have O2 := Lib.hid (o2.low bb.size)
  have O3 := Lib.hid (o3.low bb.size)
  obtain ⟨q0, q1, q2, q3, q4, q5⟩ := K2.store3 (.bool s2) (.slice a2 n2 c2)
  have HS := Lib.hid hs2
  clear hs2 hw1 kb bb bb2 o2 o3
  go_wp2_with fail
  have pbox := K2.put3 (.bool s2) (.slice a2 n2 c2) (.slice b2 m2 d2)
  have pbel := below_put3 BB (Nat.le_succ _) (.bool s2) (.slice a2 n2 c2) (.slice b2 m2 d2)
  have p2 := O2.out.put3 h2 (.bool s2) (.slice a2 n2 c2) (.slice b2 m2 d2)
  have p3 := O3.out.put3 h3 (.bool s2) (.slice a2 n2 c2) (.slice b2 m2 d2)
  obtain ⟨W, hW⟩ : ∃ W, W = put3 w2 (w.heap.size + 1) (.bool s2) (.slice a2 n2 c2) (.slice b2 m2 d2) := ⟨_, rfl⟩
  change bodyPost _ _ _ _ _ (put3 w2 (w.heap.size + 1) (.bool s2) (.slice a2 n2 c2) (.slice b2 m2 d2))
  rw [← hW] at pbox pbel p2 p3 ⊢
  obtain ⟨r0, r1, r2⟩ := pbox.cells3
  refine bodyPost_ret (v := .agg #[.bool s2, .slice a2 n2 c2, .slice b2 m2 d2]) (by simp [results, Tryz.results44, go_sem, r0, r1, r2]) rfl ?_
  exact ⟨s2, a2, n2, c2, b2, m2, d2, rfl, HS.out, p2, p3, hn2, hm2, pbel⟩

theorem negate_c (s : Bool) (ao bo : Option Addr) (n c m d : Nat) (w : World) :
    Calls Tryz.prog 38 #[.agg #[.bool s, .slice ao n c, .slice bo m d]] w fun e w' => e = .returned (.agg #[.bool !s, .slice ao n c, .slice bo m d]) ∧ Below w.heap.size w w' := by
  go_enter Tryz.func38, Tryz.ntmps38
  go_wp2_with fail
  exact bodyPost_ret (v := .agg #[.bool !s, .slice ao n c, .slice bo m d]) (by simp [results, Tryz.results38, go_sem]) rfl ⟨rfl, ((Below.refl _ _).alloc (Nat.le_refl _) _).alloc (by simp) _⟩

/-- A slice that came back lies in none of the elder blocks that the slice that went in kept clear of. -/
def Away (w : World) (n : Nat) (ao : Option Addr) (n' : Nat) (a : Option Addr) : Prop := ∀ g, g < w.heap.size → (∀ j, j < n → (pt ao j).block ≠ g) → ∀ i, i < n' → (pt a i).block ≠ g

set_option maxHeartbeats 3200000 in
set_option maxRecDepth 100000 in
theorem divisible_c (s : Bool) (ao bo : Option Addr) (n c m d : Nat) (xs ys : List Int) (w : World) (h : Lst .u32 w ao n c xs) (k : Lst .u32 w bo m d ys) (hn : n ≤ 1000000) (hm : m ≤ 1000000) :
    Calls Tryz.prog 59 #[.agg #[.bool s, .slice ao n c, .slice bo m d]] w fun e w' => ∃ s' a n' c' b m' d' xs' ys', e = .returned (.agg #[.bool s', .slice a n' c', .slice b m' d']) ∧ R.mk s' (val xs') (val ys') = dv ⟨s, val xs, val ys⟩ ∧ Lst .u32 w' a n' c' xs' ∧ Lst .u32 w' b m' d' ys' ∧ n' ≤ n ∧ m' ≤ m + 1 ∧ Away w n ao n' a ∧ Away w m bo m' b ∧ Below w.heap.size w w' := by
  have HZ := Lib.hid (fun w1 (hb : Below w.heap.size w w1) => isZero_c bo m d ys w1 (k.below hb) (by omega))
  have HM := Lib.hid (fun w1 (hb : Below w.heap.size w w1) => normal_c s ao bo n c m d xs ys w1 (h.below hb) (k.below hb) hn hm)
  have bb : Below w.heap.size w ((w.alloc (.cells #[.bool s, .slice ao n c, .slice bo m d] 25)).alloc (.cells #[.bool false, .slice none 0 0, .slice none 0 0] 25)) := ((Below.refl w.heap.size w).alloc (Nat.le_refl _) _).alloc (by simp) _
  by_cases hy : val ys = 0
  · have hd : decide (val ys = 0) = true := by simpa using hy
    rw [hd] at HZ
    have HN := Lib.hid (nf_zero (x := ⟨s, val xs, val ys⟩) (Or.inr hy))
    have HD : Hid (dv ⟨s, val xs, val ys⟩ = zero) := by show _ = _; unfold dv; rw [if_pos hy]
    have HK := Lib.hid hm
    clear hd hy h k
    go_enter Tryz.func59, Tryz.ntmps59
    go_wp2_with fail
    refine (HZ.out _ bb).mono ?_
    rintro e w' ⟨rfl, rfl⟩
    go_wp2_with fail
    have kb := Blk.new (w.alloc (.cells #[.bool s, .slice ao n c, .slice bo m d] 25)) 25 #[.bool false, .slice none 0 0, .slice none 0 0]
    rw [show (w.alloc (.cells #[.bool s, .slice ao n c, .slice bo m d] 25)).heap.size = w.heap.size + 1 by simp] at kb
    obtain ⟨w1, hw1⟩ : ∃ w1, w1 = ((w.alloc (.cells #[.bool s, .slice ao n c, .slice bo m d] 25)).alloc (.cells #[.bool false, .slice none 0 0, .slice none 0 0] 25)) := ⟨_, rfl⟩
    rw [← hw1] at bb kb ⊢
    refine (HM.out w1 bb).mono ?_
    rintro e w2 ⟨s2, a2, n2, c2, b2, m2, d2, rfl, hs2, o2, o3, hn2, hm2, bb2⟩
    have K2 := kb.on bb2
    have BB := bb.trans (bb2.mono bb.size)
    have h2 := o2.hi (g := w.heap.size + 1) kb.lt
    have h3 := o3.hi (g := w.heap.size + 1) kb.lt
    have O2 := Lib.hid (o2.low bb.size)
    have O3 := Lib.hid (o3.low bb.size)
    obtain ⟨q0, q1, q2, q3, q4, q5⟩ := K2.store3 (.bool s2) (.slice a2 n2 c2)
    rw [HN.out] at hs2
    have HS := Lib.hid hs2
    clear hs2 hw1 kb bb bb2 o2 o3
    go_wp2_with fail
    have pbox := K2.put3 (.bool s2) (.slice a2 n2 c2) (.slice b2 m2 d2)
    have pbel := below_put3 BB (Nat.le_succ _) (.bool s2) (.slice a2 n2 c2) (.slice b2 m2 d2)
    have p2 := O2.out.put3 h2 (.bool s2) (.slice a2 n2 c2) (.slice b2 m2 d2)
    have p3 := O3.out.put3 h3 (.bool s2) (.slice a2 n2 c2) (.slice b2 m2 d2)
    obtain ⟨W, hW⟩ : ∃ W, W = put3 w2 (w.heap.size + 1) (.bool s2) (.slice a2 n2 c2) (.slice b2 m2 d2) := ⟨_, rfl⟩
    change bodyPost _ _ _ _ _ (put3 w2 (w.heap.size + 1) (.bool s2) (.slice a2 n2 c2) (.slice b2 m2 d2))
    rw [← hW] at pbox pbel p2 p3 ⊢
    obtain ⟨r0, r1, r2⟩ := pbox.cells3
    refine bodyPost_ret (v := .agg #[.bool s2, .slice a2 n2 c2, .slice b2 m2 d2]) (by simp [results, Tryz.results59, go_sem, r0, r1, r2]) rfl ?_
    refine ⟨s2, a2, n2, c2, b2, m2, d2, _, _, rfl, ?_, p2.lst, p3.lst, hn2, hm2, fun g hg _ i hi => by have := p2.base hi; omega, fun g hg _ i hi => by have := p3.base hi; omega, pbel⟩
    rw [val_limbs, val_limbs, HS.out, HN.out, HD.out]
  · have hd : decide (val ys = 0) = false := by simpa using hy
    rw [hd] at HZ
    have HD : Hid (dv ⟨s, val xs, val ys⟩ = ⟨s, val xs, val ys⟩) := by show _ = _; unfold dv; rw [if_neg hy]
    have H := Lib.hid h; have K := Lib.hid k
    clear hd hy h k HM
    go_enter Tryz.func59, Tryz.ntmps59
    go_wp2_with fail
    refine (HZ.out _ bb).mono ?_
    rintro e w' ⟨rfl, rfl⟩
    clear bb
    go_wp2_with fail
    refine bodyPost_ret (v := .agg #[.bool s, .slice ao n c, .slice bo m d]) (by simp [results, Tryz.results59, go_sem]) rfl ?_
    have b2 : Below w.heap.size w ((w.alloc (.cells #[.bool s, .slice ao n c, .slice bo m d] 25)).alloc (.cells #[.bool s, .slice ao n c, .slice bo m d] 25)) := ((Below.refl w.heap.size w).alloc (Nat.le_refl _) _).alloc (by simp) _
    exact ⟨s, ao, n, c, bo, m, d, xs, ys, rfl, HD.out.symm, H.out.below b2, K.out.below b2, Nat.le_refl _, by omega, fun g _ h => h, fun g _ h => h, b2⟩
end Go.Proofs.YtmojcnlddfijjaaGreatDoor
