/-
  electionref02.norm, electionref02.From, electionref02.To, electionref02.Eq.
-/
import Derived.Test.YtmojcnlddfijjaaGreatDoorRatBase
import Derived.Test.YtmojcnlddfijjaaGreatDoorRatEq
import Derived.Test.YtmojcnlddfijjaaGreatDoorNatSmall
import Derived.Test.YtmojcnlddfijjaaGreatDoorNatRefGcd
import Derived.Test.YtmojcnlddfijjaaGreatDoorRatShort
import Derived.Test.YtmojcnlddfijjaaGreatDoorNatCmp
import Derived.Deep.RegionHeld3
namespace Go.Proofs.YtmojcnlddfijjaaGreatDoor
open Go.RowKit NatMath RatMath

theorem OwnT.grown {B : Nat} {w w' : World} {ao : Option Addr} {n c : Nat} {xs : List Bool} {row : Option Nat} (h : OwnT B w ao n c xs) (hg : w.grownBy w' row) (hne : ∀ a, ao = some a → row ≠ some a.block) : OwnT B w' ao n c xs := by
  refine World.ownsRow.kept h hg ?_
  rcases h.cases with ⟨rfl, rfl, rfl, rfl⟩ | ⟨q, rfl, _⟩
  · exact Or.inl rfl
  · exact Or.inr (fun e => hne _ rfl e.symm)
theorem OwnT.put3 {B : Nat} {w : World} {ao : Option Addr} {n c : Nat} {xs : List Bool} (h : OwnT B w ao n c xs) {g : Nat} (hne : ∀ a, ao = some a → g ≠ a.block) (u0 u1 u2 : Value) : OwnT B (put3 w g u0 u1 u2) ao n c xs :=
  h.grown (put3_grown w g u0 u1 u2) (fun a ha => by simpa using hne a ha)
theorem OwnT.hi {B : Nat} {w : World} {ao : Option Addr} {n c : Nat} {xs : List Bool} (h : OwnT B w ao n c xs) {g : Nat} (hg : g < B) : ∀ a, ao = some a → g ≠ a.block := by
  intro a ha
  rcases h.cases with ⟨h0, _⟩ | ⟨q, hq, h1, _⟩
  · rw [h0] at ha; cases ha
  · rw [hq] at ha
    cases ha
    show g ≠ q
    omega

set_option maxHeartbeats 3200000 in
set_option maxRecDepth 100000 in
theorem norm2_c (s : Bool) (ao bo : Option Addr) (n c m d X Y : Nat) (w : World) (h : LstB w ao n c (bitsN X)) (k : LstB w bo m d (bitsN Y)) (hn : n ≤ 1000000) (hm : m ≤ 1000000) :
    Calls Tryz.prog 25 #[.bool s, .slice ao n c, .slice bo m d] w fun e w' => ∃ s' a n' c' b m' d', e = .returned (.agg #[.bool s', .slice a n' c', .slice b m' d']) ∧ s' = (nf ⟨s, X, Y⟩).s ∧ OwnT w.heap.size w' a n' c' (bitsN (nf ⟨s, X, Y⟩).p) ∧ OwnT w.heap.size w' b m' d' (bitsN (nf ⟨s, X, Y⟩).q) ∧ Below w.heap.size w w' := by
  have hlX := h.len
  have hlY := k.len
  have hr1 := h.room; have hc1 := h.cap; have hr2 := k.room; have hc2 := k.cap
  have HG := Lib.hid (fun w1 (hb : Below w.heap.size w w1) => gcdT_c ao bo n c m d X Y w1 (h.below hb) (k.below hb) (by omega) (by omega))
  have H := Lib.hid h; have K := Lib.hid k
  have kZ := Blk.new w 30 #[.bool false, .slice none 0 0, .slice none 0 0]
  have bb := (Below.refl w.heap.size w).alloc (Nat.le_refl _) (.cells #[.bool false, .slice none 0 0, .slice none 0 0] 30)
  obtain ⟨W0, hW0⟩ : ∃ W0, W0 = w.alloc (.cells #[.bool false, .slice none 0 0, .slice none 0 0] 30) := ⟨_, rfl⟩
  rw [← hW0] at kZ bb
  clear h k
  by_cases hx : X = 0
  · have hn0 : n = 0 := by rw [← hlX, hx, bitsN_zero]; rfl
    have HN := Lib.hid (nf_zero (x := ⟨s, X, Y⟩) (Or.inl hx))
    clear hlX hlY H HG
    subst hn0
    clear hx
    go_enter Tryz.func25, Tryz.ntmps25
    go_wp2_with fail
    rw [← hW0]
    clear hW0
    refine (small_c 1 _ (by omega)).mono ?_
    rintro e w2 ⟨a2, n2, c2, rfl, o2, b2⟩
    have k2 := kZ.on b2
    have BB := bb.trans (b2.mono bb.size)
    have h2 := o2.hi (g := w.heap.size) kZ.lt
    have hl2 := o2.bound (k := 1) (by decide)
    have O2 := Lib.hid (o2.low bb.size)
    obtain ⟨s0, s1, s2, s3, s4, s5⟩ := k2.store3 (.bool false) (.slice none 0 0)
    clear kZ o2 b2 bb
    go_wp2_with fail
    have pbox := k2.put3 (.bool false) (.slice none 0 0) (.slice a2 n2 c2)
    have pbel := below_put3 BB (Nat.le_refl _) (.bool false) (.slice none 0 0) (.slice a2 n2 c2)
    have p2 := O2.out.put3 h2 (.bool false) (.slice none 0 0) (.slice a2 n2 c2)
    obtain ⟨W, hW⟩ : ∃ W, W = put3 w2 w.heap.size (.bool false) (.slice none 0 0) (.slice a2 n2 c2) := ⟨_, rfl⟩
    change bodyPost _ _ _ _ _ (put3 w2 w.heap.size (.bool false) (.slice none 0 0) (.slice a2 n2 c2))
    rw [← hW] at pbox pbel p2 ⊢
    obtain ⟨r0, r1, r2⟩ := pbox.cells3
    refine bodyPost_ret (v := .agg #[.bool false, .slice none 0 0, .slice a2 n2 c2]) (by simp [results, Tryz.results25, go_sem, r0, r1, r2]) rfl ?_
    refine ⟨_, none, 0, 0, a2, n2, c2, rfl, by rw [HN.out]; rfl, ?_, ?_, pbel⟩
    · rw [HN.out, show zero.p = 0 from rfl, bitsN_zero]; exact OwnT.nil _ _
    · rw [HN.out, show zero.q = 1 from rfl]; exact p2
  have hn0 : n ≠ 0 := by rw [← hlX, bitsN_pos hx]; simp
  have hnb : ((n : Int) == 0) = false := by simp; omega
  by_cases hy : Y = 0
  · have hm0 : m = 0 := by rw [← hlY, hy, bitsN_zero]; rfl
    have HN := Lib.hid (nf_zero (x := ⟨s, X, Y⟩) (Or.inr hy))
    clear hlX hlY K HG
    subst hm0
    clear hx hy
    go_enter Tryz.func25, Tryz.ntmps25
    go_wp2_with fail
    rw [← hW0]
    clear hW0
    refine (small_c 1 _ (by omega)).mono ?_
    rintro e w2 ⟨a2, n2, c2, rfl, o2, b2⟩
    have k2 := kZ.on b2
    have BB := bb.trans (b2.mono bb.size)
    have h2 := o2.hi (g := w.heap.size) kZ.lt
    have hl2 := o2.bound (k := 1) (by decide)
    have O2 := Lib.hid (o2.low bb.size)
    obtain ⟨s0, s1, s2, s3, s4, s5⟩ := k2.store3 (.bool false) (.slice none 0 0)
    clear kZ o2 b2 bb
    go_wp2_with fail
    have pbox := k2.put3 (.bool false) (.slice none 0 0) (.slice a2 n2 c2)
    have pbel := below_put3 BB (Nat.le_refl _) (.bool false) (.slice none 0 0) (.slice a2 n2 c2)
    have p2 := O2.out.put3 h2 (.bool false) (.slice none 0 0) (.slice a2 n2 c2)
    obtain ⟨W, hW⟩ : ∃ W, W = put3 w2 w.heap.size (.bool false) (.slice none 0 0) (.slice a2 n2 c2) := ⟨_, rfl⟩
    change bodyPost _ _ _ _ _ (put3 w2 w.heap.size (.bool false) (.slice none 0 0) (.slice a2 n2 c2))
    rw [← hW] at pbox pbel p2 ⊢
    obtain ⟨r0, r1, r2⟩ := pbox.cells3
    refine bodyPost_ret (v := .agg #[.bool false, .slice none 0 0, .slice a2 n2 c2]) (by simp [results, Tryz.results25, go_sem, r0, r1, r2]) rfl ?_
    refine ⟨_, none, 0, 0, a2, n2, c2, rfl, by rw [HN.out]; rfl, ?_, ?_, pbel⟩
    · rw [HN.out, show zero.p = 0 from rfl, bitsN_zero]; exact OwnT.nil _ _
    · rw [HN.out, show zero.q = 1 from rfl]; exact p2
  · have hm0 : m ≠ 0 := by rw [← hlY, bitsN_pos hy]; simp
    have hmb : ((m : Int) == 0) = false := by simp; omega
    have HN := Lib.hid (nf_pos (x := ⟨s, X, Y⟩) hx hy)
    have hg0 : 0 < Nat.gcd X Y := Nat.gcd_pos_of_pos_left _ (Nat.pos_of_ne_zero hx)
    have hgl : (bitsN (Nat.gcd X Y)).length ≤ n := by
      rw [← hlX]
      rcases Nat.lt_or_ge (bitsN X).length (bitsN (Nat.gcd X Y)).length with h1 | h1
      · have := bitsN_lt_of_length h1
        have := Nat.gcd_le_left Y (Nat.pos_of_ne_zero hx)
        omega
      · exact h1
    obtain ⟨G, hG⟩ : ∃ G, Hid (G = Nat.gcd X Y) := ⟨_, rfl⟩
    rw [← hG.out] at HG hg0 hgl
    have HG0 := Lib.hid hg0
    have HGL := Lib.hid hgl
    clear hlX hlY hx hy hg0 hgl
    go_enter Tryz.func25, Tryz.ntmps25
    go_wp2_with fail
    rw [← hW0]
    clear hW0
    refine (HG.out W0 bb).mono ?_
    rintro e w2 ⟨a2, n2, c2, rfl, o2, b2⟩
    have k2 := kZ.on b2
    have BB := bb.trans (b2.mono bb.size)
    have hn2 : n2 ≤ n := by rw [← o2.len]; exact HGL.out
    have D := o2.lst
    have hd1 := divT_c ao a2 n c n2 c2 (bitsN X) (bitsN G) w2 (H.out.below BB) D (by omega) (by omega) (by rw [bval_bitsN]; exact HG0.out)
    rw [bval_bitsN, bval_bitsN] at hd1
    have HD1 := Lib.hid hd1
    clear hd1 o2 b2 kZ
    go_wp2_with fail
    refine HD1.out.mono ?_
    rintro e w3 ⟨a3, n3, c3, a4, n4, c4, rfl, o3, _, b3⟩
    have BB3 := BB.trans (b3.mono BB.size)
    have k3 := k2.on b3
    have D3 := D.below b3
    have h3 := o3.hi (g := w.heap.size) k2.lt
    have O3 := o3.low BB.size
    have hd2 := divT_c bo a2 m d n2 c2 (bitsN Y) (bitsN G) w3 (K.out.below BB3) D3 (by omega) (by omega) (by rw [bval_bitsN]; exact HG0.out)
    rw [bval_bitsN, bval_bitsN] at hd2
    have HD2 := Lib.hid hd2
    clear hd2 o3 b3 k2 D D3 HD1
    go_wp2_with fail
    refine HD2.out.mono ?_
    rintro e w4 ⟨a5, n5, c5, a6, n6, c6, rfl, o5, _, b4⟩
    have BB4 := BB3.trans (b4.mono BB3.size)
    have k4 := k3.on b4
    have O3' := Lib.hid (O3.kept b4)
    have h5 := o5.hi (g := w.heap.size) k3.lt
    have O5 := Lib.hid (o5.low BB3.size)
    obtain ⟨s0, s1, s2, s3, s4, s5⟩ := k4.store3 (.bool s) (.slice a3 n3 c3)
    clear o5 b4 k3 HD2 O3 BB BB3 bb
    go_wp2_with fail
    have pbox := k4.put3 (.bool s) (.slice a3 n3 c3) (.slice a5 n5 c5)
    have pbel := below_put3 BB4 (Nat.le_refl _) (.bool s) (.slice a3 n3 c3) (.slice a5 n5 c5)
    have p3 := O3'.out.put3 h3 (.bool s) (.slice a3 n3 c3) (.slice a5 n5 c5)
    have p5 := O5.out.put3 h5 (.bool s) (.slice a3 n3 c3) (.slice a5 n5 c5)
    obtain ⟨W, hW⟩ : ∃ W, W = put3 w4 w.heap.size (.bool s) (.slice a3 n3 c3) (.slice a5 n5 c5) := ⟨_, rfl⟩
    change bodyPost _ _ _ _ _ (put3 w4 w.heap.size (.bool s) (.slice a3 n3 c3) (.slice a5 n5 c5))
    rw [← hW] at pbox pbel p3 p5 ⊢
    obtain ⟨r0, r1, r2⟩ := pbox.cells3
    refine bodyPost_ret (v := .agg #[.bool s, .slice a3 n3 c3, .slice a5 n5 c5]) (by simp [results, Tryz.results25, go_sem, r0, r1, r2]) rfl ?_
    refine ⟨_, a3, n3, c3, a5, n5, c5, rfl, by rw [HN.out], ?_, ?_, pbel⟩
    · rw [HN.out, ← hG.out]; exact p3
    · rw [HN.out, ← hG.out]; exact p5

set_option maxHeartbeats 3200000 in
set_option maxRecDepth 100000 in
theorem from2_c (s : Bool) (ao bo : Option Addr) (n c m d : Nat) (xs ys : List Int) (w : World) (h : Lst .u32 w ao n c xs) (k : Lst .u32 w bo m d ys) (hn : n ≤ 30000) (hm : m ≤ 30000) :
    Calls Tryz.prog 7 #[.agg #[.bool s, .slice ao n c, .slice bo m d]] w fun e w' => ∃ s' a n' c' b m' d', e = .returned (.agg #[.bool s', .slice a n' c', .slice b m' d']) ∧ s' = (nf ⟨s, val xs, val ys⟩).s ∧ OwnT w.heap.size w' a n' c' (bitsN (nf ⟨s, val xs, val ys⟩).p) ∧ OwnT w.heap.size w' b m' d' (bitsN (nf ⟨s, val xs, val ys⟩).q) ∧ Below w.heap.size w w' := by
  have H := Lib.hid h; have K := Lib.hid k
  clear h k
  go_enter Tryz.func7, Tryz.ntmps7
  go_wp2_with fail
  have kA := Blk.new w 25 #[.bool s, .slice ao n c, .slice bo m d]
  have kZ := Blk.new (w.alloc (.cells #[.bool s, .slice ao n c, .slice bo m d] 25)) 30 #[.bool false, .slice none 0 0, .slice none 0 0]
  have bb : Below w.heap.size w ((w.alloc (.cells #[.bool s, .slice ao n c, .slice bo m d] 25)).alloc (.cells #[.bool false, .slice none 0 0, .slice none 0 0] 30)) := ((Below.refl w.heap.size w).alloc (Nat.le_refl _) _).alloc (by simp) _
  replace kA := kA.alloc (.cells #[.bool false, .slice none 0 0, .slice none 0 0] 30)
  rw [show (w.alloc (.cells #[.bool s, .slice ao n c, .slice bo m d] 25)).heap.size = w.heap.size + 1 by simp] at kZ
  obtain ⟨W0, hW0⟩ : ∃ W0, W0 = (w.alloc (.cells #[.bool s, .slice ao n c, .slice bo m d] 25)).alloc (.cells #[.bool false, .slice none 0 0, .slice none 0 0] 30) := ⟨_, rfl⟩
  rw [← hW0] at kA kZ bb ⊢
  clear hW0
  obtain ⟨g2, hg2⟩ : ∃ g2, g2 = w.heap.size + 1 := ⟨_, rfl⟩
  rw [← hg2] at kZ ⊢
  have hge : w.heap.size ≤ g2 := by omega
  have hne0 : w.heap.size ≠ g2 := by omega
  have hne2 : g2 ≠ w.heap.size := by omega
  clear hg2
  have DA : Hid (Blk W0.drew w.heap.size 25 #[.bool s, .slice ao n c, .slice bo m d]) := kA
  have DZ : Hid (Blk W0.drew g2 30 #[.bool false, .slice none 0 0, .slice none 0 0]) := kZ
  have DB : Hid (Below w.heap.size w W0.drew) := bb.drew
  have BX := Lib.hid (val_lt_two H.out.ok H.out.len (Nat.le_refl n))
  have BY := Lib.hid (val_lt_two K.out.ok K.out.len (Nat.le_refl m))
  obtain ⟨y0, y1, y2⟩ := kA.cells3
  clear kA kZ bb
  go_region_held3 (fun w' => w'.cell? ⟨w.heap.size, 0, none⟩ = some (.bool s) ∧ w'.cell? ⟨w.heap.size, 1, none⟩ = some (.slice ao n c) ∧ w'.cell? ⟨w.heap.size, 2, none⟩ = some (.slice bo m d)) (go_keep) (first
    | (go_at_call_of 26 (Value.slice ao n c); refine (from_c ao n c xs W0.drew (H.out.below DB.out) (by omega)).mono ?_; rintro e v1 ⟨a3, n3, c3, rfl, o3, B1⟩; have A1 := DA.out.on B1; obtain ⟨z0, z1, z2⟩ := A1.cells3; have Z1 := DZ.out.on B1; have BB1 := DB.out.trans (B1.mono DB.out.size); have hn3 := o3.bound BX.out)
    | (go_at_call 26; refine (from_c bo m d ys v1 (K.out.below BB1) (by omega)).mono ?_; rintro e v2 ⟨a4, n4, c4, rfl, o4, B2⟩; have A2 := A1.on B2; obtain ⟨k0, k1, k2⟩ := A2.cells3; have Z2 := Z1.on B2; have BB2 := BB1.trans (B2.mono BB1.size); have o3' := o3.kept B2; have hn4 := o4.bound BY.out)
    | (go_at_call 25; refine (norm2_c s a3 a4 n3 c3 n4 c4 (val xs) (val ys) v2 o3'.lst o4.lst (by omega) (by omega)).mono ?_; rintro e v3 ⟨s5, a5, n5, c5, b5, m5, d5, rfl, hs5, o5, o6, B3⟩; have A3 := A2.on B3; obtain ⟨l0, l1, l2⟩ := A3.cells3; have Z3 := Z2.on B3; have BB3 := BB2.trans (B3.mono BB2.size); obtain ⟨q0, q1, q2, q3, q4, q5⟩ := Z3.store3 (.bool s5) (.slice a5 n5 c5); have HS5 := Lib.hid hs5; clear hs5))
  go_wp2_with fail
  have h3 := o5.hi (g := g2) Z2.lt
  have h4 := o6.hi (g := g2) Z2.lt
  have O3 := o5.low BB2.size
  have O4 := o6.low BB2.size
  have pbox := Z3.put3 (.bool s5) (.slice a5 n5 c5) (.slice b5 m5 d5)
  have pbel := below_put3 BB3 hge (.bool s5) (.slice a5 n5 c5) (.slice b5 m5 d5)
  have p3 := O3.put3 h3 (.bool s5) (.slice a5 n5 c5) (.slice b5 m5 d5)
  have p4 := O4.put3 h4 (.bool s5) (.slice a5 n5 c5) (.slice b5 m5 d5)
  obtain ⟨W, hW⟩ : ∃ W, W = put3 v3 g2 (.bool s5) (.slice a5 n5 c5) (.slice b5 m5 d5) := ⟨_, rfl⟩
  change bodyPost _ _ _ _ _ (put3 v3 g2 (.bool s5) (.slice a5 n5 c5) (.slice b5 m5 d5))
  rw [← hW] at pbox pbel p3 p4 ⊢
  obtain ⟨r0, r1, r2⟩ := pbox.cells3
  refine bodyPost_ret (v := .agg #[.bool s5, .slice a5 n5 c5, .slice b5 m5 d5]) (by simp [results, Tryz.results7, go_sem, r0, r1, r2]) rfl ?_
  exact ⟨s5, a5, n5, c5, b5, m5, d5, rfl, HS5.out, p3, p4, pbel⟩

set_option maxHeartbeats 3200000 in
set_option maxRecDepth 100000 in
theorem to2_c (s : Bool) (ao bo : Option Addr) (n c m d X Y : Nat) (w : World) (h : LstB w ao n c (bitsN X)) (k : LstB w bo m d (bitsN Y)) (hn : n ≤ 1000000) (hm : m ≤ 1000000) :
    Calls Tryz.prog 31 #[.agg #[.bool s, .slice ao n c, .slice bo m d]] w fun e w' => ∃ a n' c' b m' d', e = .returned (.agg #[.bool s, .slice a n' c', .slice b m' d']) ∧ Own 66 .u32 w.heap.size w' a n' c' (limbs X) ∧ Own 66 .u32 w.heap.size w' b m' d' (limbs Y) ∧ Below w.heap.size w w' := by
  have H := Lib.hid h; have K := Lib.hid k
  clear h k
  go_enter Tryz.func31, Tryz.ntmps31
  go_wp2_with fail
  have kA := Blk.new w 30 #[.bool s, .slice ao n c, .slice bo m d]
  have kZ := Blk.new (w.alloc (.cells #[.bool s, .slice ao n c, .slice bo m d] 30)) 25 #[.bool false, .slice none 0 0, .slice none 0 0]
  have bb : Below w.heap.size w ((w.alloc (.cells #[.bool s, .slice ao n c, .slice bo m d] 30)).alloc (.cells #[.bool false, .slice none 0 0, .slice none 0 0] 25)) := ((Below.refl w.heap.size w).alloc (Nat.le_refl _) _).alloc (by simp) _
  replace kA := kA.alloc (.cells #[.bool false, .slice none 0 0, .slice none 0 0] 25)
  rw [show (w.alloc (.cells #[.bool s, .slice ao n c, .slice bo m d] 30)).heap.size = w.heap.size + 1 by simp] at kZ
  obtain ⟨W0, hW0⟩ : ∃ W0, W0 = (w.alloc (.cells #[.bool s, .slice ao n c, .slice bo m d] 30)).alloc (.cells #[.bool false, .slice none 0 0, .slice none 0 0] 25) := ⟨_, rfl⟩
  rw [← hW0] at kA kZ bb ⊢
  clear hW0
  obtain ⟨g2, hg2⟩ : ∃ g2, g2 = w.heap.size + 1 := ⟨_, rfl⟩
  rw [← hg2] at kZ ⊢
  have hge : w.heap.size ≤ g2 := by omega
  have hne0 : w.heap.size ≠ g2 := by omega
  have hne2 : g2 ≠ w.heap.size := by omega
  clear hg2
  have DA : Hid (Blk W0.drew w.heap.size 30 #[.bool s, .slice ao n c, .slice bo m d]) := kA
  have DZ : Hid (Blk W0.drew g2 25 #[.bool false, .slice none 0 0, .slice none 0 0]) := kZ
  have DB : Hid (Below w.heap.size w W0.drew) := bb.drew
  obtain ⟨y0, y1, y2⟩ := kA.cells3
  clear kA kZ bb
  go_region_held3 (fun w' => w'.cell? ⟨w.heap.size, 0, none⟩ = some (.bool s) ∧ w'.cell? ⟨w.heap.size, 1, none⟩ = some (.slice ao n c) ∧ w'.cell? ⟨w.heap.size, 2, none⟩ = some (.slice bo m d)) (go_keep) (first
    | (go_at_call_of 56 (Value.slice ao n c); refine (to_c ao n c (bitsN X) W0.drew (H.out.below DB.out) (by omega)).mono ?_; rintro e v1 ⟨a3, n3, c3, rfl, o3, B1⟩; have A1 := DA.out.on B1; obtain ⟨z0, z1, z2⟩ := A1.cells3; have Z1 := DZ.out.on B1; have BB1 := DB.out.trans (B1.mono DB.out.size))
    | (go_at_call 56; refine (to_c bo m d (bitsN Y) v1 (K.out.below BB1) (by omega)).mono ?_; rintro e v2 ⟨a4, n4, c4, rfl, o4, B2⟩; have A2 := A1.on B2; obtain ⟨k0, k1, k2⟩ := A2.cells3; have Z2 := Z1.on B2; have BB2 := BB1.trans (B2.mono BB1.size); have o3' := o3.kept B2; obtain ⟨q0, q1, q2, q3, q4, q5⟩ := Z2.store3 (.bool s) (.slice a3 n3 c3)))
  go_wp2_with fail
  have h3 := o3.hi (g := g2) DZ.out.lt
  have h4 := o4.hi (g := g2) Z1.lt
  have O3 := o3'.low DB.out.size
  have O4 := o4.low BB1.size
  rw [bval_bitsN] at O3 O4
  have pbox := Z2.put3 (.bool s) (.slice a3 n3 c3) (.slice a4 n4 c4)
  have pbel := below_put3 BB2 hge (.bool s) (.slice a3 n3 c3) (.slice a4 n4 c4)
  have p3 := O3.put3 h3 (.bool s) (.slice a3 n3 c3) (.slice a4 n4 c4)
  have p4 := O4.put3 h4 (.bool s) (.slice a3 n3 c3) (.slice a4 n4 c4)
  obtain ⟨W, hW⟩ : ∃ W, W = put3 v2 g2 (.bool s) (.slice a3 n3 c3) (.slice a4 n4 c4) := ⟨_, rfl⟩
  change bodyPost _ _ _ _ _ (put3 v2 g2 (.bool s) (.slice a3 n3 c3) (.slice a4 n4 c4))
  rw [← hW] at pbox pbel p3 p4 ⊢
  obtain ⟨r0, r1, r2⟩ := pbox.cells3
  refine bodyPost_ret (v := .agg #[.bool s, .slice a3 n3 c3, .slice a4 n4 c4]) (by simp [results, Tryz.results31, go_sem, r0, r1, r2]) rfl ?_
  exact ⟨a3, n3, c3, a4, n4, c4, rfl, p3, p4, pbel⟩
end Go.Proofs.YtmojcnlddfijjaaGreatDoor

/-
  electionlaw02.Short, electionlaw02.is.
-/
namespace Go.Proofs.YtmojcnlddfijjaaGreatDoor
open Go.RowKit NatMath RatMath

set_option maxHeartbeats 3200000 in
set_option maxRecDepth 100000 in
theorem is2_c (s1 s : Bool) (a1 b1 ao bo : Option Addr) (n1 c1 m1 d1 n c m d X Y : Nat) (xs ys : List Int) (w : World) (h : Lst .u32 w a1 n1 c1 xs) (k : Lst .u32 w b1 m1 d1 ys) (h' : LstB w ao n c (bitsN X)) (k' : LstB w bo m d (bitsN Y)) (hn : n ≤ 1000000) (hm : m ≤ 1000000) :
    Calls Tryz.prog 9 #[.agg #[.bool s1, .slice a1 n1 c1, .slice b1 m1 d1], .agg #[.bool s, .slice ao n c, .slice bo m d]] w fun e w' => e = .returned (.bool (decide (s1 = s ∧ xs = limbs X ∧ ys = limbs Y))) ∧ Below w.heap.size w w' := by
  have H := Lib.hid h; have K := Lib.hid k; have H' := Lib.hid h'; have K' := Lib.hid k'
  clear h k h' k'
  go_enter Tryz.func9, Tryz.ntmps9
  go_wp2_with fail
  have kA := Blk.new w 25 #[.bool s1, .slice a1 n1 c1, .slice b1 m1 d1]
  have kB := Blk.new (w.alloc (.cells #[.bool s1, .slice a1 n1 c1, .slice b1 m1 d1] 25)) 30 #[.bool s, .slice ao n c, .slice bo m d]
  have bb : Below w.heap.size w ((w.alloc (.cells #[.bool s1, .slice a1 n1 c1, .slice b1 m1 d1] 25)).alloc (.cells #[.bool s, .slice ao n c, .slice bo m d] 30)) := ((Below.refl w.heap.size w).alloc (Nat.le_refl _) _).alloc (by simp) _
  replace kA := kA.alloc (.cells #[.bool s, .slice ao n c, .slice bo m d] 30)
  rw [show (w.alloc (.cells #[.bool s1, .slice a1 n1 c1, .slice b1 m1 d1] 25)).heap.size = w.heap.size + 1 by simp] at kB
  obtain ⟨W0, hW0⟩ : ∃ W0, W0 = (w.alloc (.cells #[.bool s1, .slice a1 n1 c1, .slice b1 m1 d1] 25)).alloc (.cells #[.bool s, .slice ao n c, .slice bo m d] 30) := ⟨_, rfl⟩
  rw [← hW0] at kA kB bb ⊢
  clear hW0
  have DA : Hid (Blk W0.drew w.heap.size 25 #[.bool s1, .slice a1 n1 c1, .slice b1 m1 d1]) := kA
  have DC : Hid (Blk W0.drew (w.heap.size + 1) 30 #[.bool s, .slice ao n c, .slice bo m d]) := kB
  have DB : Hid (Below w.heap.size w W0.drew) := bb.drew
  obtain ⟨y0, y1, y2⟩ := kA.cells3
  obtain ⟨yy0, yy1, yy2⟩ := kB.cells3
  clear kA kB bb
  go_region_held3 (fun w' => w'.cell? ⟨w.heap.size, 0, none⟩ = some (.bool s1) ∧ w'.cell? ⟨w.heap.size, 1, none⟩ = some (.slice a1 n1 c1) ∧ w'.cell? ⟨w.heap.size, 2, none⟩ = some (.slice b1 m1 d1) ∧ w'.cell? ⟨w.heap.size + 1, 0, none⟩ = some (.bool s) ∧ w'.cell? ⟨w.heap.size + 1, 1, none⟩ = some (.slice ao n c) ∧ w'.cell? ⟨w.heap.size + 1, 2, none⟩ = some (.slice bo m d)) (go_keep) (first
    | (go_at_call 31; refine (to2_c s ao bo n c m d X Y W0.drew (H'.out.below DB.out) (K'.out.below DB.out) hn hm).mono ?_; rintro e v1 ⟨a3, n3, c3, b3, m3, d3, rfl, o3, o4, B1⟩; have A1 := DA.out.on B1; have C1 := DC.out.on B1; obtain ⟨z0, z1, z2⟩ := A1.cells3; obtain ⟨zz0, zz1, zz2⟩ := C1.cells3; have BB1 := DB.out.trans (B1.mono DB.out.size))
    | (go_at_call 15; refine (eq2_c s1 s a1 b1 a3 b3 n1 c1 m1 d1 n3 c3 m3 d3 xs ys (limbs X) (limbs Y) v1 (H.out.below BB1) (K.out.below BB1) o3.lst o4.lst).mono ?_; rintro e v2 ⟨rfl, B2⟩; have A2 := A1.on B2; have C2 := C1.on B2; obtain ⟨k0, k1, k2⟩ := A2.cells3; obtain ⟨kk0, kk1, kk2⟩ := C2.cells3; have BB2 := BB1.trans (B2.mono BB1.size)))
  go_wp2_with fail
  go_ret
  refine ⟨?_, BB2⟩
  show Ending.returned (Value.bool (decide (s1 = s) && (decide (xs = limbs X) && decide (ys = limbs Y)))) = _
  simp only [Bool.decide_and]

theorem nf_p_le (x : R) : (nf x).p ≤ x.p := by
  by_cases h : x.p = 0 ∨ x.q = 0
  · rw [nf_zero h]; exact Nat.zero_le _
  · rw [nf_pos (fun e => h (Or.inl e)) (fun e => h (Or.inr e))]; exact Nat.div_le_self _ _
theorem nf_q_le (x : R) : (nf x).q ≤ max x.q 1 := by
  by_cases h : x.p = 0 ∨ x.q = 0
  · rw [nf_zero h]; exact Nat.le_max_right _ _
  · rw [nf_pos (fun e => h (Or.inl e)) (fun e => h (Or.inr e))]; exact Nat.le_trans (Nat.div_le_self _ _) (Nat.le_max_left _ _)
theorem from2b_c (s : Bool) (ao bo : Option Addr) (n c m d : Nat) (xs ys : List Int) (k : Nat) (w : World) (h : Lst .u32 w ao n c xs) (k' : Lst .u32 w bo m d ys) (hn : n ≤ k) (hm : m ≤ k) (hk : k ≤ 30000) :
    Calls Tryz.prog 7 #[.agg #[.bool s, .slice ao n c, .slice bo m d]] w fun e w' => ∃ s' a n' c' b m' d', e = .returned (.agg #[.bool s', .slice a n' c', .slice b m' d']) ∧ s' = (nf ⟨s, val xs, val ys⟩).s ∧ OwnT w.heap.size w' a n' c' (bitsN (nf ⟨s, val xs, val ys⟩).p) ∧ OwnT w.heap.size w' b m' d' (bitsN (nf ⟨s, val xs, val ys⟩).q) ∧ n' ≤ 32 * k + 1 ∧ m' ≤ 32 * k + 1 ∧ Below w.heap.size w w' := by
  refine (from2_c s ao bo n c m d xs ys w h k' (by omega) (by omega)).mono ?_
  rintro e w' ⟨s', a, n', c', b, m', d', he, hs, o1, o2, hb⟩
  have b1 := val_lt_two h.ok h.len hn
  have b2 := val_lt_two k'.ok k'.len hm
  have p1 := nf_p_le ⟨s, val xs, val ys⟩
  have p2 := nf_q_le ⟨s, val xs, val ys⟩
  have hpow : 2 ^ (32 * k + 1) = 2 ^ (32 * k) * 2 := Nat.pow_succ ..
  have hone : 1 ≤ 2 ^ (32 * k) := Nat.one_le_two_pow
  refine ⟨s', a, n', c', b, m', d', he, hs, o1, o2, o1.bound ?_, o2.bound ?_, hb⟩
  · show _ < _
    simp only at p1
    omega
  · show _ < _
    simp only at p2
    omega
end Go.Proofs.YtmojcnlddfijjaaGreatDoor
