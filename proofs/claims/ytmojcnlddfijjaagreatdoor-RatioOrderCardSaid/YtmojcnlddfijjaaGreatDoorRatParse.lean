/-
  slices.Equal at Nat; ratio.Valid.
-/
import Derived.Test.YtmojcnlddfijjaaGreatDoorRatBase
import Derived.Deep.RegionHeld3
import Derived.Test.YtmojcnlddfijjaaGreatDoorNatText
import Derived.Test.YtmojcnlddfijjaaGreatDoorNatDec
import Derived.Test.YtmojcnlddfijjaaGreatDoorRatCut
import Derived.Test.YtmojcnlddfijjaaGreatDoorNatParse
import Derived.Test.YtmojcnlddfijjaaGreatDoorNatParseU
import Derived.Test.YtmojcnlddfijjaaGreatDoorNatNumeral
namespace Go.Proofs.YtmojcnlddfijjaaGreatDoor
open Go.RowKit NatMath RatMath

set_option maxHeartbeats 800000 in
theorem equal_c (ao bo : Option Addr) (n c m d : Nat) (xs ys : List Int) (w : World) (h : Lst .u32 w ao n c xs) (k : Lst .u32 w bo m d ys) :
    Calls Tryz.prog 71 #[.slice ao n c, .slice bo m d] w fun e w' => e = .returned (.bool (decide (xs = ys))) ∧ ∃ q, w.drewN q = w' := by
  have hroom := h.room
  have hcap := h.cap
  by_cases hne : n = m
  · subst hne
    go_enter Tryz.func71, Tryz.ntmps71
    go_wp2
    go_loopw [13] (fun i wr => ∃ j q : Nat, j ≤ n ∧ i = .int .i64 j ∧ w.drewN q = wr ∧ ∀ t, t < j → xs.getD t 0 = ys.getD t 0) (fun i _ => n - (intOf i).toNat)
    case atStart => exact ⟨0, 0, Nat.zero_le _, rfl, rfl, fun t ht => absurd ht (by omega)⟩
    case round =>
      obtain ⟨j, q, hj, rfl, rfl, hz⟩ := hrel
      have HZ := Lib.hid hz; clear hz
      by_cases hlt : j < n
      · have hia := ix h j hlt
        have hib := ix k j hlt
        obtain ⟨x, HX, hx0, hx1, hcx⟩ := h.at j hlt
        obtain ⟨y, HY, hy0, hy1, hcy⟩ := k.at j hlt
        by_cases hxy : x = y
        · subst hxy
          go_wp2
          go_quiet (fail)
          go_wp2
          go_roundw
          case rel => exact ⟨j + 1, _, by omega, by go_num, rfl, fun t ht => by
            by_cases e : t = j
            · rw [e, ← HX.out, ← HY.out]
            · exact HZ.out t (by omega)⟩
          case measure => simp [intOf]; omega
        · have hb : (x == y) = false := by simpa using hxy
          have hb' : (x != y) = true := by simpa using hxy
          go_wp2
          go_quiet (fail)
          go_wp2
          go_ret
          refine ⟨?_, dd _ _ _⟩
          have : xs ≠ ys := by
            intro e
            apply hxy
            rw [HX.out, HY.out, e]
          simp [this]
      · have he : xs = ys := list_eq_of (by rw [h.len, k.len]) (fun t => by
          by_cases e : t < j
          · exact HZ.out t e
          · rw [List.getD, List.getD, List.getElem?_eq_none (by rw [h.len]; omega), List.getElem?_eq_none (by rw [k.len]; omega)])
        have HE := Lib.hid he; clear he
        go_wp2
        go_ret
        exact ⟨by simp [HE.out], _, rfl⟩
  · have hb : ((n : Int) == (m : Int)) = false := by simp; omega
    have he : xs ≠ ys := by
      intro e
      apply hne
      rw [← h.len, ← k.len, e]
    have HE := Lib.hid he; clear he
    go_enter Tryz.func71, Tryz.ntmps71
    go_wp2
    go_ret
    exact ⟨by simp [HE.out], 0, rfl⟩


/-- In normal form. -/
def validR (s : Bool) (xs ys : List Int) : Bool := decide (s = (nf ⟨s, val xs, val ys⟩).s ∧ xs = limbs (nf ⟨s, val xs, val ys⟩).p ∧ ys = limbs (nf ⟨s, val xs, val ys⟩).q)

set_option maxHeartbeats 3200000 in
set_option maxRecDepth 100000 in
theorem valid_c (s : Bool) (ao bo : Option Addr) (n c m d : Nat) (xs ys : List Int) (w : World) (h : Lst .u32 w ao n c xs) (k : Lst .u32 w bo m d ys) (hn : n ≤ 1000000) (hm : m ≤ 1000000) :
    Calls Tryz.prog 51 #[.agg #[.bool s, .slice ao n c, .slice bo m d]] w fun e w' => e = .returned (.bool (validR s xs ys)) ∧ Below w.heap.size w w' := by
  have HN := Lib.hid (fun w1 (hb : Below w.heap.size w w1) => normal_c s ao bo n c m d xs ys w1 (h.below hb) (k.below hb) hn hm)
  obtain ⟨v, hv⟩ : ∃ v, Hid (v = validR s xs ys) := ⟨_, rfl⟩
  rw [← hv.out]
  have H := Lib.hid h; have K := Lib.hid k
  clear h k
  go_enter Tryz.func51, Tryz.ntmps51
  go_wp2_with fail
  have kA := Blk.new w 25 #[.bool s, .slice ao n c, .slice bo m d]
  have bb := (Below.refl w.heap.size w).alloc (Nat.le_refl _) (.cells #[.bool s, .slice ao n c, .slice bo m d] 25)
  obtain ⟨W0, hW0⟩ : ∃ W0, W0 = w.alloc (.cells #[.bool s, .slice ao n c, .slice bo m d] 25) := ⟨_, rfl⟩
  rw [← hW0] at kA bb ⊢
  clear hW0
  refine (HN.out W0 bb).mono ?_
  rintro e w1 ⟨t, a1, n1, c1, b1, m1, d1, rfl, ht, o1, o2, hn1, hm1, B1⟩
  have K1 := kA.on B1
  have BB1 := Lib.hid (bb.trans (B1.mono bb.size))
  have K2 := K1.alloc (.cells #[.bool t, .slice a1 n1 c1, .slice b1 m1 d1] 25)
  have F2 := Blk.new w1 25 #[.bool t, .slice a1 n1 c1, .slice b1 m1 d1]
  have BB2 := BB1.out.alloc BB1.out.size (.cells #[.bool t, .slice a1 n1 c1, .slice b1 m1 d1] 25)
  have L1 := o1.lst.below ((Below.refl w1.heap.size w1).alloc (Nat.le_refl _) (.cells #[.bool t, .slice a1 n1 c1, .slice b1 m1 d1] 25))
  have L2 := o2.lst.below ((Below.refl w1.heap.size w1).alloc (Nat.le_refl _) (.cells #[.bool t, .slice a1 n1 c1, .slice b1 m1 d1] 25))
  have M1 := H.out.below BB2
  have M2 := K.out.below BB2
  obtain ⟨y0, y1, y2⟩ := K2.cells3
  obtain ⟨yy0, yy1, yy2⟩ := F2.cells3
  obtain ⟨P, hP⟩ : ∃ P, Hid (P = limbs (nf ⟨s, val xs, val ys⟩).p) := ⟨_, rfl⟩
  obtain ⟨Q, hQ⟩ : ∃ Q, Hid (Q = limbs (nf ⟨s, val xs, val ys⟩).q) := ⟨_, rfl⟩
  rw [← hP.out] at L1
  rw [← hQ.out] at L2
  have hvv : v = decide (s = t ∧ xs = P ∧ ys = Q) := by rw [hv.out, hP.out, hQ.out, ht]; rfl
  have HV := Lib.hid hvv
  have E1 := equal_c _ _ _ _ _ _ _ _ _ M1 L1
  have E2 := fun q => equal_c _ _ _ _ _ _ _ _ _ (M2.drewN q) (L2.drewN q)
  have BB := Lib.hid BB2
  clear ht o1 o2 B1 bb kA K1 K2 F2 L1 L2 M1 M2 hvv BB2
  obtain ⟨W2, hW2⟩ : ∃ W2, W2 = w1.alloc (.cells #[.bool t, .slice a1 n1 c1, .slice b1 m1 d1] 25) := ⟨_, rfl⟩
  by_cases hs : s = t
  · subst hs
    have hbb : (s == s) = true := by simp
    by_cases hx : xs = P
    · have hd1 : decide (xs = P) = true := by simpa using hx
      have e2 : v = decide (ys = Q) := by rw [HV.out]; simp [hx]
      rw [hd1] at E1
      rw [← e2] at E2
      have E1 := Lib.hid E1; have E2 := Lib.hid E2
      clear hx hd1 e2 hW2
      go_wp2_with fail
      refine E1.out.mono ?_
      rintro e w' ⟨rfl, q, rfl⟩
      have B3 := Lib.hid (below_drewN BB.out q)
      go_wp2_with fail
      refine (E2.out q).mono ?_
      rintro e w' ⟨rfl, q2, rfl⟩
      go_wp2_with fail
      go_ret
      have B4 := below_drewN B3.out q2
      first
      | exact ⟨rfl, B4⟩
      | (rw [World.drewN_drewN] at B4; exact ⟨rfl, B4⟩)
    · have hd1 : decide (xs = P) = false := by simpa using hx
      have e2 : v = false := by rw [HV.out]; simp [hx]
      rw [hd1] at E1
      have E1 := Lib.hid E1
      subst e2
      clear hx hd1 hW2 E2
      go_wp2_with fail
      refine E1.out.mono ?_
      rintro e w' ⟨rfl, q, rfl⟩
      go_wp2_with fail
      go_ret
      exact ⟨rfl, below_drewN BB.out q⟩
  · have hbb : (s == t) = false := by simpa using hs
    have e2 : v = false := by rw [HV.out]; simp [hs]
    subst e2
    clear hs hW2 E1 E2
    go_wp2_with fail
    go_ret
    exact ⟨rfl, BB.out⟩
end Go.Proofs.YtmojcnlddfijjaaGreatDoor

/-
  ratio.Text.
-/
namespace Go.Proofs.YtmojcnlddfijjaaGreatDoor
open Go.RowKit NatMath RatMath

/-- Decimal digits. -/
def dg (v : Nat) : ByteArray := ⟨(Lib.decDigits v).toArray⟩
/-- The text of a number in normal form. -/
def tx (z : R) : ByteArray := if z.q = 1 then (if z.s then ⟨#[45]⟩ ++ dg z.p else dg z.p) else (if z.s then ⟨#[45]⟩ ++ dg z.p else dg z.p) ++ (⟨#[47]⟩ ++ dg z.q)
theorem dg_size {v : Nat} (h : v < 2 ^ 160) : (dg v).size ≤ 49 := by
  rw [dg, dec_size]
  exact dec_len 48 v (Nat.lt_of_lt_of_le h (by decide))

set_option maxHeartbeats 3200000 in
set_option maxRecDepth 100000 in
theorem rtext_c (s : Bool) (ao bo : Option Addr) (n c m d : Nat) (xs ys : List Int) (w : World) (h : Lst .u32 w ao n c xs) (k : Lst .u32 w bo m d ys) (hn : n ≤ 4) (hm : m ≤ 4) (htab : Tab w) :
    Calls Tryz.prog 28 #[.agg #[.bool s, .slice ao n c, .slice bo m d]] w fun e w' => e = .returned (.string (tx (nf ⟨s, val xs, val ys⟩))) ∧ Below w.heap.size w w' := by
  obtain ⟨z, hz⟩ : ∃ z, Hid (z = nf ⟨s, val xs, val ys⟩) := ⟨_, rfl⟩
  have HN := fun w1 (hb : Below w.heap.size w w1) => normal_c s ao bo n c m d xs ys w1 (h.below hb) (k.below hb) (by omega) (by omega)
  rw [← hz.out] at HN ⊢
  clear h k hz
  obtain ⟨t0, P, Q⟩ := z
  dsimp only at HN
  obtain ⟨T, hT⟩ : ∃ T, Hid (T = tx ⟨t0, P, Q⟩) := ⟨_, rfl⟩
  rw [← hT.out]
  have HN := Lib.hid HN
  have HT := Lib.hid htab
  clear htab
  go_enter Tryz.func28, Tryz.ntmps28
  go_wp2_with fail
  have kA := Blk.new w 25 #[.bool s, .slice ao n c, .slice bo m d]
  have bb := (Below.refl w.heap.size w).alloc (Nat.le_refl _) (.cells #[.bool s, .slice ao n c, .slice bo m d] 25)
  obtain ⟨W0, hW0⟩ : ∃ W0, W0 = w.alloc (.cells #[.bool s, .slice ao n c, .slice bo m d] 25) := ⟨_, rfl⟩
  rw [← hW0] at kA bb ⊢
  refine (HN.out W0 bb).mono ?_
  rintro e w1 ⟨t, a1, n1, c1, b1, m1, d1, rfl, ht, o1, o2, hn1, hm1, B1⟩
  have K1 := kA.on B1
  have BB1 := bb.trans (B1.mono bb.size)
  obtain ⟨q0, q1, q2, q3, q4, q5⟩ := K1.store3 (.bool t) (.slice a1 n1 c1)
  have h3 := o1.hi (g := w.heap.size) kA.lt
  have h4 := o2.hi (g := w.heap.size) kA.lt
  have O1 := (o1.low bb.size).put3 h3 (.bool t) (.slice a1 n1 c1) (.slice b1 m1 d1)
  have O2 := (o2.low bb.size).put3 h4 (.bool t) (.slice a1 n1 c1) (.slice b1 m1 d1)
  have K2 := K1.put3 (.bool t) (.slice a1 n1 c1) (.slice b1 m1 d1)
  have BB2 := below_put3 BB1 (Nat.le_refl _) (.bool t) (.slice a1 n1 c1) (.slice b1 m1 d1)
  obtain ⟨r0, r1, r2⟩ := K2.cells3
  subst ht
  have HO1 := Lib.hid O1; have HO2 := Lib.hid O2; have HB2 := Lib.hid BB2; have HK2 := Lib.hid K2
  have hx1 := text_c _ _ _ _ _ O1.lst (by omega) (HT.out.below BB2)
  rw [val_limbs] at hx1
  unfold put3 at r0 r1 r2 hx1
  have HX1 := Lib.hid hx1
  clear o1 o2 B1 hW0 bb kA O1 O2 BB2 BB1 K1 K2 h3 h4 hx1
  go_wp2_with fail
  refine HX1.out.mono ?_
  obtain ⟨D1, hD1⟩ : ∃ D1, Hid (D1 = dg P) := ⟨_, rfl⟩
  obtain ⟨D2, hD2⟩ : ∃ D2, Hid (D2 = dg Q) := ⟨_, rfl⟩
  have hPb : P < 2 ^ 160 := by
    have h1 := val_lt (limbs_ok P)
    rw [val_limbs, HO1.out.len] at h1
    have h2 : 4294967296 ^ n1 ≤ 4294967296 ^ 5 := Nat.pow_le_pow_right (by omega) (by omega)
    have h3 : (4294967296 : Nat) ^ 5 ≤ 2 ^ 160 := by decide
    omega
  have hQb : Q < 2 ^ 160 := by
    have h1 := val_lt (limbs_ok Q)
    rw [val_limbs, HO2.out.len] at h1
    have h2 : 4294967296 ^ m1 ≤ 4294967296 ^ 5 := Nat.pow_le_pow_right (by omega) (by omega)
    have h3 : (4294967296 : Nat) ^ 5 ≤ 2 ^ 160 := by decide
    omega
  have hs1 := dg_size hPb
  have hs2 := dg_size hQb
  rw [← hD1.out] at hs1
  rw [← hD2.out] at hs2
  clear hPb hQb
  rintro e w2 ⟨he, B2⟩
  have he2 : e = .returned (.string D1) := by rw [he, hD1.out]; rfl
  clear he
  subst he2
  have K3 := HK2.out.on B2
  have O1 := Lib.hid (HO1.out.kept B2)
  have O2 := Lib.hid (HO2.out.kept B2)
  have BB3 := Lib.hid (HB2.out.trans (B2.mono HB2.out.size))
  obtain ⟨y0, y1, y2⟩ := K3.cells3
  have DK : Hid (Blk w2.drew w.heap.size 25 #[.bool t, .slice a1 n1 c1, .slice b1 m1 d1]) := K3
  have DL : Hid (Lst .u32 w2.drew b1 m1 d1 (limbs Q)) := O2.out.lst.drewN 1
  have DB : Hid (Below w.heap.size w w2.drew) := BB3.out.drew
  clear K3 B2 r0 r1 r2 HO1 HO2 HB2 HK2
  cases t with
  | true =>
    have hcat : (({ data := #[45] } : ByteArray) ++ D1).size = 1 + D1.size := by rw [ByteArray.size_append]; rfl
    by_cases hq : Q = 1
    · have hc : cmpI (Q : Int) ((Int.toNat 1 : Nat) : Int) = 0 := by rw [hq]; decide
      have HTX : Hid (T = (⟨#[45]⟩ ++ D1)) := by show _ = _; rw [hT.out, hD1.out]; unfold tx; rw [if_pos hq]; rfl
      clear hq
      go_wp2_with fail
      go_region_held3 (fun w' => w'.cell? ⟨w.heap.size, 0, none⟩ = some (.bool true) ∧ w'.cell? ⟨w.heap.size, 1, none⟩ = some (.slice a1 n1 c1) ∧ w'.cell? ⟨w.heap.size, 2, none⟩ = some (.slice b1 m1 d1)) (go_keep) (first
        | (go_at_call 54; refine (of_c 1 w2.drew (by omega) (by omega)).mono ?_; rintro e v1 ⟨a3, n3, c3, hn3, rfl, o3, B1⟩; have A1 := DK.out.on B1; obtain ⟨z0, z1, z2⟩ := A1.cells3; have BB1 := DB.out.trans (B1.mono DB.out.size); have L1 := DL.out.below B1; have L3 := o3.lst)
        | (go_at_call 53; have hcm := cmp_c b1 a3 m1 d1 n3 c3 (limbs Q) (limbs (Int.toNat 1)) v1 L1 L3; rw [val_limbs, val_limbs, hc] at hcm; refine hcm.mono ?_; rintro e v2 ⟨rfl, q, rfl⟩; have BB2 := below_drewN BB1 q; clear hcm))
      go_wp2_with fail
      go_ret
      refine ⟨?_, ?_⟩
      · rw [HTX.out]; rfl
      · first
        | exact BB2
        | (rw [World.drewN_drewN] at BB2; exact BB2)
    · obtain ⟨g, hg⟩ : ∃ g, Hid (g = cmpI (Q : Int) ((Int.toNat 1 : Nat) : Int)) := ⟨_, rfl⟩
      have hg0 : (g == 0) = false := by
        rw [hg.out]
        unfold cmpI
        have : Int.toNat 1 = 1 := rfl
        rw [this]
        split
        · rfl
        · split
          · rfl
          · omega
      have HTX : Hid (T = (⟨#[45]⟩ ++ D1) ++ (⟨#[47]⟩ ++ D2)) := by show _ = _; rw [hT.out, hD1.out, hD2.out]; unfold tx; rw [if_neg hq]; rfl
      have hcat2 : (({ data := #[47] } : ByteArray) ++ D2).size = 1 + D2.size := by rw [ByteArray.size_append]; rfl
      clear hq
      go_wp2_with fail
      go_region_held3 (fun w' => w'.cell? ⟨w.heap.size, 0, none⟩ = some (.bool true) ∧ w'.cell? ⟨w.heap.size, 1, none⟩ = some (.slice a1 n1 c1) ∧ w'.cell? ⟨w.heap.size, 2, none⟩ = some (.slice b1 m1 d1)) (go_keep) (first
        | (go_at_call 54; refine (of_c 1 w2.drew (by omega) (by omega)).mono ?_; rintro e v1 ⟨a3, n3, c3, hn3, rfl, o3, B1⟩; have A1 := DK.out.on B1; obtain ⟨z0, z1, z2⟩ := A1.cells3; have BB1 := DB.out.trans (B1.mono DB.out.size); have L1 := DL.out.below B1; have L3 := o3.lst)
        | (go_at_call 53; have hcm := cmp_c b1 a3 m1 d1 n3 c3 (limbs Q) (limbs (Int.toNat 1)) v1 L1 L3; rw [val_limbs, val_limbs, ← hg.out] at hcm; refine hcm.mono ?_; rintro e v2 ⟨rfl, q, rfl⟩; have BB2 := below_drewN BB1 q; have A2 := A1.drewN q; obtain ⟨k0, k1, k2⟩ := A2.cells3; have L2 := L1.drewN q; clear hcm))
      have htb : Tab (v1.drewN q) := HT.out.below BB2
      have hx2 := text_c b1 m1 d1 (limbs Q) (v1.drewN q) L2 (by omega) htb
      rw [val_limbs] at hx2
      have HX2 := Lib.hid hx2
      clear hx2 htb
      go_wp2_with fail
      refine HX2.out.mono ?_
      rintro e v3 ⟨he, B3⟩
      have he2 : e = .returned (.string D2) := by rw [he, hD2.out]; rfl
      clear he
      subst he2
      go_wp2_with fail
      go_ret
      refine ⟨?_, BB2.trans (B3.mono BB2.size)⟩
      rw [HTX.out]
      rfl
  | false =>
    have hcat : (({ data := #[45] } : ByteArray) ++ D1).size = 1 + D1.size := by rw [ByteArray.size_append]; rfl
    by_cases hq : Q = 1
    · have hc : cmpI (Q : Int) ((Int.toNat 1 : Nat) : Int) = 0 := by rw [hq]; decide
      have HTX : Hid (T = D1) := by show _ = _; rw [hT.out, hD1.out]; unfold tx; rw [if_pos hq]; rfl
      clear hq
      go_wp2_with fail
      go_region_held3 (fun w' => w'.cell? ⟨w.heap.size, 0, none⟩ = some (.bool false) ∧ w'.cell? ⟨w.heap.size, 1, none⟩ = some (.slice a1 n1 c1) ∧ w'.cell? ⟨w.heap.size, 2, none⟩ = some (.slice b1 m1 d1)) (go_keep) (first
        | (go_at_call 54; refine (of_c 1 w2.drew (by omega) (by omega)).mono ?_; rintro e v1 ⟨a3, n3, c3, hn3, rfl, o3, B1⟩; have A1 := DK.out.on B1; obtain ⟨z0, z1, z2⟩ := A1.cells3; have BB1 := DB.out.trans (B1.mono DB.out.size); have L1 := DL.out.below B1; have L3 := o3.lst)
        | (go_at_call 53; have hcm := cmp_c b1 a3 m1 d1 n3 c3 (limbs Q) (limbs (Int.toNat 1)) v1 L1 L3; rw [val_limbs, val_limbs, hc] at hcm; refine hcm.mono ?_; rintro e v2 ⟨rfl, q, rfl⟩; have BB2 := below_drewN BB1 q; clear hcm))
      go_wp2_with fail
      go_ret
      refine ⟨?_, ?_⟩
      · rw [HTX.out]; rfl
      · first
        | exact BB2
        | (rw [World.drewN_drewN] at BB2; exact BB2)
    · obtain ⟨g, hg⟩ : ∃ g, Hid (g = cmpI (Q : Int) ((Int.toNat 1 : Nat) : Int)) := ⟨_, rfl⟩
      have hg0 : (g == 0) = false := by
        rw [hg.out]
        unfold cmpI
        have : Int.toNat 1 = 1 := rfl
        rw [this]
        split
        · rfl
        · split
          · rfl
          · omega
      have HTX : Hid (T = D1 ++ (⟨#[47]⟩ ++ D2)) := by show _ = _; rw [hT.out, hD1.out, hD2.out]; unfold tx; rw [if_neg hq]; rfl
      have hcat2 : (({ data := #[47] } : ByteArray) ++ D2).size = 1 + D2.size := by rw [ByteArray.size_append]; rfl
      clear hq
      go_wp2_with fail
      go_region_held3 (fun w' => w'.cell? ⟨w.heap.size, 0, none⟩ = some (.bool false) ∧ w'.cell? ⟨w.heap.size, 1, none⟩ = some (.slice a1 n1 c1) ∧ w'.cell? ⟨w.heap.size, 2, none⟩ = some (.slice b1 m1 d1)) (go_keep) (first
        | (go_at_call 54; refine (of_c 1 w2.drew (by omega) (by omega)).mono ?_; rintro e v1 ⟨a3, n3, c3, hn3, rfl, o3, B1⟩; have A1 := DK.out.on B1; obtain ⟨z0, z1, z2⟩ := A1.cells3; have BB1 := DB.out.trans (B1.mono DB.out.size); have L1 := DL.out.below B1; have L3 := o3.lst)
        | (go_at_call 53; have hcm := cmp_c b1 a3 m1 d1 n3 c3 (limbs Q) (limbs (Int.toNat 1)) v1 L1 L3; rw [val_limbs, val_limbs, ← hg.out] at hcm; refine hcm.mono ?_; rintro e v2 ⟨rfl, q, rfl⟩; have BB2 := below_drewN BB1 q; have A2 := A1.drewN q; obtain ⟨k0, k1, k2⟩ := A2.cells3; have L2 := L1.drewN q; clear hcm))
      have htb : Tab (v1.drewN q) := HT.out.below BB2
      have hx2 := text_c b1 m1 d1 (limbs Q) (v1.drewN q) L2 (by omega) htb
      rw [val_limbs] at hx2
      have HX2 := Lib.hid hx2
      clear hx2 htb
      go_wp2_with fail
      refine HX2.out.mono ?_
      rintro e v3 ⟨he, B3⟩
      have he2 : e = .returned (.string D2) := by rw [he, hD2.out]; rfl
      clear he
      subst he2
      go_wp2_with fail
      go_ret
      refine ⟨?_, BB2.trans (B3.mono BB2.size)⟩
      rw [HTX.out]
      rfl
end Go.Proofs.YtmojcnlddfijjaaGreatDoor

/-
  ratio.Parse.
-/
namespace Go.Proofs.YtmojcnlddfijjaaGreatDoor
open Go.RowKit NatMath RatMath

/-- The text behind a leading '-'. -/
def unsigned (s : ByteArray) : ByteArray := ⟨(Lib.trimPrefix s.data.toList [45]).toArray⟩
def signed (s : ByteArray) : Bool := Lib.hasPrefix s.data.toList [45]
/-- The parts that Parse reads. -/
def numT (s : ByteArray) : ByteArray := (cutB (unsigned s) 47).1
def denT (s : ByteArray) : ByteArray := if (cutB (unsigned s) 47).2.2 then (cutB (unsigned s) 47).2.1 else ⟨#[49]⟩
/-- Whether Parse takes s. -/
noncomputable def okP (s : ByteArray) : Bool := numB (numT s) && numB (denT s) && !(decide (denT s = ⟨#[49]⟩) && (cutB (unsigned s) 47).2.2) && validR (signed s) (pv (numT s)) (pv (denT s))

theorem unsigned_size (s : ByteArray) : (unsigned s).size ≤ s.size := by
  unfold unsigned Lib.trimPrefix
  show (List.toArray _).size ≤ s.data.size
  split <;> simp
theorem toList_49 (b : ByteArray) : b.toList = [49] ↔ b = ⟨#[49]⟩ := by
  rw [ByteArray.toList_eq]
  constructor
  · intro h
    obtain ⟨⟨l⟩⟩ := b
    simp at h
    rw [h]
  · intro h
    rw [h]

set_option maxHeartbeats 6400000 in
set_option maxRecDepth 100000 in
theorem rparse_c (s : ByteArray) (w : World) (hs : s.size ≤ 1048576) (hnt : (numT s).size ≤ 40) (hdt : (denT s).size ≤ 40) :
    Calls Tryz.prog 27 #[.string s] w fun e w' => ∃ b a n c a' n' c', e = .returned (.tuple #[.agg #[.bool b, .slice a n c, .slice a' n' c'], .bool (okP s)]) ∧ n ≤ 42 ∧ n' ≤ 42 ∧ (okP s = true → b = signed s ∧ Own 66 .u32 w.heap.size w' a n c (pv (numT s)) ∧ Own 66 .u32 w.heap.size w' a' n' c' (pv (denT s))) ∧ (okP s = false → b = false ∧ Own 66 .u32 w.heap.size w' a n c [] ∧ Own 66 .u32 w.heap.size w' a' n' c' []) ∧ Below w.heap.size w w' := by
  have s0 := unsigned_size s
  obtain ⟨s1, s2⟩ := cut_size (unsigned s) 47
  have hp := fun w => Tryz.strings_CutPrefix s ⟨#[45]⟩ w
  obtain ⟨U, hU⟩ : ∃ U, Hid (U = unsigned s) := ⟨_, rfl⟩
  obtain ⟨G, hG⟩ : ∃ G, Hid (G = signed s) := ⟨_, rfl⟩
  have HP : Hid (∀ w, Calls Tryz.prog 48 #[.string s, .string ⟨#[45]⟩] w fun e w' => e = .returned (.tuple #[.string U, .bool G]) ∧ w' = w) := by
    show ∀ w, _
    rw [hU.out, hG.out]
    exact hp
  clear hp
  have HC := Lib.hid (fun w => cut_c U 47 w (by rw [hU.out]; omega))
  obtain ⟨K, hK⟩ : ∃ K, Hid (K = okP s) := ⟨_, rfl⟩
  have hden : denT s = if (cutB U 47).2.2 then (cutB U 47).2.1 else ⟨#[49]⟩ := by rw [hU.out]; rfl
  have hnum : numT s = (cutB U 47).1 := by rw [hU.out]; rfl
  have hkk : K = (numB (numT s) && numB (denT s) && !(decide (denT s = ⟨#[49]⟩) && (cutB U 47).2.2) && validR G (pv (numT s)) (pv (denT s))) := by rw [hK.out, hU.out, hG.out]; rfl
  rw [hden, hnum] at hkk
  rw [hnum] at hnt
  rw [hden] at hdt
  rw [hden, hnum, ← hK.out, ← hG.out]
  rw [← hU.out] at s0 s1 s2
  obtain ⟨⟨NT, D0, F⟩, hT⟩ : ∃ z, Hid (z = cutB U 47) := ⟨_, rfl⟩
  rw [← hT.out] at hkk s1 s2 HC hnt hdt ⊢
  dsimp only at hkk s1 s2 HC hnt hdt ⊢
  clear hden hnum hT hK
  clear hU hG
  have HN := Lib.hid (fun w => parseU_c NT w hnt)
  clear hnt
  cases F with
  | true =>
    have hds : (D0 : ByteArray).size ≤ 40 := by simpa using hdt
    have HD := Lib.hid (fun w => parseU_c D0 w hds)
    simp only [if_true, Bool.and_true] at hkk ⊢
    have HK := Lib.hid hkk
    clear hkk s0 s1 s2 hds hdt
    obtain ⟨N1, hN1⟩ : ∃ z, Hid (z = numB NT) := ⟨_, rfl⟩
    obtain ⟨N2, hN2⟩ : ∃ z, Hid (z = numB D0) := ⟨_, rfl⟩
    rw [← hN1.out] at HN HK
    rw [← hN2.out] at HD HK
    clear hN1 hN2
    obtain ⟨X, hX⟩ : ∃ z, Hid (z = pv NT) := ⟨_, rfl⟩
    obtain ⟨Y, hY⟩ : ∃ z, Hid (z = pv D0) := ⟨_, rfl⟩
    rw [← hX.out] at HN HK ⊢
    rw [← hY.out] at HD HK ⊢
    clear hX hY
    obtain ⟨E, hE⟩ : ∃ z, Hid (z = decide (D0 = ⟨#[49]⟩)) := ⟨_, rfl⟩
    rw [← hE.out] at HK
    go_enter Tryz.func27, Tryz.ntmps27
    go_wp2_with fail
    have kZ := Blk.new w 25 #[.bool false, .slice none 0 0, .slice none 0 0]
    have bb := (Below.refl w.heap.size w).alloc (Nat.le_refl _) (.cells #[.bool false, .slice none 0 0, .slice none 0 0] 25)
    obtain ⟨W0, hW0⟩ : ∃ W0, W0 = w.alloc (.cells #[.bool false, .slice none 0 0, .slice none 0 0] 25) := ⟨_, rfl⟩
    rw [← hW0] at kZ bb ⊢
    clear hW0
    refine (HP.out _).mono ?_
    rintro e w' ⟨rfl, rfl⟩
    go_wp2_with fail
    refine (HC.out _).mono ?_
    rintro e w' ⟨rfl, q, rfl⟩
    have kZ := kZ.drewN q
    have bb := below_drewN bb q
    go_wp2_with fail
    refine (HN.out _).mono ?_
    rintro e w1 ⟨a1, n1, c1, hn1, rfl, o1, B1⟩
    have o1 := o1.low kZ.lt
    have kZ := kZ.on B1
    have bb := bb.trans (B1.mono bb.size)
    clear B1
    go_wp2_with fail
    refine (HD.out _).mono ?_
    rintro e w2 ⟨a2, n2, c2, hn2, rfl, o2, B2⟩
    have o2 := o2.low kZ.lt
    have kZ := kZ.on B2
    have o1 := o1.kept B2
    have bb := bb.trans (B2.mono bb.size)
    clear B2
    have o1 := o1.kept ((Below.refl w2.heap.size w2).alloc (Nat.le_refl _) (.cells #[.bool G, .slice a1 n1 c1, .slice a2 n2 c2] 25))
    have o2 := o2.kept ((Below.refl w2.heap.size w2).alloc (Nat.le_refl _) (.cells #[.bool G, .slice a1 n1 c1, .slice a2 n2 c2] 25))
    have kA := Blk.new w2 25 #[.bool G, .slice a1 n1 c1, .slice a2 n2 c2]
    have kZ := kZ.alloc (.cells #[.bool G, .slice a1 n1 c1, .slice a2 n2 c2] 25)
    have bb := bb.alloc bb.size (.cells #[.bool G, .slice a1 n1 c1, .slice a2 n2 c2] 25)
    have HB := Lib.hid bb
    have HO1 := Lib.hid o1
    have HO2 := Lib.hid o2
    obtain ⟨y0, y1, y2⟩ := kA.cells3
    obtain ⟨q0, q1, q2, q3, q4, q5⟩ := kZ.store3 (.bool false) (.slice none 0 0)
    have HA := Lib.hid kA
    have HZ := Lib.hid kZ
    clear bb o1 o2 kA kZ
    cases N1 with
    | false =>
      go_wp2_with fail
      have pbox := HZ.out.put3 (.bool false) (.slice none 0 0) (.slice none 0 0)
      have pbel := below_put3 HB.out (Nat.le_refl _) (.bool false) (.slice none 0 0) (.slice none 0 0)
      change bodyPost _ _ _ _ _ (put3 (w2.alloc (.cells #[.bool G, .slice a1 n1 c1, .slice a2 n2 c2] 25)) w.heap.size (.bool false) (.slice none 0 0) (.slice none 0 0))
      obtain ⟨W, hW⟩ : ∃ W, W = put3 (w2.alloc (.cells #[.bool G, .slice a1 n1 c1, .slice a2 n2 c2] 25)) w.heap.size (.bool false) (.slice none 0 0) (.slice none 0 0) := ⟨_, rfl⟩
      rw [← hW] at pbox pbel ⊢
      obtain ⟨r0, r1, r2⟩ := pbox.cells3
      refine bodyPost_ret (v := .tuple #[.agg #[.bool false, .slice none 0 0, .slice none 0 0], .bool false]) (by simp [results, Tryz.results27, go_sem, r0, r1, r2]) rfl ?_
      have hk : K = false := by rw [HK.out]; rfl
      exact ⟨false, none, 0, 0, none, 0, 0, by rw [hk], by omega, by omega, (fun h => by rw [hk] at h; cases h), fun _ => ⟨rfl, own_nil _ _ _ _, own_nil _ _ _ _⟩, pbel⟩
    | true =>
      cases N2 with
      | false =>
        go_wp2_with fail
        have pbox := HZ.out.put3 (.bool false) (.slice none 0 0) (.slice none 0 0)
        have pbel := below_put3 HB.out (Nat.le_refl _) (.bool false) (.slice none 0 0) (.slice none 0 0)
        change bodyPost _ _ _ _ _ (put3 (w2.alloc (.cells #[.bool G, .slice a1 n1 c1, .slice a2 n2 c2] 25)) w.heap.size (.bool false) (.slice none 0 0) (.slice none 0 0))
        obtain ⟨W, hW⟩ : ∃ W, W = put3 (w2.alloc (.cells #[.bool G, .slice a1 n1 c1, .slice a2 n2 c2] 25)) w.heap.size (.bool false) (.slice none 0 0) (.slice none 0 0) := ⟨_, rfl⟩
        rw [← hW] at pbox pbel ⊢
        obtain ⟨r0, r1, r2⟩ := pbox.cells3
        refine bodyPost_ret (v := .tuple #[.agg #[.bool false, .slice none 0 0, .slice none 0 0], .bool false]) (by simp [results, Tryz.results27, go_sem, r0, r1, r2]) rfl ?_
        have hk : K = false := by rw [HK.out]; rfl
        exact ⟨false, none, 0, 0, none, 0, 0, by rw [hk], by omega, by omega, (fun h => by rw [hk] at h; cases h), fun _ => ⟨rfl, own_nil _ _ _ _, own_nil _ _ _ _⟩, pbel⟩
      | true =>
        by_cases hE49 : D0.toList = [49]
        · have he : E = true := by rw [hE.out]; exact decide_eq_true ((toList_49 D0).mp hE49)
          subst he
          go_wp2_with fail
          have pbox := HZ.out.put3 (.bool false) (.slice none 0 0) (.slice none 0 0)
          have pbel := below_put3 HB.out (Nat.le_refl _) (.bool false) (.slice none 0 0) (.slice none 0 0)
          change bodyPost _ _ _ _ _ (put3 (w2.alloc (.cells #[.bool G, .slice a1 n1 c1, .slice a2 n2 c2] 25)) w.heap.size (.bool false) (.slice none 0 0) (.slice none 0 0))
          obtain ⟨W, hW⟩ : ∃ W, W = put3 (w2.alloc (.cells #[.bool G, .slice a1 n1 c1, .slice a2 n2 c2] 25)) w.heap.size (.bool false) (.slice none 0 0) (.slice none 0 0) := ⟨_, rfl⟩
          rw [← hW] at pbox pbel ⊢
          obtain ⟨r0, r1, r2⟩ := pbox.cells3
          refine bodyPost_ret (v := .tuple #[.agg #[.bool false, .slice none 0 0, .slice none 0 0], .bool false]) (by simp [results, Tryz.results27, go_sem, r0, r1, r2]) rfl ?_
          have hk : K = false := by rw [HK.out]; rfl
          exact ⟨false, none, 0, 0, none, 0, 0, by rw [hk], by omega, by omega, (fun h => by rw [hk] at h; cases h), fun _ => ⟨rfl, own_nil _ _ _ _, own_nil _ _ _ _⟩, pbel⟩
        · have he : E = false := by rw [hE.out]; exact decide_eq_false (fun h => hE49 ((toList_49 D0).mpr h))
          subst he
          have HVC := Lib.hid (valid_c G a1 a2 n1 c1 n2 c2 X Y _ HO1.out.lst HO2.out.lst (by omega) (by omega))
          obtain ⟨V, hV⟩ : ∃ V, Hid (V = validR G X Y) := ⟨_, rfl⟩
          rw [← hV.out] at HVC HK
          clear hV
          go_wp2_with fail
          refine HVC.out.mono ?_
          rintro e w3 ⟨rfl, B3⟩
          have HB3 := Lib.hid (HB.out.trans (B3.mono HB.out.size))
          have HO13 := Lib.hid (HO1.out.kept B3)
          have HO23 := Lib.hid (HO2.out.kept B3)
          have hZ3 := HZ.out.on B3
          obtain ⟨y0, y1, y2⟩ := (HA.out.on B3).cells3
          have HZ3 := Lib.hid hZ3
          clear B3
          cases V with
          | false =>
            obtain ⟨q0, q1, q2, q3, q4, q5⟩ := HZ3.out.store3 (.bool false) (.slice none 0 0)
            clear hZ3
            go_wp2_with fail
            have pbox := HZ3.out.put3 (.bool false) (.slice none 0 0) (.slice none 0 0)
            have pbel := below_put3 HB3.out (Nat.le_refl _) (.bool false) (.slice none 0 0) (.slice none 0 0)
            change bodyPost _ _ _ _ _ (put3 w3 w.heap.size (.bool false) (.slice none 0 0) (.slice none 0 0))
            obtain ⟨W, hW⟩ : ∃ W, W = put3 w3 w.heap.size (.bool false) (.slice none 0 0) (.slice none 0 0) := ⟨_, rfl⟩
            rw [← hW] at pbox pbel ⊢
            obtain ⟨r0, r1, r2⟩ := pbox.cells3
            refine bodyPost_ret (v := .tuple #[.agg #[.bool false, .slice none 0 0, .slice none 0 0], .bool false]) (by simp [results, Tryz.results27, go_sem, r0, r1, r2]) rfl ?_
            have hk : K = false := by rw [HK.out]; rfl
            exact ⟨false, none, 0, 0, none, 0, 0, by rw [hk], by omega, by omega, (fun h => by rw [hk] at h; cases h), fun _ => ⟨rfl, own_nil _ _ _ _, own_nil _ _ _ _⟩, pbel⟩
          | true =>
            obtain ⟨q0, q1, q2, q3, q4, q5⟩ := HZ3.out.store3 (.bool G) (.slice a1 n1 c1)
            clear hZ3
            go_wp2_with fail
            have pbox := HZ3.out.put3 (.bool G) (.slice a1 n1 c1) (.slice a2 n2 c2)
            have pbel := below_put3 HB3.out (Nat.le_refl _) (.bool G) (.slice a1 n1 c1) (.slice a2 n2 c2)
            have p1 := (HO13.out.put3 (HO13.out.hi (g := w.heap.size) (Nat.lt_succ_self _)) (.bool G) (.slice a1 n1 c1) (.slice a2 n2 c2)).low (Nat.le_succ _)
            have p2 := (HO23.out.put3 (HO23.out.hi (g := w.heap.size) (Nat.lt_succ_self _)) (.bool G) (.slice a1 n1 c1) (.slice a2 n2 c2)).low (Nat.le_succ _)
            change bodyPost _ _ _ _ _ (put3 w3 w.heap.size (.bool G) (.slice a1 n1 c1) (.slice a2 n2 c2))
            obtain ⟨W, hW⟩ : ∃ W, W = put3 w3 w.heap.size (.bool G) (.slice a1 n1 c1) (.slice a2 n2 c2) := ⟨_, rfl⟩
            rw [← hW] at pbox pbel p1 p2 ⊢
            obtain ⟨r0, r1, r2⟩ := pbox.cells3
            refine bodyPost_ret (v := .tuple #[.agg #[.bool G, .slice a1 n1 c1, .slice a2 n2 c2], .bool true]) (by simp [results, Tryz.results27, go_sem, r0, r1, r2]) rfl ?_
            have hk : K = true := by rw [HK.out]; rfl
            exact ⟨G, a1, n1, c1, a2, n2, c2, by rw [hk], hn1, hn2, fun _ => ⟨rfl, p1, p2⟩, (fun h => by rw [hk] at h; cases h), pbel⟩
  | false =>
    have hds : (⟨#[49]⟩ : ByteArray).size ≤ 40 := by show (1 : Nat) ≤ 40; omega
    have HD := Lib.hid (fun w => parseU_c ⟨#[49]⟩ w hds)
    simp only [Bool.false_eq_true, if_false, Bool.and_false, Bool.not_false, Bool.and_true] at hkk ⊢
    have HK := Lib.hid hkk
    clear hkk s0 s1 s2 hds hdt
    obtain ⟨N1, hN1⟩ : ∃ z, Hid (z = numB NT) := ⟨_, rfl⟩
    obtain ⟨N2, hN2⟩ : ∃ z, Hid (z = numB ⟨#[49]⟩) := ⟨_, rfl⟩
    rw [← hN1.out] at HN HK
    rw [← hN2.out] at HD HK
    clear hN1 hN2
    obtain ⟨X, hX⟩ : ∃ z, Hid (z = pv NT) := ⟨_, rfl⟩
    obtain ⟨Y, hY⟩ : ∃ z, Hid (z = pv ⟨#[49]⟩) := ⟨_, rfl⟩
    rw [← hX.out] at HN HK ⊢
    rw [← hY.out] at HD HK ⊢
    clear hX hY
    go_enter Tryz.func27, Tryz.ntmps27
    go_wp2_with fail
    have kZ := Blk.new w 25 #[.bool false, .slice none 0 0, .slice none 0 0]
    have bb := (Below.refl w.heap.size w).alloc (Nat.le_refl _) (.cells #[.bool false, .slice none 0 0, .slice none 0 0] 25)
    obtain ⟨W0, hW0⟩ : ∃ W0, W0 = w.alloc (.cells #[.bool false, .slice none 0 0, .slice none 0 0] 25) := ⟨_, rfl⟩
    rw [← hW0] at kZ bb ⊢
    clear hW0
    refine (HP.out _).mono ?_
    rintro e w' ⟨rfl, rfl⟩
    go_wp2_with fail
    refine (HC.out _).mono ?_
    rintro e w' ⟨rfl, q, rfl⟩
    have kZ := kZ.drewN q
    have bb := below_drewN bb q
    go_wp2_with fail
    refine (HN.out _).mono ?_
    rintro e w1 ⟨a1, n1, c1, hn1, rfl, o1, B1⟩
    have o1 := o1.low kZ.lt
    have kZ := kZ.on B1
    have bb := bb.trans (B1.mono bb.size)
    clear B1
    go_wp2_with fail
    refine (HD.out _).mono ?_
    rintro e w2 ⟨a2, n2, c2, hn2, rfl, o2, B2⟩
    have o2 := o2.low kZ.lt
    have kZ := kZ.on B2
    have o1 := o1.kept B2
    have bb := bb.trans (B2.mono bb.size)
    clear B2
    have o1 := o1.kept ((Below.refl w2.heap.size w2).alloc (Nat.le_refl _) (.cells #[.bool G, .slice a1 n1 c1, .slice a2 n2 c2] 25))
    have o2 := o2.kept ((Below.refl w2.heap.size w2).alloc (Nat.le_refl _) (.cells #[.bool G, .slice a1 n1 c1, .slice a2 n2 c2] 25))
    have kA := Blk.new w2 25 #[.bool G, .slice a1 n1 c1, .slice a2 n2 c2]
    have kZ := kZ.alloc (.cells #[.bool G, .slice a1 n1 c1, .slice a2 n2 c2] 25)
    have bb := bb.alloc bb.size (.cells #[.bool G, .slice a1 n1 c1, .slice a2 n2 c2] 25)
    have HB := Lib.hid bb
    have HO1 := Lib.hid o1
    have HO2 := Lib.hid o2
    obtain ⟨y0, y1, y2⟩ := kA.cells3
    obtain ⟨q0, q1, q2, q3, q4, q5⟩ := kZ.store3 (.bool false) (.slice none 0 0)
    have HA := Lib.hid kA
    have HZ := Lib.hid kZ
    clear bb o1 o2 kA kZ
    cases N1 with
    | false =>
      go_wp2_with fail
      have pbox := HZ.out.put3 (.bool false) (.slice none 0 0) (.slice none 0 0)
      have pbel := below_put3 HB.out (Nat.le_refl _) (.bool false) (.slice none 0 0) (.slice none 0 0)
      change bodyPost _ _ _ _ _ (put3 (w2.alloc (.cells #[.bool G, .slice a1 n1 c1, .slice a2 n2 c2] 25)) w.heap.size (.bool false) (.slice none 0 0) (.slice none 0 0))
      obtain ⟨W, hW⟩ : ∃ W, W = put3 (w2.alloc (.cells #[.bool G, .slice a1 n1 c1, .slice a2 n2 c2] 25)) w.heap.size (.bool false) (.slice none 0 0) (.slice none 0 0) := ⟨_, rfl⟩
      rw [← hW] at pbox pbel ⊢
      obtain ⟨r0, r1, r2⟩ := pbox.cells3
      refine bodyPost_ret (v := .tuple #[.agg #[.bool false, .slice none 0 0, .slice none 0 0], .bool false]) (by simp [results, Tryz.results27, go_sem, r0, r1, r2]) rfl ?_
      have hk : K = false := by rw [HK.out]; rfl
      exact ⟨false, none, 0, 0, none, 0, 0, by rw [hk], by omega, by omega, (fun h => by rw [hk] at h; cases h), fun _ => ⟨rfl, own_nil _ _ _ _, own_nil _ _ _ _⟩, pbel⟩
    | true =>
      cases N2 with
      | false =>
        go_wp2_with fail
        have pbox := HZ.out.put3 (.bool false) (.slice none 0 0) (.slice none 0 0)
        have pbel := below_put3 HB.out (Nat.le_refl _) (.bool false) (.slice none 0 0) (.slice none 0 0)
        change bodyPost _ _ _ _ _ (put3 (w2.alloc (.cells #[.bool G, .slice a1 n1 c1, .slice a2 n2 c2] 25)) w.heap.size (.bool false) (.slice none 0 0) (.slice none 0 0))
        obtain ⟨W, hW⟩ : ∃ W, W = put3 (w2.alloc (.cells #[.bool G, .slice a1 n1 c1, .slice a2 n2 c2] 25)) w.heap.size (.bool false) (.slice none 0 0) (.slice none 0 0) := ⟨_, rfl⟩
        rw [← hW] at pbox pbel ⊢
        obtain ⟨r0, r1, r2⟩ := pbox.cells3
        refine bodyPost_ret (v := .tuple #[.agg #[.bool false, .slice none 0 0, .slice none 0 0], .bool false]) (by simp [results, Tryz.results27, go_sem, r0, r1, r2]) rfl ?_
        have hk : K = false := by rw [HK.out]; rfl
        exact ⟨false, none, 0, 0, none, 0, 0, by rw [hk], by omega, by omega, (fun h => by rw [hk] at h; cases h), fun _ => ⟨rfl, own_nil _ _ _ _, own_nil _ _ _ _⟩, pbel⟩
      | true =>
        have HVC := Lib.hid (valid_c G a1 a2 n1 c1 n2 c2 X Y _ HO1.out.lst HO2.out.lst (by omega) (by omega))
        obtain ⟨V, hV⟩ : ∃ V, Hid (V = validR G X Y) := ⟨_, rfl⟩
        rw [← hV.out] at HVC HK
        clear hV
        go_wp2_with fail
        refine HVC.out.mono ?_
        rintro e w3 ⟨rfl, B3⟩
        have HB3 := Lib.hid (HB.out.trans (B3.mono HB.out.size))
        have HO13 := Lib.hid (HO1.out.kept B3)
        have HO23 := Lib.hid (HO2.out.kept B3)
        have hZ3 := HZ.out.on B3
        obtain ⟨y0, y1, y2⟩ := (HA.out.on B3).cells3
        have HZ3 := Lib.hid hZ3
        clear B3
        cases V with
        | false =>
          obtain ⟨q0, q1, q2, q3, q4, q5⟩ := HZ3.out.store3 (.bool false) (.slice none 0 0)
          clear hZ3
          go_wp2_with fail
          have pbox := HZ3.out.put3 (.bool false) (.slice none 0 0) (.slice none 0 0)
          have pbel := below_put3 HB3.out (Nat.le_refl _) (.bool false) (.slice none 0 0) (.slice none 0 0)
          change bodyPost _ _ _ _ _ (put3 w3 w.heap.size (.bool false) (.slice none 0 0) (.slice none 0 0))
          obtain ⟨W, hW⟩ : ∃ W, W = put3 w3 w.heap.size (.bool false) (.slice none 0 0) (.slice none 0 0) := ⟨_, rfl⟩
          rw [← hW] at pbox pbel ⊢
          obtain ⟨r0, r1, r2⟩ := pbox.cells3
          refine bodyPost_ret (v := .tuple #[.agg #[.bool false, .slice none 0 0, .slice none 0 0], .bool false]) (by simp [results, Tryz.results27, go_sem, r0, r1, r2]) rfl ?_
          have hk : K = false := by rw [HK.out]; rfl
          exact ⟨false, none, 0, 0, none, 0, 0, by rw [hk], by omega, by omega, (fun h => by rw [hk] at h; cases h), fun _ => ⟨rfl, own_nil _ _ _ _, own_nil _ _ _ _⟩, pbel⟩
        | true =>
          obtain ⟨q0, q1, q2, q3, q4, q5⟩ := HZ3.out.store3 (.bool G) (.slice a1 n1 c1)
          clear hZ3
          go_wp2_with fail
          have pbox := HZ3.out.put3 (.bool G) (.slice a1 n1 c1) (.slice a2 n2 c2)
          have pbel := below_put3 HB3.out (Nat.le_refl _) (.bool G) (.slice a1 n1 c1) (.slice a2 n2 c2)
          have p1 := (HO13.out.put3 (HO13.out.hi (g := w.heap.size) (Nat.lt_succ_self _)) (.bool G) (.slice a1 n1 c1) (.slice a2 n2 c2)).low (Nat.le_succ _)
          have p2 := (HO23.out.put3 (HO23.out.hi (g := w.heap.size) (Nat.lt_succ_self _)) (.bool G) (.slice a1 n1 c1) (.slice a2 n2 c2)).low (Nat.le_succ _)
          change bodyPost _ _ _ _ _ (put3 w3 w.heap.size (.bool G) (.slice a1 n1 c1) (.slice a2 n2 c2))
          obtain ⟨W, hW⟩ : ∃ W, W = put3 w3 w.heap.size (.bool G) (.slice a1 n1 c1) (.slice a2 n2 c2) := ⟨_, rfl⟩
          rw [← hW] at pbox pbel p1 p2 ⊢
          obtain ⟨r0, r1, r2⟩ := pbox.cells3
          refine bodyPost_ret (v := .tuple #[.agg #[.bool G, .slice a1 n1 c1, .slice a2 n2 c2], .bool true]) (by simp [results, Tryz.results27, go_sem, r0, r1, r2]) rfl ?_
          have hk : K = true := by rw [HK.out]; rfl
          exact ⟨G, a1, n1, c1, a2, n2, c2, by rw [hk], hn1, hn2, fun _ => ⟨rfl, p1, p2⟩, (fun h => by rw [hk] at h; cases h), pbel⟩
end Go.Proofs.YtmojcnlddfijjaaGreatDoor

/-
  ratio.Parse reads back what ratio.Text writes.
-/
namespace Go.Proofs.YtmojcnlddfijjaaGreatDoor
open Go.RowKit NatMath RatMath

theorem dg_list (v : Nat) : (dg v).data.toList = Lib.decDigits v := rfl
theorem tx_list (z : R) : (tx z).data.toList = (if z.s then [45] else []) ++ Lib.decDigits z.p ++ (if z.q = 1 then [] else 47 :: Lib.decDigits z.q) := by
  unfold tx
  by_cases hq : z.q = 1
  · rw [if_pos hq, if_pos hq]
    cases z.s <;> simp [ByteArray.data_append, dg_list]
  · rw [if_neg hq, if_neg hq]
    cases z.s <;> simp [ByteArray.data_append, dg_list]
/-- The text without its sign. -/
def bodyT (z : R) : List UInt8 := Lib.decDigits z.p ++ (if z.q = 1 then [] else 47 :: Lib.decDigits z.q)
theorem tx_sign (z : R) : signed (tx z) = z.s ∧ (unsigned (tx z)).data.toList = bodyT z := by
  have hl := tx_list z
  unfold signed unsigned Lib.trimPrefix Lib.hasPrefix
  rw [hl]
  cases hs : z.s with
  | true => simp [bodyT]
  | false =>
    obtain ⟨x, l, hx⟩ : ∃ x l, Lib.decDigits z.p = x :: l := by
      cases h : Lib.decDigits z.p with
      | nil => exact absurd h (dec_ne _)
      | cons x l => exact ⟨x, l, rfl⟩
    have hne := dec_not (v := z.p) (c := 45) (by decide) x (by rw [hx]; exact List.mem_cons_self ..)
    have hb : ((45 : UInt8) == x) = false := by simpa using fun e => hne e.symm
    simp [bodyT, hx, hb, List.isPrefixOf]
theorem tx_cut (z : R) : cutB (unsigned (tx z)) 47 = (dg z.p, (if z.q = 1 then ⟨#[]⟩ else dg z.q), decide (z.q ≠ 1)) := by
  have hu := (tx_sign z).2
  unfold bodyT at hu
  by_cases hq : z.q = 1
  · rw [if_pos hq, List.append_nil] at hu
    rw [cutB_miss1 _ _ (by rw [hu]; exact dec_not (by decide)), if_pos hq]
    have : unsigned (tx z) = dg z.p := bytes_ext hu
    rw [this]
    simp [hq]
  · rw [if_neg hq] at hu
    rw [cutB_hit1 _ _ _ _ hu (dec_not (by decide)), if_neg hq]
    simp [hq, dg]
theorem dg_1 : dg 1 = ⟨#[49]⟩ := by
  unfold dg
  rw [Lib.decDigits_one (by omega)]
  rfl
theorem dg_inj {a b : Nat} (h : dg a = dg b) : a = b := by
  have h1 := dec_num a
  have h2 := dec_num b
  have e : Lib.decDigits a = Lib.decDigits b := congrArg (fun z => z.data.toList) h
  rw [← h1, ← h2, e]
theorem pv_dg (v : Nat) : pv (dg v) = limbs v := by
  unfold pv
  have hn : numB (dg v) = true := dec_numeral v
  rw [if_pos hn]
  congr 1
  have := dec_num v
  rw [← dec_size] at this
  exact this
theorem tx_parts (z : R) : numT (tx z) = dg z.p ∧ denT (tx z) = dg z.q := by
  unfold numT denT
  rw [tx_cut]
  refine ⟨rfl, ?_⟩
  by_cases hq : z.q = 1
  · simp [hq, dg_1]
  · simp [hq]
theorem dg_size20 {v : Nat} (h : v < 2 ^ 64) : (dg v).size ≤ 20 := by
  rw [dg, dec_size]
  exact dec_len 19 v (Nat.lt_of_lt_of_le h (by decide))
theorem parts_size (s : ByteArray) : (numT s).size ≤ s.size ∧ (denT s).size ≤ max s.size 1 := by
  have h0 := unsigned_size s
  obtain ⟨h1, h2⟩ := cut_size (unsigned s) 47
  refine ⟨Nat.le_trans h1 h0, ?_⟩
  unfold denT
  split
  · omega
  · exact Nat.le_max_right _ _
theorem tx_size {z : R} (h1 : z.p < 2 ^ 64) (h2 : z.q < 2 ^ 64) : (tx z).size ≤ 42 := by
  have e1 := dg_size20 h1
  have e2 := dg_size20 h2
  have e45 : (⟨#[45]⟩ : ByteArray).size = 1 := rfl
  have e47 : (⟨#[47]⟩ : ByteArray).size = 1 := rfl
  unfold tx
  split <;> split <;> (try simp only [ByteArray.size_append, e45, e47]) <;> omega
theorem tx_ok {z : R} (hz : nf z = z) : okP (tx z) = true := by
  unfold okP
  obtain ⟨e1, e2⟩ := tx_parts z
  rw [e1, e2, tx_cut, (tx_sign z).1, pv_dg, pv_dg]
  have n1 : numB (dg z.p) = true := dec_numeral _
  have n2 : numB (dg z.q) = true := dec_numeral _
  rw [n1, n2]
  have v : validR z.s (limbs z.p) (limbs z.q) = true := by
    unfold validR
    rw [val_limbs, val_limbs]
    have : nf ⟨z.s, z.p, z.q⟩ = z := hz
    rw [this]
    simp
  rw [v]
  have d : (decide (dg z.q = ⟨#[49]⟩) && decide (z.q ≠ 1)) = false := by
    by_cases hq : z.q = 1
    · simp [hq]
    · have : dg z.q ≠ ⟨#[49]⟩ := by
        rw [← dg_1]
        exact fun h => hq (dg_inj h)
      simp [this]
  show (true && true && !(decide (dg z.q = ⟨#[49]⟩) && decide (z.q ≠ 1)) && true) = true
  rw [d]
  rfl
end Go.Proofs.YtmojcnlddfijjaaGreatDoor
