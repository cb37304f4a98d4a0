/-
  Texts of the proof, put together: NatDec RatCut NatParseU NatNumeral RatParse RatOps.
-/
import Derived.Lib.IndexLaws
import Derived.Deep.QuietTactic
import Derived.BigQuiet
import Derived.Deep.RegionHeld3
import Derived.Deep.RegionWith
import Derived.Deep.DeepCutAuto
import Derived.Test.YtemdkkphmldgjaaGreatDoorPkA7
import Derived.Test.YtemdkkphmldgjaaGreatDoorPkA9
import Derived.Test.YtemdkkphmldgjaaGreatDoorPkA10
import Derived.Test.YtemdkkphmldgjaaGreatDoorPkA14
set_option maxRecDepth 100000
set_option maxHeartbeats 3200000
namespace Go.Proofs.YtemdkkphmldgjaaGreatDoor.Q
open Go.RowKit NatMath
theorem dec_len (k : Nat) : ∀ V, V < 10 ^ (k + 1) -> (Lib.decDigits V).length <= k + 1 := by
 induction k with
 | zero => intro V h; rw [Lib.decDigits_one (by simpa using h)]; exact Nat.le_refl _
 | succ k ih =>
  intro V h
  by_cases h10 : V < 10
  . rw [Lib.decDigits_one h10]; simp
  . rw [decDigits_ge (by omega), List.length_append, List.length_singleton]
    have := ih (V / 10) (by rw [Nat.pow_succ] at h; omega)
    omega
theorem dec_size (V : Nat) : (⟨(Lib.decDigits V).toArray⟩ : ByteArray).size = (Lib.decDigits V).length := by simp [ByteArray.size]
end Go.Proofs.YtemdkkphmldgjaaGreatDoor.Q
namespace Go.Proofs.YtemdkkphmldgjaaGreatDoor.Q
open Go.RowKit NatMath
def cutB (b : ByteArray) (c : UInt8) : ByteArray × ByteArray × Bool :=
 if 0 <= Lib.indexByte b.data.toList c then (b.extract 0 (Lib.indexByte b.data.toList c).toNat, b.extract ((Lib.indexByte b.data.toList c).toNat + 1) b.size, true) else (b, ⟨#[]⟩, false)
end Go.Proofs.YtemdkkphmldgjaaGreatDoor.Q
namespace Go.Proofs.YtemdkkphmldgjaaGreatDoor.Q
open Go.RowKit NatMath
noncomputable def pv (s : ByteArray) : List Int := if numB s then limbs (numG s 0 s.size) else []
end Go.Proofs.YtemdkkphmldgjaaGreatDoor.Q
namespace Go.Proofs.YtemdkkphmldgjaaGreatDoor.Q
open Go.RowKit NatMath RatMath
theorem equal_c (ao bo : Option Addr) (n c m d : Nat) (xs ys : List Int) (w : World) (h : Lst .u32 w ao n c xs) (k : Lst .u32 w bo m d ys) :
    Calls Tryz.prog 88 #[.slice ao n c, .slice bo m d] w fun e w' => e = .returned (.bool (decide (xs = ys))) /\ ∃ q, w.drewN q = w' := by
 have hroom := h.room
 have hcap := h.cap
 by_cases hne : n = m
 . subst hne
   go_enter Tryz.func88, Tryz.ntmps88
   go_wp2
   go_loopw [13] (fun i wr => ∃ j q : Nat, j <= n /\ i = .int .i64 j /\ w.drewN q = wr /\ ∀ t, t < j -> xs.getD t 0 = ys.getD t 0) (fun i _ => n - (intOf i).toNat)
   case atStart => exact ⟨0, 0, Nat.zero_le _, rfl, rfl, fun t ht => absurd ht (by omega)⟩
   case round =>
    obtain ⟨j, q, hj, rfl, rfl, hz⟩ := hrel
    have HZ := Lib.hid hz; clear hz
    by_cases hlt : j < n
    . have hia := ix h j hlt
      have hib := ix k j hlt
      obtain ⟨x, HX, hx0, hx1, hcx⟩ := h.at j hlt
      obtain ⟨y, HY, hy0, hy1, hcy⟩ := k.at j hlt
      by_cases hxy : x = y
      . subst hxy
        go_wp2
        go_quiet (fail)
        go_wp2
        go_roundw
        case rel => exact ⟨j + 1, _, by omega, by go_num, rfl, fun t ht => by
         by_cases e : t = j
         . rw [e, <- HX.out, <- HY.out]
         . exact HZ.out t (by omega)⟩
        case measure => simp [intOf]; omega
      . have hb : (x == y) = false := by simpa using hxy
        have hb' : (x != y) = true := by simpa using hxy
        go_wp2
        go_quiet (fail)
        go_wp2
        go_ret
        refine ⟨?_, dd _ _ _⟩
        have : xs ≠ ys := by
         intro e
         apply hxy
         rw [HX.out, HY.out, e]
        simp [this]
    . have he : xs = ys := list_eq_of (by rw [h.len, k.len]) (fun t => by
       by_cases e : t < j
       . exact HZ.out t e
       . rw [List.getD, List.getD, List.getElem?_eq_none (by rw [h.len]; omega), List.getElem?_eq_none (by rw [k.len]; omega)])
      have HE := Lib.hid he; clear he
      go_wp2
      go_ret
      exact ⟨by simp [HE.out], _, rfl⟩
 . have hb : ((n : Int) == (m : Int)) = false := by simp; omega
   have he : xs ≠ ys := by
    intro e
    apply hne
    rw [<- h.len, <- k.len, e]
   have HE := Lib.hid he; clear he
   go_enter Tryz.func88, Tryz.ntmps88
   go_wp2
   go_ret
   exact ⟨by simp [HE.out], 0, rfl⟩
def validR (s : Bool) (xs ys : List Int) : Bool := decide (s = (nf ⟨s, val xs, val ys⟩).s /\ xs = limbs (nf ⟨s, val xs, val ys⟩).p /\ ys = limbs (nf ⟨s, val xs, val ys⟩).q)
theorem valid_c (s : Bool) (ao bo : Option Addr) (n c m d : Nat) (xs ys : List Int) (w : World) (h : Lst .u32 w ao n c xs) (k : Lst .u32 w bo m d ys) (hn : n <= 1000000) (hm : m <= 1000000) :
    Calls Tryz.prog 44 #[.agg #[.bool s, .slice ao n c, .slice bo m d]] w fun e w' => e = .returned (.bool (validR s xs ys)) /\ Below w.heap.size w w' := by
 have HN := Lib.hid (fun w1 (hb : Below w.heap.size w w1) => normal_c s ao bo n c m d xs ys w1 (h.below hb) (k.below hb) hn hm)
 obtain ⟨v, hv⟩ : ∃ v, Hid (v = validR s xs ys) := ⟨_, rfl⟩
 rw [<- hv.out]
 have H := Lib.hid h; have K := Lib.hid k
 clear h k
 go_enter Tryz.func44, Tryz.ntmps44
 go_wp2_with fail
 have kA := Blk.new w 32 #[.bool s, .slice ao n c, .slice bo m d]
 have bb := (Below.refl w.heap.size w).alloc (Nat.le_refl _) (.cells #[.bool s, .slice ao n c, .slice bo m d] 32)
 obtain ⟨W0, hW0⟩ : ∃ W0, W0 = w.alloc (.cells #[.bool s, .slice ao n c, .slice bo m d] 32) := ⟨_, rfl⟩
 rw [<- hW0] at kA bb |-
 clear hW0
 refine (HN.out W0 bb).mono ?_
 rintro e w1 ⟨t, a1, n1, c1, b1, m1, d1, rfl, ht, o1, o2, hn1, hm1, B1⟩
 have K1 := kA.on B1
 have BB1 := Lib.hid (bb.trans (B1.mono bb.size))
 have K2 := K1.alloc (.cells #[.bool t, .slice a1 n1 c1, .slice b1 m1 d1] 32)
 have F2 := Blk.new w1 32 #[.bool t, .slice a1 n1 c1, .slice b1 m1 d1]
 have BB2 := BB1.out.alloc BB1.out.size (.cells #[.bool t, .slice a1 n1 c1, .slice b1 m1 d1] 32)
 have L1 := o1.lst.below ((Below.refl w1.heap.size w1).alloc (Nat.le_refl _) (.cells #[.bool t, .slice a1 n1 c1, .slice b1 m1 d1] 32))
 have L2 := o2.lst.below ((Below.refl w1.heap.size w1).alloc (Nat.le_refl _) (.cells #[.bool t, .slice a1 n1 c1, .slice b1 m1 d1] 32))
 have M1 := H.out.below BB2
 have M2 := K.out.below BB2
 obtain ⟨y0, y1, y2⟩ := K2.cells3
 obtain ⟨yy0, yy1, yy2⟩ := F2.cells3
 obtain ⟨P, hP⟩ : ∃ P, Hid (P = limbs (nf ⟨s, val xs, val ys⟩).p) := ⟨_, rfl⟩
 obtain ⟨Q, hQ⟩ : ∃ Q, Hid (Q = limbs (nf ⟨s, val xs, val ys⟩).q) := ⟨_, rfl⟩
 rw [<- hP.out] at L1
 rw [<- hQ.out] at L2
 have hvv : v = decide (s = t /\ xs = P /\ ys = Q) := by rw [hv.out, hP.out, hQ.out, ht]; rfl
 have HV := Lib.hid hvv
 have E1 := equal_c _ _ _ _ _ _ _ _ _ M1 L1
 have E2 := fun q => equal_c _ _ _ _ _ _ _ _ _ (M2.drewN q) (L2.drewN q)
 have BB := Lib.hid BB2
 clear ht o1 o2 B1 bb kA K1 K2 F2 L1 L2 M1 M2 hvv BB2
 obtain ⟨W2, hW2⟩ : ∃ W2, W2 = w1.alloc (.cells #[.bool t, .slice a1 n1 c1, .slice b1 m1 d1] 32) := ⟨_, rfl⟩
 by_cases hs : s = t
 . subst hs
   have hbb : (s == s) = true := by simp
   by_cases hx : xs = P
   . have hd1 : decide (xs = P) = true := by simpa using hx
     have e2 : v = decide (ys = Q) := by rw [HV.out]; simp [hx]
     rw [hd1] at E1
     rw [<- e2] at E2
     have E1 := Lib.hid E1; have E2 := Lib.hid E2
     clear hx hd1 e2 hW2
     go_wp2_with fail
     refine E1.out.mono ?_
     rintro e w' ⟨rfl, q, rfl⟩
     have B3 := Lib.hid (below_drewN BB.out q)
     go_wp2_with fail
     refine (E2.out q).mono ?_
     rintro e w' ⟨rfl, q2, rfl⟩
     go_wp2_with fail
     go_ret
     have B4 := below_drewN B3.out q2
     first
     | exact ⟨rfl, B4⟩
     | (rw [World.drewN_drewN] at B4; exact ⟨rfl, B4⟩)
   . have hd1 : decide (xs = P) = false := by simpa using hx
     have e2 : v = false := by rw [HV.out]; simp [hx]
     rw [hd1] at E1
     have E1 := Lib.hid E1
     subst e2
     clear hx hd1 hW2 E2
     go_wp2_with fail
     refine E1.out.mono ?_
     rintro e w' ⟨rfl, q, rfl⟩
     go_wp2_with fail
     go_ret
     exact ⟨rfl, below_drewN BB.out q⟩
 . have hbb : (s == t) = false := by simpa using hs
   have e2 : v = false := by rw [HV.out]; simp [hs]
   subst e2
   clear hs hW2 E1 E2
   go_wp2_with fail
   go_ret
   exact ⟨rfl, BB.out⟩
end Go.Proofs.YtemdkkphmldgjaaGreatDoor.Q
/-
  ratio.Text.
-/
namespace Go.Proofs.YtemdkkphmldgjaaGreatDoor.Q
open Go.RowKit NatMath RatMath
def dg (v : Nat) : ByteArray := ⟨(Lib.decDigits v).toArray⟩
def tx (z : R) : ByteArray := if z.q = 1 then (if z.s then ⟨#[45]⟩ ++ dg z.p else dg z.p) else (if z.s then ⟨#[45]⟩ ++ dg z.p else dg z.p) ++ (⟨#[47]⟩ ++ dg z.q)
theorem dg_size {v : Nat} (h : v < 2 ^ 160) : (dg v).size <= 49 := by
 rw [dg, dec_size]
 exact dec_len 48 v (Nat.lt_of_lt_of_le h (by decide))
theorem rtext_c (s : Bool) (ao bo : Option Addr) (n c m d : Nat) (xs ys : List Int) (w : World) (h : Lst .u32 w ao n c xs) (k : Lst .u32 w bo m d ys) (hn : n <= 4) (hm : m <= 4) (htab : Tab w) :
    Calls Tryz.prog 95 #[.agg #[.bool s, .slice ao n c, .slice bo m d]] w fun e w' => e = .returned (.string (tx (nf ⟨s, val xs, val ys⟩))) /\ Below w.heap.size w w' := by
 obtain ⟨z, hz⟩ : ∃ z, Hid (z = nf ⟨s, val xs, val ys⟩) := ⟨_, rfl⟩
 have HN := fun w1 (hb : Below w.heap.size w w1) => normal_c s ao bo n c m d xs ys w1 (h.below hb) (k.below hb) (by omega) (by omega)
 rw [<- hz.out] at HN |-
 clear h k hz
 obtain ⟨t0, P, Q⟩ := z
 dsimp only at HN
 obtain ⟨T, hT⟩ : ∃ T, Hid (T = tx ⟨t0, P, Q⟩) := ⟨_, rfl⟩
 rw [<- hT.out]
 have HN := Lib.hid HN
 have HT := Lib.hid htab
 clear htab
 go_enter Tryz.func95, Tryz.ntmps95
 go_wp2_with fail
 have kA := Blk.new w 32 #[.bool s, .slice ao n c, .slice bo m d]
 have bb := (Below.refl w.heap.size w).alloc (Nat.le_refl _) (.cells #[.bool s, .slice ao n c, .slice bo m d] 32)
 obtain ⟨W0, hW0⟩ : ∃ W0, W0 = w.alloc (.cells #[.bool s, .slice ao n c, .slice bo m d] 32) := ⟨_, rfl⟩
 rw [<- hW0] at kA bb |-
 refine (HN.out W0 bb).mono ?_
 rintro e w1 ⟨t, a1, n1, c1, b1, m1, d1, rfl, ht, o1, o2, hn1, hm1, B1⟩
 have K1 := kA.on B1
 have BB1 := bb.trans (B1.mono bb.size)
 obtain ⟨q0, q1, q2, q3, q4, q5⟩ := K1.store3 (.bool t) (.slice a1 n1 c1)
 have h3 := o1.hi (g := w.heap.size) kA.lt
 have h4 := o2.hi (g := w.heap.size) kA.lt
 have O1 := (o1.low bb.size).put3 h3 (.bool t) (.slice a1 n1 c1) (.slice b1 m1 d1)
 have O2 := (o2.low bb.size).put3 h4 (.bool t) (.slice a1 n1 c1) (.slice b1 m1 d1)
 have K2 := K1.put3 (.bool t) (.slice a1 n1 c1) (.slice b1 m1 d1)
 have BB2 := below_put3 BB1 (Nat.le_refl _) (.bool t) (.slice a1 n1 c1) (.slice b1 m1 d1)
 obtain ⟨r0, r1, r2⟩ := K2.cells3
 subst ht
 have HO1 := Lib.hid O1; have HO2 := Lib.hid O2; have HB2 := Lib.hid BB2; have HK2 := Lib.hid K2
 have hx1 := text_c _ _ _ _ _ O1.lst (by omega) (HT.out.below BB2)
 rw [val_limbs] at hx1
 unfold put3 at r0 r1 r2 hx1
 have HX1 := Lib.hid hx1
 clear o1 o2 B1 hW0 bb kA O1 O2 BB2 BB1 K1 K2 h3 h4 hx1
 go_wp2_with fail
 refine HX1.out.mono ?_
 obtain ⟨D1, hD1⟩ : ∃ D1, Hid (D1 = dg P) := ⟨_, rfl⟩
 obtain ⟨D2, hD2⟩ : ∃ D2, Hid (D2 = dg Q) := ⟨_, rfl⟩
 have hPb : P < 2 ^ 160 := by
  have h1 := val_lt (limbs_ok P)
  rw [val_limbs, HO1.out.len] at h1
  have h2 : 4294967296 ^ n1 <= 4294967296 ^ 5 := Nat.pow_le_pow_right (by omega) (by omega)
  have h3 : (4294967296 : Nat) ^ 5 <= 2 ^ 160 := by decide
  omega
 have hQb : Q < 2 ^ 160 := by
  have h1 := val_lt (limbs_ok Q)
  rw [val_limbs, HO2.out.len] at h1
  have h2 : 4294967296 ^ m1 <= 4294967296 ^ 5 := Nat.pow_le_pow_right (by omega) (by omega)
  have h3 : (4294967296 : Nat) ^ 5 <= 2 ^ 160 := by decide
  omega
 have hs1 := dg_size hPb
 have hs2 := dg_size hQb
 rw [<- hD1.out] at hs1
 rw [<- hD2.out] at hs2
 clear hPb hQb
 rintro e w2 ⟨he, B2⟩
 have he2 : e = .returned (.string D1) := by rw [he, hD1.out]; rfl
 clear he
 subst he2
 have K3 := HK2.out.on B2
 have O1 := Lib.hid (HO1.out.kept B2)
 have O2 := Lib.hid (HO2.out.kept B2)
 have BB3 := Lib.hid (HB2.out.trans (B2.mono HB2.out.size))
 obtain ⟨y0, y1, y2⟩ := K3.cells3
 have DK : Hid (Blk w2.drew w.heap.size 32 #[.bool t, .slice a1 n1 c1, .slice b1 m1 d1]) := K3
 have DL : Hid (Lst .u32 w2.drew b1 m1 d1 (limbs Q)) := O2.out.lst.drewN 1
 have DB : Hid (Below w.heap.size w w2.drew) := BB3.out.drew
 clear K3 B2 r0 r1 r2 HO1 HO2 HB2 HK2
 cases t with
 | true =>
  have hcat : (({ data := #[45] } : ByteArray) ++ D1).size = 1 + D1.size := by rw [ByteArray.size_append]; rfl
  by_cases hq : Q = 1
  . have hc : cmpI (Q : Int) ((Int.toNat 1 : Nat) : Int) = 0 := by rw [hq]; decide
    have HTX : Hid (T = (⟨#[45]⟩ ++ D1)) := by show _ = _; rw [hT.out, hD1.out]; unfold tx; rw [if_pos hq]; rfl
    clear hq
    go_wp2_with fail
    go_region_held3 (fun w' => w'.cell? ⟨w.heap.size, 0, none⟩ = some (.bool true) /\ w'.cell? ⟨w.heap.size, 1, none⟩ = some (.slice a1 n1 c1) /\ w'.cell? ⟨w.heap.size, 2, none⟩ = some (.slice b1 m1 d1)) (go_keep) (first
      | (go_at_call 149; refine (of_c 1 w2.drew (by omega) (by omega)).mono ?_; rintro e v1 ⟨a3, n3, c3, hn3, rfl, o3, B1⟩; have A1 := DK.out.on B1; obtain ⟨z0, z1, z2⟩ := A1.cells3; have BB1 := DB.out.trans (B1.mono DB.out.size); have L1 := DL.out.below B1; have L3 := o3.lst)
      | (go_at_call 148; have hcm := cmp_c b1 a3 m1 d1 n3 c3 (limbs Q) (limbs (Int.toNat 1)) v1 L1 L3; rw [val_limbs, val_limbs, hc] at hcm; refine hcm.mono ?_; rintro e v2 ⟨rfl, q, rfl⟩; have BB2 := below_drewN BB1 q; clear hcm))
    go_wp2_with fail
    go_ret
    refine ⟨?_, ?_⟩
    . rw [HTX.out]; rfl
    . first
      | exact BB2
      | (rw [World.drewN_drewN] at BB2; exact BB2)
  . obtain ⟨g, hg⟩ : ∃ g, Hid (g = cmpI (Q : Int) ((Int.toNat 1 : Nat) : Int)) := ⟨_, rfl⟩
    have hg0 : (g == 0) = false := by
     rw [hg.out]
     unfold cmpI
     have : Int.toNat 1 = 1 := rfl
     rw [this]
     split
     . rfl
     . split
       . rfl
       . omega
    have HTX : Hid (T = (⟨#[45]⟩ ++ D1) ++ (⟨#[47]⟩ ++ D2)) := by show _ = _; rw [hT.out, hD1.out, hD2.out]; unfold tx; rw [if_neg hq]; rfl
    have hcat2 : (({ data := #[47] } : ByteArray) ++ D2).size = 1 + D2.size := by rw [ByteArray.size_append]; rfl
    clear hq
    go_wp2_with fail
    go_region_held3 (fun w' => w'.cell? ⟨w.heap.size, 0, none⟩ = some (.bool true) /\ w'.cell? ⟨w.heap.size, 1, none⟩ = some (.slice a1 n1 c1) /\ w'.cell? ⟨w.heap.size, 2, none⟩ = some (.slice b1 m1 d1)) (go_keep) (first
      | (go_at_call 149; refine (of_c 1 w2.drew (by omega) (by omega)).mono ?_; rintro e v1 ⟨a3, n3, c3, hn3, rfl, o3, B1⟩; have A1 := DK.out.on B1; obtain ⟨z0, z1, z2⟩ := A1.cells3; have BB1 := DB.out.trans (B1.mono DB.out.size); have L1 := DL.out.below B1; have L3 := o3.lst)
      | (go_at_call 148; have hcm := cmp_c b1 a3 m1 d1 n3 c3 (limbs Q) (limbs (Int.toNat 1)) v1 L1 L3; rw [val_limbs, val_limbs, <- hg.out] at hcm; refine hcm.mono ?_; rintro e v2 ⟨rfl, q, rfl⟩; have BB2 := below_drewN BB1 q; have A2 := A1.drewN q; obtain ⟨k0, k1, k2⟩ := A2.cells3; have L2 := L1.drewN q; clear hcm))
    have htb : Tab (v1.drewN q) := HT.out.below BB2
    have hx2 := text_c b1 m1 d1 (limbs Q) (v1.drewN q) L2 (by omega) htb
    rw [val_limbs] at hx2
    have HX2 := Lib.hid hx2
    clear hx2 htb
    go_wp2_with fail
    refine HX2.out.mono ?_
    rintro e v3 ⟨he, B3⟩
    have he2 : e = .returned (.string D2) := by rw [he, hD2.out]; rfl
    clear he
    subst he2
    go_wp2_with fail
    go_ret
    refine ⟨?_, BB2.trans (B3.mono BB2.size)⟩
    rw [HTX.out]
    rfl
 | false =>
  have hcat : (({ data := #[45] } : ByteArray) ++ D1).size = 1 + D1.size := by rw [ByteArray.size_append]; rfl
  by_cases hq : Q = 1
  . have hc : cmpI (Q : Int) ((Int.toNat 1 : Nat) : Int) = 0 := by rw [hq]; decide
    have HTX : Hid (T = D1) := by show _ = _; rw [hT.out, hD1.out]; unfold tx; rw [if_pos hq]; rfl
    clear hq
    go_wp2_with fail
    go_region_held3 (fun w' => w'.cell? ⟨w.heap.size, 0, none⟩ = some (.bool false) /\ w'.cell? ⟨w.heap.size, 1, none⟩ = some (.slice a1 n1 c1) /\ w'.cell? ⟨w.heap.size, 2, none⟩ = some (.slice b1 m1 d1)) (go_keep) (first
      | (go_at_call 149; refine (of_c 1 w2.drew (by omega) (by omega)).mono ?_; rintro e v1 ⟨a3, n3, c3, hn3, rfl, o3, B1⟩; have A1 := DK.out.on B1; obtain ⟨z0, z1, z2⟩ := A1.cells3; have BB1 := DB.out.trans (B1.mono DB.out.size); have L1 := DL.out.below B1; have L3 := o3.lst)
      | (go_at_call 148; have hcm := cmp_c b1 a3 m1 d1 n3 c3 (limbs Q) (limbs (Int.toNat 1)) v1 L1 L3; rw [val_limbs, val_limbs, hc] at hcm; refine hcm.mono ?_; rintro e v2 ⟨rfl, q, rfl⟩; have BB2 := below_drewN BB1 q; clear hcm))
    go_wp2_with fail
    go_ret
    refine ⟨?_, ?_⟩
    . rw [HTX.out]; rfl
    . first
      | exact BB2
      | (rw [World.drewN_drewN] at BB2; exact BB2)
  . obtain ⟨g, hg⟩ : ∃ g, Hid (g = cmpI (Q : Int) ((Int.toNat 1 : Nat) : Int)) := ⟨_, rfl⟩
    have hg0 : (g == 0) = false := by
     rw [hg.out]
     unfold cmpI
     have : Int.toNat 1 = 1 := rfl
     rw [this]
     split
     . rfl
     . split
       . rfl
       . omega
    have HTX : Hid (T = D1 ++ (⟨#[47]⟩ ++ D2)) := by show _ = _; rw [hT.out, hD1.out, hD2.out]; unfold tx; rw [if_neg hq]; rfl
    have hcat2 : (({ data := #[47] } : ByteArray) ++ D2).size = 1 + D2.size := by rw [ByteArray.size_append]; rfl
    clear hq
    go_wp2_with fail
    go_region_held3 (fun w' => w'.cell? ⟨w.heap.size, 0, none⟩ = some (.bool false) /\ w'.cell? ⟨w.heap.size, 1, none⟩ = some (.slice a1 n1 c1) /\ w'.cell? ⟨w.heap.size, 2, none⟩ = some (.slice b1 m1 d1)) (go_keep) (first
      | (go_at_call 149; refine (of_c 1 w2.drew (by omega) (by omega)).mono ?_; rintro e v1 ⟨a3, n3, c3, hn3, rfl, o3, B1⟩; have A1 := DK.out.on B1; obtain ⟨z0, z1, z2⟩ := A1.cells3; have BB1 := DB.out.trans (B1.mono DB.out.size); have L1 := DL.out.below B1; have L3 := o3.lst)
      | (go_at_call 148; have hcm := cmp_c b1 a3 m1 d1 n3 c3 (limbs Q) (limbs (Int.toNat 1)) v1 L1 L3; rw [val_limbs, val_limbs, <- hg.out] at hcm; refine hcm.mono ?_; rintro e v2 ⟨rfl, q, rfl⟩; have BB2 := below_drewN BB1 q; have A2 := A1.drewN q; obtain ⟨k0, k1, k2⟩ := A2.cells3; have L2 := L1.drewN q; clear hcm))
    have htb : Tab (v1.drewN q) := HT.out.below BB2
    have hx2 := text_c b1 m1 d1 (limbs Q) (v1.drewN q) L2 (by omega) htb
    rw [val_limbs] at hx2
    have HX2 := Lib.hid hx2
    clear hx2 htb
    go_wp2_with fail
    refine HX2.out.mono ?_
    rintro e v3 ⟨he, B3⟩
    have he2 : e = .returned (.string D2) := by rw [he, hD2.out]; rfl
    clear he
    subst he2
    go_wp2_with fail
    go_ret
    refine ⟨?_, BB2.trans (B3.mono BB2.size)⟩
    rw [HTX.out]
    rfl
end Go.Proofs.YtemdkkphmldgjaaGreatDoor.Q
/-
  ratio.Parse.
-/
namespace Go.Proofs.YtemdkkphmldgjaaGreatDoor.Q
open Go.RowKit NatMath RatMath
def unsigned (s : ByteArray) : ByteArray := ⟨(Lib.trimPrefix s.data.toList [45]).toArray⟩
def signed (s : ByteArray) : Bool := Lib.hasPrefix s.data.toList [45]
def numT (s : ByteArray) : ByteArray := (cutB (unsigned s) 47).1
def denT (s : ByteArray) : ByteArray := if (cutB (unsigned s) 47).2.2 then (cutB (unsigned s) 47).2.1 else ⟨#[49]⟩
noncomputable def okP (s : ByteArray) : Bool := numB (numT s) && numB (denT s) && !(decide (denT s = ⟨#[49]⟩) && (cutB (unsigned s) 47).2.2) && validR (signed s) (pv (numT s)) (pv (denT s))
end Go.Proofs.YtemdkkphmldgjaaGreatDoor.Q
/-
  ratio.Parse reads back what ratio.Text writes.
-/
namespace Go.Proofs.YtemdkkphmldgjaaGreatDoor.Q
open Go.RowKit NatMath RatMath
end Go.Proofs.YtemdkkphmldgjaaGreatDoor.Q
namespace Go.Proofs.YtemdkkphmldgjaaGreatDoor.Q
open Go.RowKit NatMath RatMath
def RatAt (w : World) (g : Nat) (x : R) (K : Nat) : Prop := ∃ (t : Bool) (e : Option Addr) (p f : Nat) (h : Option Addr) (q i : Nat) (us vs : List Int),
  Blk w g 32 #[.bool t, .slice e p f, .slice h q i] /\ R.mk t (val us) (val vs) = x /\ Lst .u32 w e p f us /\ Lst .u32 w h q i vs /\ p <= K /\ q <= K
theorem sum_c (s1 s2 : Bool) (a1 b1 a2 b2 : Option Addr) (n1 c1 m1 d1 n2 c2 m2 d2 K : Nat) (xs1 ys1 xs2 ys2 : List Int) (w : World)
    (h1 : Lst .u32 w a1 n1 c1 xs1) (k1 : Lst .u32 w b1 m1 d1 ys1) (h2 : Lst .u32 w a2 n2 c2 xs2) (k2 : Lst .u32 w b2 m2 d2 ys2) (hn1 : n1 <= K) (hm1 : m1 <= K) (hn2 : n2 <= K) (hm2 : m2 <= K) (hK : K <= 400000) :
    Calls Tryz.prog 106 #[.agg #[.bool s1, .slice a1 n1 c1, .slice b1 m1 d1], .agg #[.bool s2, .slice a2 n2 c2, .slice b2 m2 d2]] w fun e w' => ∃ s a n c b m d, e = .returned (.tuple #[.bool s, .slice a n c, .slice b m d]) /\ s = (sm (dv ⟨s1, val xs1, val ys1⟩) (dv ⟨s2, val xs2, val ys2⟩)).s /\
      Own 144 .u32 w.heap.size w' a n c (limbs (sm (dv ⟨s1, val xs1, val ys1⟩) (dv ⟨s2, val xs2, val ys2⟩)).p) /\ Own 144 .u32 w.heap.size w' b m d (limbs (sm (dv ⟨s1, val xs1, val ys1⟩) (dv ⟨s2, val xs2, val ys2⟩)).q) /\ n <= 2 * K + 4 /\ m <= 2 * K + 4 /\ Below w.heap.size w w' := by
 obtain ⟨x, hx⟩ : ∃ x, Hid (x = dv ⟨s1, val xs1, val ys1⟩) := ⟨_, rfl⟩
 obtain ⟨y, hy⟩ : ∃ y, Hid (y = dv ⟨s2, val xs2, val ys2⟩) := ⟨_, rfl⟩
 have D1 := fun w1 (hb : Below w.heap.size w w1) => divisible_c s1 a1 b1 n1 c1 m1 d1 xs1 ys1 w1 (h1.below hb) (k1.below hb) (by omega) (by omega)
 have D2 := fun w1 (hb : Below w.heap.size w w1) => divisible_c s2 a2 b2 n2 c2 m2 d2 xs2 ys2 w1 (h2.below hb) (k2.below hb) (by omega) (by omega)
 rw [<- hx.out] at D1 |-
 rw [<- hy.out] at D2 |-
 have D1 := Lib.hid D1; have D2 := Lib.hid D2
 have N1 := Lib.hid h1.block; have N2 := Lib.hid k1.block; have N3 := Lib.hid h2.block; have N4 := Lib.hid k2.block
 clear h1 k1 h2 k2
 go_enter Tryz.func106, Tryz.ntmps106
 go_wp2_with fail
 have A0 := (Blk.new w 32 #[.bool s1, .slice a1 n1 c1, .slice b1 m1 d1]).alloc (.cells #[.bool s2, .slice a2 n2 c2, .slice b2 m2 d2] 32)
 have C0 := Blk.new (w.alloc (.cells #[.bool s1, .slice a1 n1 c1, .slice b1 m1 d1] 32)) 32 #[.bool s2, .slice a2 n2 c2, .slice b2 m2 d2]
 rw [show (w.alloc (.cells #[.bool s1, .slice a1 n1 c1, .slice b1 m1 d1] 32)).heap.size = w.heap.size + 1 by simp] at C0
 have bb : Below w.heap.size w ((w.alloc (.cells #[.bool s1, .slice a1 n1 c1, .slice b1 m1 d1] 32)).alloc (.cells #[.bool s2, .slice a2 n2 c2, .slice b2 m2 d2] 32)) := ((Below.refl w.heap.size w).alloc (Nat.le_refl _) _).alloc (by simp) _
 obtain ⟨W0, hW0⟩ : ∃ W0, W0 = ((w.alloc (.cells #[.bool s1, .slice a1 n1 c1, .slice b1 m1 d1] 32)).alloc (.cells #[.bool s2, .slice a2 n2 c2, .slice b2 m2 d2] 32)) := ⟨_, rfl⟩
 rw [<- hW0] at A0 C0 bb |-
 obtain ⟨x0, x1, x2⟩ := A0.cells3
 obtain ⟨y0, y1, y2⟩ := C0.cells3
 have BB : Hid (Below w.heap.size w W0.drew) := bb.drew
 have AA : Hid (Blk W0.drew w.heap.size 32 #[.bool s1, .slice a1 n1 c1, .slice b1 m1 d1]) := A0
 have CC : Hid (Blk W0.drew (w.heap.size + 1) 32 #[.bool s2, .slice a2 n2 c2, .slice b2 m2 d2]) := C0
 clear hW0 A0 C0 bb
 go_cut [14] (fun s14 wx => RatAt wx w.heap.size x (K + 1) /\ RatAt wx (w.heap.size + 1) y (K + 1) /\ Below w.heap.size w wx)
 case first =>
  go_region_with ((first
    | (go_at_call_of 159 (Value.agg #[Value.bool s1, Value.slice a1 n1 c1, Value.slice b1 m1 d1]); refine (D1.out W0.drew BB.out).mono ?_; rintro e v1 ⟨t1, e1, p1, f1, g1, q1, i1, us1, vs1, rfl, hx1, L1, M1, hp1, hq1, aw1, aw2, B1⟩; have A1 := AA.out.on B1; have C1 := CC.out.on B1; have B1' := BB.out.trans (B1.mono BB.out.size); obtain ⟨z0, z1, z2⟩ := C1.cells3)
    | (go_at_call 159; refine (D2.out v1 B1').mono ?_; rintro e v2 ⟨t2, e2, p2, f2, g2, q2, i2, us2, vs2, rfl, hy2, L2, M2, hp2, hq2, aw3, aw4, B2⟩; have A2 := A1.on B2; have C2 := C1.on B2; have B2' := B1'.trans (B2.mono B1'.size); obtain ⟨k0, k1, k2, k3, k4, k5⟩ := A2.store3 (.bool t1) (.slice e1 p1 f1); obtain ⟨j0, j1, j2, j3, j4, j5⟩ := (put3_other (g := w.heap.size) C2 (by omega) (.bool t1) (.slice e1 p1 f1) (.slice g1 q1 i1)).store3 (.bool t2) (.slice e2 p2 f2); unfold put3 at j0 j1 j2 j3 j4 j5)))
  all_goals
    go_wp2_with fail
    go_meet
    have hw0 : W0.drew.heap.size = W0.heap.size := rfl
    have hs0 := AA.out.lt
    have hs1 := CC.out.lt
    have hs2 := B1.size
    have X1 := ((L1.below B2).put3 (aw1 w.heap.size hs0 (fun j hj => by have := N1.out j hj; omega)) (.bool t1) (.slice e1 p1 f1) (.slice g1 q1 i1)).put3 (aw1 (w.heap.size + 1) hs1 (fun j hj => by have := N1.out j hj; omega)) (.bool t2) (.slice e2 p2 f2) (.slice g2 q2 i2)
    have X2 := ((M1.below B2).put3 (aw2 w.heap.size hs0 (fun j hj => by have := N2.out j hj; omega)) (.bool t1) (.slice e1 p1 f1) (.slice g1 q1 i1)).put3 (aw2 (w.heap.size + 1) hs1 (fun j hj => by have := N2.out j hj; omega)) (.bool t2) (.slice e2 p2 f2) (.slice g2 q2 i2)
    have X3 := (L2.put3 (aw3 w.heap.size (by omega) (fun j hj => by have := N3.out j hj; omega)) (.bool t1) (.slice e1 p1 f1) (.slice g1 q1 i1)).put3 (aw3 (w.heap.size + 1) (by omega) (fun j hj => by have := N3.out j hj; omega)) (.bool t2) (.slice e2 p2 f2) (.slice g2 q2 i2)
    have X4 := (M2.put3 (aw4 w.heap.size (by omega) (fun j hj => by have := N4.out j hj; omega)) (.bool t1) (.slice e1 p1 f1) (.slice g1 q1 i1)).put3 (aw4 (w.heap.size + 1) (by omega) (fun j hj => by have := N4.out j hj; omega)) (.bool t2) (.slice e2 p2 f2) (.slice g2 q2 i2)
    have Y1 := put3_other (g := w.heap.size + 1) (A2.put3 (.bool t1) (.slice e1 p1 f1) (.slice g1 q1 i1)) (by omega) (.bool t2) (.slice e2 p2 f2) (.slice g2 q2 i2)
    have Y2 := (put3_other (g := w.heap.size) C2 (by omega) (.bool t1) (.slice e1 p1 f1) (.slice g1 q1 i1)).put3 (.bool t2) (.slice e2 p2 f2) (.slice g2 q2 i2)
    have Y3 := below_put3 (g := w.heap.size + 1) (below_put3 (g := w.heap.size) B2' (Nat.le_refl _) (.bool t1) (.slice e1 p1 f1) (.slice g1 q1 i1)) (Nat.le_succ _) (.bool t2) (.slice e2 p2 f2) (.slice g2 q2 i2)
    exact ⟨⟨t1, e1, p1, f1, g1, q1, i1, us1, vs1, Y1, hx1, X1, X2, by omega, by omega⟩, ⟨t2, e2, p2, f2, g2, q2, i2, us2, vs2, Y2, hy2, X3, X4, by omega, by omega⟩, Y3⟩
 case rest =>
  obtain ⟨⟨t1, e1, p1, f1, g1, q1, i1, us1, vs1, A, hx1, L1, M1, hp1, hq1⟩, ⟨t2, e2, p2, f2, g2, q2, i2, us2, vs2, C, hy2, L2, M2, hp2, hq2⟩, bb⟩ := hcut
  obtain ⟨x0, x1, x2⟩ := A.cells3
  obtain ⟨y0, y1, y2⟩ := C.cells3
  go_wp2_with fail
  have DL1 : Hid (Lst .u32 wc.drew e1 p1 f1 us1) := L1.drewN 1
  have DM1 : Hid (Lst .u32 wc.drew g1 q1 i1 vs1) := M1.drewN 1
  have DL2 : Hid (Lst .u32 wc.drew e2 p2 f2 us2) := L2.drewN 1
  have DM2 : Hid (Lst .u32 wc.drew g2 q2 i2 vs2) := M2.drewN 1
  have DA : Hid (Blk wc.drew w.heap.size 32 #[.bool t1, .slice e1 p1 f1, .slice g1 q1 i1]) := A
  have DC : Hid (Blk wc.drew (w.heap.size + 1) 32 #[.bool t2, .slice e2 p2 f2, .slice g2 q2 i2]) := C
  have DB : Hid (Below w.heap.size w wc.drew) := bb.drew
  clear L1 M1 L2 M2 A C bb
  go_region_held3 (fun w' => w'.cell? ⟨w.heap.size, 0, none⟩ = some (.bool t1) /\ w'.cell? ⟨w.heap.size, 1, none⟩ = some (.slice e1 p1 f1) /\ w'.cell? ⟨w.heap.size, 2, none⟩ = some (.slice g1 q1 i1) /\ w'.cell? ⟨w.heap.size + 1, 0, none⟩ = some (.bool t2) /\ w'.cell? ⟨w.heap.size + 1, 1, none⟩ = some (.slice e2 p2 f2) /\ w'.cell? ⟨w.heap.size + 1, 2, none⟩ = some (.slice g2 q2 i2)) (go_keep) (first
    | (go_at_call_of 160 (Value.slice e1 p1 f1); refine (mul_c _ _ _ _ _ _ us1 vs2 wc.drew DL1.out DM2.out (by omega) (by omega)).mono ?_; rintro e v1 ⟨a3, n3, c3, rfl, hn3, o3, B1⟩; have A1 := DA.out.on B1; have C1 := DC.out.on B1; obtain ⟨z0, z1, z2⟩ := A1.cells3; obtain ⟨zz0, zz1, zz2⟩ := C1.cells3)
    | (go_at_call 160; refine (mul_c _ _ _ _ _ _ us2 vs1 v1 (DL2.out.below B1) (DM1.out.below B1) (by omega) (by omega)).mono ?_; rintro e v2 ⟨a4, n4, c4, rfl, hn4, o4, B2⟩; have A2 := A1.on B2; have C2 := C1.on B2; obtain ⟨k0, k1, k2⟩ := A2.cells3; obtain ⟨kk0, kk1, kk2⟩ := C2.cells3))
  have EL1 := Lib.hid ((DL1.out.below B1).below B2)
  have EM1 := Lib.hid ((DM1.out.below B1).below B2)
  have EL2 := Lib.hid ((DL2.out.below B1).below B2)
  have EM2 := Lib.hid ((DM2.out.below B1).below B2)
  have EX := Lib.hid (o3.kept B2)
  have EY := Lib.hid o4
  have B12 : Below wc.drew.heap.size wc.drew v2 := B1.trans (B2.mono B1.size)
  have BB2 := Lib.hid (DB.out.trans (B12.mono DB.out.size))
  have A3 := A2
  have hsz : Hid (wc.drew.heap.size <= v1.heap.size /\ w.heap.size <= wc.drew.heap.size) := ⟨B1.size, DB.out.size⟩
  clear A1 C1 z0 z1 z2 zz0 zz1 zz2 o3 o4 B1 B2 B12 DL1 DM1 DL2 DM2 DA DC DB
  go_wp2_with fail
  refine (mul_c _ _ _ _ _ _ vs1 vs2 v2 EM1.out EM2.out (by omega) (by omega)).mono ?_
  rintro e v3 ⟨a5, n5, c5, rfl, hn5, o5, B3⟩
  have F1 := Lib.hid ((EX.out.kept B3).low hsz.out.2)
  have F2 := Lib.hid ((EY.out.kept B3).low (Nat.le_trans hsz.out.2 hsz.out.1))
  have F3 := Lib.hid (o5.low BB2.out.size)
  have BB3 := Lib.hid (BB2.out.trans (B3.mono BB2.out.size))
  have A4 := A2.on B3
  have C4 := C2.on B3
  obtain ⟨k0, k1, k2⟩ := A4.cells3
  obtain ⟨kk0, kk1, kk2⟩ := C4.cells3
  clear A2 C2 A3 EX EY o5 B3 EL1 EM1 EL2 EM2
  obtain ⟨P, hP⟩ : ∃ P, Hid (P = val us1 * val vs2) := ⟨_, rfl⟩
  obtain ⟨S, hS⟩ : ∃ S, Hid (S = val us2 * val vs1) := ⟨_, rfl⟩
  obtain ⟨D, hD⟩ : ∃ D, Hid (D = val vs1 * val vs2) := ⟨_, rfl⟩
  rw [<- hP.out] at F1
  rw [<- hS.out] at F2
  rw [<- hD.out] at F3
  by_cases hs : t1 = t2
  . subst hs
    have hsm : sm x y = ⟨t1, P + S, D⟩ := by
     rw [<- hx1, <- hy2, hP.out, hS.out, hD.out]
     unfold sm
     rw [if_pos rfl]
    have HSM := Lib.hid hsm
    clear hsm
    have hbeq : (t1 == t1) = true := by simp
    have H1 : Hid (Lst .u32 v3.drew a3 n3 c3 (limbs P)) := F1.out.lst.drewN 1
    have H2 : Hid (Lst .u32 v3.drew a4 n4 c4 (limbs S)) := F2.out.lst.drewN 1
    have H3 : Hid (Own 144 .u32 w.heap.size v3.drew a5 n5 c5 (limbs D)) := F3.out.drewN 1
    have HB : Hid (Below w.heap.size w v3.drew) := BB3.out.drew
    have HA : Hid (Blk v3.drew w.heap.size 32 #[.bool t1, .slice e1 p1 f1, .slice g1 q1 i1]) := A4
    have HC : Hid (Blk v3.drew (w.heap.size + 1) 32 #[.bool t1, .slice e2 p2 f2, .slice g2 q2 i2]) := C4
    clear A4 C4
    go_wp2_with fail
    go_region_held3 (fun w' => w'.cell? ⟨w.heap.size, 0, none⟩ = some (.bool t1) /\ w'.cell? ⟨w.heap.size + 1, 0, none⟩ = some (.bool t1)) (go_keep) (first
      | (go_at_call 161; refine (add_c _ _ _ _ _ _ _ _ v3.drew H1.out H2.out (by omega) (by omega)).mono ?_; rintro e v4 ⟨a6, n6, c6, rfl, hn6, o6, B4⟩; have A5 := HA.out.on B4; have C5 := HC.out.on B4; obtain ⟨l0, l1, l2⟩ := A5.cells3; obtain ⟨ll0, ll1, ll2⟩ := C5.cells3))
    go_wp2_with fail
    go_ret3
    rw [val_limbs, val_limbs] at o6
    rw [HSM.out]
    exact ⟨t1, a6, n6, c6, a5, n5, c5, rfl, rfl, o6.low HB.out.size, H3.out.kept B4, by omega, by omega, HB.out.trans (B4.mono HB.out.size)⟩
  . have hbeq : (t1 == t2) = false := by simpa using hs
    have HSU := sub_c a3 a4 n3 c3 n4 c4 (limbs P) (limbs S) v3 F1.out.lst F2.out.lst (by omega)
    rw [val_limbs, val_limbs] at HSU
    by_cases hle : S <= P
    . have hd : decide (S <= P) = true := by simpa using hle
      rw [hd] at HSU
      have hsm : sm x y = ⟨t1, P - S, D⟩ := by
       rw [<- hx1, <- hy2, hP.out, hS.out, hD.out]
       unfold sm
       rw [if_neg hs, if_pos (by rw [hP.out, hS.out] at hle; exact hle)]
      have HSM := Lib.hid hsm
      have HSU := Lib.hid HSU
      clear hsm hd hle hs
      go_wp2_with fail
      refine HSU.out.mono ?_
      rintro e v4 ⟨a6, n6, c6, rfl, o6, B4⟩
      have A5 := A4.on B4
      have C5 := C4.on B4
      obtain ⟨l0, l1, l2⟩ := A5.cells3
      obtain ⟨ll0, ll1, ll2⟩ := C5.cells3
      have hn6 : n6 <= n3 := by rw [<- o6.len, <- F1.out.len]; exact limbs_len_mono (Nat.sub_le _ _)
      have O6 := Lib.hid (o6.low BB3.out.size)
      have O5 := Lib.hid (F3.out.kept B4)
      have BB4 := Lib.hid (BB3.out.trans (B4.mono BB3.out.size))
      clear A4 C4 k0 k1 k2 kk0 kk1 kk2 o6 B4 HSU
      go_wp2_with fail
      go_ret3
      rw [HSM.out]
      exact ⟨t1, a6, n6, c6, a5, n5, c5, rfl, rfl, O6.out, O5.out, by omega, by omega, BB4.out⟩
    . have hd : decide (S <= P) = false := by simpa using hle
      rw [hd] at HSU
      have hsm : sm x y = ⟨t2, S - P, D⟩ := by
       rw [<- hx1, <- hy2, hP.out, hS.out, hD.out]
       unfold sm
       rw [if_neg hs, if_neg (by rw [hP.out, hS.out] at hle; exact hle)]
      have HSM := Lib.hid hsm
      have HSU := Lib.hid HSU
      clear hsm hd hle hs
      go_wp2_with fail
      refine HSU.out.mono ?_
      rintro e v4 ⟨a6, n6, c6, rfl, o6, B4⟩
      have A5 := A4.on B4
      have C5 := C4.on B4
      obtain ⟨l0, l1, l2⟩ := A5.cells3
      obtain ⟨ll0, ll1, ll2⟩ := C5.cells3
      have BB4 := Lib.hid (BB3.out.trans (B4.mono BB3.out.size))
      have HS2 := sub_c a4 a3 n4 c4 n3 c3 (limbs S) (limbs P) v4 (F2.out.kept B4).lst (F1.out.kept B4).lst (by omega)
      rw [val_limbs, val_limbs] at HS2
      obtain ⟨bq, hbq⟩ : ∃ bq, Hid (bq = decide (P <= S)) := ⟨_, rfl⟩
      rw [<- hbq.out] at HS2
      have HS2 := Lib.hid HS2
      have O5 := Lib.hid (F3.out.kept B4)
      have AA5 := Lib.hid A5
      have CC5 := Lib.hid C5
      clear A4 C4 k0 k1 k2 kk0 kk1 kk2 o6 B4 HSU A5 C5
      go_wp2_with fail
      refine HS2.out.mono ?_
      rintro e v5 ⟨a7, n7, c7, rfl, o7, B5⟩
      have A6 := AA5.out.on B5
      have C6 := CC5.out.on B5
      obtain ⟨i0, i1', i2'⟩ := A6.cells3
      obtain ⟨ii0, ii1, ii2⟩ := C6.cells3
      have hn7 : n7 <= n4 := by rw [<- o7.len, <- F2.out.len]; exact limbs_len_mono (Nat.sub_le _ _)
      have O7 := Lib.hid (o7.low BB4.out.size)
      have O8 := Lib.hid (O5.out.kept B5)
      have BB5 := Lib.hid (BB4.out.trans (B5.mono BB4.out.size))
      clear A6 C6 l0 l1 l2 ll0 ll1 ll2 o7 B5 HS2
      go_wp2_with fail
      go_ret3
      rw [HSM.out]
      exact ⟨t2, a7, n7, c7, a5, n5, c5, rfl, rfl, O7.out, O8.out, by omega, by omega, BB5.out⟩
end Go.Proofs.YtemdkkphmldgjaaGreatDoor.Q
/-
  ratio.Add, ratio.Mul, ratio.Div, ratio.Cmp, ratio.Floor.
-/
namespace Go.Proofs.YtemdkkphmldgjaaGreatDoor.Q
open Go.RowKit NatMath RatMath
end Go.Proofs.YtemdkkphmldgjaaGreatDoor.Q
/-
  ratio.Cmp, ratio.Div, ratio.Floor.
-/
namespace Go.Proofs.YtemdkkphmldgjaaGreatDoor.Q
open Go.RowKit NatMath RatMath
theorem rcmp_c (s1 s2 : Bool) (a1 b1 a2 b2 : Option Addr) (n1 c1 m1 d1 n2 c2 m2 d2 K : Nat) (xs1 ys1 xs2 ys2 : List Int) (w : World)
    (h1 : Lst .u32 w a1 n1 c1 xs1) (k1 : Lst .u32 w b1 m1 d1 ys1) (h2 : Lst .u32 w a2 n2 c2 xs2) (k2 : Lst .u32 w b2 m2 d2 ys2) (hn1 : n1 <= K) (hm1 : m1 <= K) (hn2 : n2 <= K) (hm2 : m2 <= K) (hK : K <= 400000) :
    Calls Tryz.prog 54 #[.agg #[.bool s1, .slice a1 n1 c1, .slice b1 m1 d1], .agg #[.bool s2, .slice a2 n2 c2, .slice b2 m2 d2]] w fun e w' => e = .returned (.int .i64 (RatMath.cmp ⟨s1, val xs1, val ys1⟩ ⟨s2, val xs2, val ys2⟩)) /\ Below w.heap.size w w' := by
 have HS := fun w1 (hb : Below w.heap.size w w1) => sum_c s1 (!s2) a1 b1 a2 b2 n1 c1 m1 d1 n2 c2 m2 d2 K xs1 ys1 xs2 ys2 w1 (h1.below hb) (k1.below hb) (h2.below hb) (k2.below hb) hn1 hm1 hn2 hm2 hK
 obtain ⟨z, hz⟩ : ∃ z, Hid (z = sm (dv ⟨s1, val xs1, val ys1⟩) (dv ⟨!s2, val xs2, val ys2⟩)) := ⟨_, rfl⟩
 have hcmp : RatMath.cmp ⟨s1, val xs1, val ys1⟩ ⟨s2, val xs2, val ys2⟩ = if z.p = 0 then 0 else if z.s then -1 else 1 := by rw [hz.out]; rfl
 rw [<- hz.out] at HS
 have HS := Lib.hid HS
 have HC := Lib.hid hcmp
 obtain ⟨g, hg⟩ : ∃ g, Hid (g = RatMath.cmp ⟨s1, val xs1, val ys1⟩ ⟨s2, val xs2, val ys2⟩) := ⟨_, rfl⟩
 rw [<- hg.out] at HC |-
 clear h1 k1 h2 k2 hcmp
 go_enter Tryz.func54, Tryz.ntmps54
 go_wp2_with fail
 obtain ⟨W0, hW0, kA, kB, bb⟩ := boxed2 w 32 #[.bool s1, .slice a1 n1 c1, .slice b1 m1 d1] #[.bool s2, .slice a2 n2 c2, .slice b2 m2 d2]
 rw [<- hW0]
 have DA : Hid (Blk W0.drew w.heap.size 32 #[.bool s1, .slice a1 n1 c1, .slice b1 m1 d1]) := kA
 have DC : Hid (Blk W0.drew (w.heap.size + 1) 32 #[.bool s2, .slice a2 n2 c2, .slice b2 m2 d2]) := kB
 have DB : Hid (Below w.heap.size w W0.drew) := bb.drew
 obtain ⟨y0, y1, y2⟩ := kA.cells3
 obtain ⟨yy0, yy1, yy2⟩ := kB.cells3
 clear kA kB bb hW0
 go_region_held3 (fun w' => w'.cell? ⟨w.heap.size, 0, none⟩ = some (.bool s1) /\ w'.cell? ⟨w.heap.size, 1, none⟩ = some (.slice a1 n1 c1) /\ w'.cell? ⟨w.heap.size, 2, none⟩ = some (.slice b1 m1 d1) /\ w'.cell? ⟨w.heap.size + 1, 0, none⟩ = some (.bool s2) /\ w'.cell? ⟨w.heap.size + 1, 1, none⟩ = some (.slice a2 n2 c2) /\ w'.cell? ⟨w.heap.size + 1, 2, none⟩ = some (.slice b2 m2 d2)) (go_keep) (first
   | (go_at_call 107; refine (negate_c s2 a2 b2 n2 c2 m2 d2 W0.drew).mono ?_; rintro e w1 ⟨rfl, B1⟩; have A1 := DA.out.on B1; have C1 := DC.out.on B1; obtain ⟨z0, z1, z2⟩ := A1.cells3; obtain ⟨zz0, zz1, zz2⟩ := C1.cells3; have BB1 := Lib.hid (DB.out.trans (B1.mono DB.out.size)))
   | (go_at_call 106; refine (HS.out w1 BB1.out).mono ?_; rintro e w2 ⟨s, a, n, c, b, m, d, rfl, hs, o1, o2, hn, hm, bb2⟩; have A2 := A1.on bb2; have C2 := C1.on bb2; obtain ⟨k0, k1, k2⟩ := A2.cells3; obtain ⟨kk0, kk1, kk2⟩ := C2.cells3; have HSS := Lib.hid hs; clear hs))
 have hs := HSS.out
 have BB2 := Lib.hid (BB1.out.trans (bb2.mono BB1.out.size))
 have HZ := isZero_c a n c (limbs z.p) w2 o1.lst (by omega)
 rw [val_limbs] at HZ
 by_cases hp : z.p = 0
 . have hd : decide (z.p = 0) = true := by simpa using hp
   rw [hd] at HZ
   have e0 : g = 0 := by rw [HC.out, if_pos hp]
   have HZ := Lib.hid HZ
   clear hd hp o1 o2 bb2 hs
   subst e0
   go_wp2_with fail
   refine HZ.out.mono ?_
   rintro e w' ⟨rfl, rfl⟩
   go_wp2_with fail
   go_ret
   exact ⟨rfl, BB2.out⟩
 . have hd : decide (z.p = 0) = false := by simpa using hp
   rw [hd] at HZ
   have HZ := Lib.hid HZ
   have e0 : g = if s then -1 else 1 := by rw [HC.out, if_neg hp, hs]
   clear hd hp o1 o2 bb2 hs
   cases s with
   | true =>
    have e1 : g = -1 := e0
    subst e1
    clear e0
    go_wp2_with fail
    refine HZ.out.mono ?_
    rintro e w' ⟨rfl, rfl⟩
    go_wp2_with fail
    go_ret
    exact ⟨rfl, BB2.out⟩
   | false =>
    have e1 : g = 1 := e0
    subst e1
    clear e0
    go_wp2_with fail
    refine HZ.out.mono ?_
    rintro e w' ⟨rfl, rfl⟩
    go_wp2_with fail
    go_ret
    exact ⟨rfl, BB2.out⟩
end Go.Proofs.YtemdkkphmldgjaaGreatDoor.Q
