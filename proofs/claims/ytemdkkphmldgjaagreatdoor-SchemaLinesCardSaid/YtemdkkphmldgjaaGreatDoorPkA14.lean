/-
  Texts of the proof, put together: NatHelp2 NatRefMul NatRefDiv NatGcd NatUint NatGcdN RatMath RatBase NatMulAdd NatParse.
-/
import Derived.Laws.AppendOwnNone
import Derived.Deep.QuietTactic
import Derived.BigQuiet
import Derived.Deep.LoopGhost
import Derived.Laws.Rows
import Derived.Test.YtemdkkphmldgjaaGreatDoorPkA9
import Derived.Test.YtemdkkphmldgjaaGreatDoorPkA12
import Derived.Test.YtemdkkphmldgjaaGreatDoorPkA13
set_option maxRecDepth 100000
set_option maxHeartbeats 3200000
namespace Go.Proofs.YtemdkkphmldgjaaGreatDoor.Q
open Go.RowKit NatMath
theorem own_nil (e : TypeId) (k : IntKind) (B : Nat) (w : World) : Own e k B w none 0 0 [] := ⟨World.ownsRow_nil _ _ _ _, fun _ hx => by cases hx⟩
theorem sub_c (ao bo : Option Addr) (n c m d : Nat) (xs ys : List Int) (w : World) (h : Lst .u32 w ao n c xs) (k : Lst .u32 w bo m d ys) (hn : n <= 1073741824) :
    Calls Tryz.prog 162 #[.slice ao n c, .slice bo m d] w fun e w' => ∃ ao' n' c', e = .returned (.tuple #[.slice ao' n' c', .bool (decide (val ys <= val xs))]) /\ Own 144 .u32 w.heap.size w' ao' n' c' (limbs (val xs - val ys)) /\ Below w.heap.size w w' := by
 by_cases hlt : val xs < val ys
 . refine (sub_lt_c ao bo n c m d xs ys w h k hlt).mono ?_
   rintro e w' ⟨rfl, q, rfl⟩
   refine ⟨none, 0, 0, ?_, ?_, below_drewN (Below.refl _ _) q⟩
   . rw [decide_eq_false (by omega)]
   . rw [Nat.sub_eq_zero_of_le (by omega), limbs_zero]; exact own_nil _ _ _ _
 . refine (sub_ge_c ao bo n c m d xs ys w h k hn (by omega)).mono ?_
   rintro e w' ⟨a, l, f, _, rfl, o, b⟩
   exact ⟨a, l, f, by rw [decide_eq_true (by omega)], o, b⟩
section
variable {w : World}
end
end Go.Proofs.YtemdkkphmldgjaaGreatDoor.Q
namespace Go.Proofs.YtemdkkphmldgjaaGreatDoor.Q
open Go.RowKit NatMath
structure DivInv (xs Q : List Bool) (Y j : Nat) : Prop where
 len : Q.length = xs.length
 low : ∀ i, i < j -> Q.getD i false = false
 eq : bval (Q.drop j) = bval (xs.drop j) / Y
end Go.Proofs.YtemdkkphmldgjaaGreatDoor.Q
namespace Go.Proofs.YtemdkkphmldgjaaGreatDoor.Q
open Go.RowKit NatMath
theorem gcdWords_c (a b : Nat) (w : World) (ha : a < 18446744073709551616) (hb : b < 18446744073709551616) :
    Calls Tryz.prog 231 #[.int .u64 a, .int .u64 b] w fun e w' => e = .returned (.int .u64 (Nat.gcd a b : Nat)) /\ Below w.heap.size w w' := by
 go_enter Tryz.func231, Tryz.ntmps231
 go_wp2_with fail
 go_loopw [0, 1] (fun s t wr => ∃ x y : Nat, Below w.heap.size w wr /\ x < 18446744073709551616 /\ y < 18446744073709551616 /\ s = .int .u64 x /\ t = .int .u64 y /\ Hid (Nat.gcd x y = Nat.gcd a b)) (fun _ t _ => (intOf t).toNat)
 case atStart => exact ⟨a, b, Below.refl _ _, ha, hb, rfl, rfl, rfl⟩
 case round =>
  obtain ⟨x, y, hbw, hx, hy, rfl, rfl, hg⟩ := hrel
  by_cases h0 : y = 0
  . subst h0
    have e := hg.out
    rw [Nat.gcd_zero_right] at e
    have hz : (((0 : Nat) : Int) == 0) = true := by rfl
    go_wp2_with fail
    go_ret
    exact ⟨by rw [<- e]; rfl, hbw⟩
  . have hz : ((y : Int) == 0) = false := by simp; omega
    have hg2 : Hid (Nat.gcd y (x % y) = Nat.gcd a b) := by
     show Nat.gcd y (x % y) = Nat.gcd a b
     rw [<- hg.out, Nat.gcd_comm x y, Nat.gcd_rec y x, Nat.gcd_comm]
    have hm := Nat.mod_lt x (Nat.pos_of_ne_zero h0)
    go_wp2_with fail
    go_quiet (fail)
    go_wp2_with fail
    go_roundw
    case rel => exact ⟨y, x % y, below_drewN hbw nq, hy, by omega, rfl, by go_num, hg2⟩
    case measure => simp [intOf]; omega
end Go.Proofs.YtemdkkphmldgjaaGreatDoor.Q
namespace Go.Proofs.YtemdkkphmldgjaaGreatDoor.Q
open Go.RowKit NatMath
theorem limbs_two {v : Nat} : (limbs v).length <= 2 ↔ v < 18446744073709551616 := by
 constructor
 . intro h
   have h1 := val_lt (limbs_ok v)
   rw [val_limbs] at h1
   have h2 : 4294967296 ^ (limbs v).length <= 4294967296 ^ 2 := Nat.pow_le_pow_right (by omega) h
   omega
 . intro h
   exact limbs_length v 2 (by omega)
theorem or_limb {j n1 V : Nat} {x : Int} (h2 : n1 <= 2) (hlt : j < n1) (hx0 : 0 <= x) (hx1 : x <= 4294967295) (hV : V < 4294967296 ^ j) :
    bits .or .u64 (V : Int) (IntKind.u64.wrap (x * 2 ^ (32 * j))) = ((V + x.toNat * 4294967296 ^ j : Nat) : Int) := by
 obtain ⟨X, rfl⟩ := Int.eq_ofNat_of_zero_le hx0
 have hj : j = 0 \/ j = 1 := by omega
 rcases hj with rfl | rfl
 . have : V = 0 := by simpa using hV
   subst this
   simp only [Nat.mul_zero, Int.pow_zero, Int.mul_one, Int.toNat_natCast, Nat.pow_zero, Nat.mul_one, Nat.zero_add]
   rw [IntKind.wrap_u64, show ((X : Int) % 18446744073709551616) = (X : Int) by omega, u64_or_nat 0 X (by omega) (by omega), Nat.zero_or]
 . have hV' : V < 4294967296 := by simpa using hV
   have e : IntKind.u64.wrap ((X : Int) * 2 ^ (32 * 1)) = ((X * 4294967296 : Nat) : Int) := by
    rw [IntKind.wrap_u64]
    omega
   rw [e, u64_or_nat V (X * 4294967296) (by omega) (by omega), Nat.or_comm, nat_join 32 _ _ (by omega) (by omega), Nat.add_comm]
   simp
theorem uint64_c (ao : Option Addr) (n c : Nat) (xs : List Int) (w : World) (h : Lst .u32 w ao n c xs) (b : Bool) (hb : b = decide (val xs < 18446744073709551616)) :
    Calls Tryz.prog 230 #[.slice ao n c] w fun e w' => e = .returned (.tuple #[.int .u64 (if b then (val xs : Int) else 0), .bool b]) /\ w = w' := by
 obtain ⟨v, hv⟩ : ∃ v, Hid (v = val xs) := ⟨_, rfl⟩
 have ht := trim_c ao n c xs w h
 rw [<- hv.out] at ht hb |-
 have HTR := Lib.hid ht
 have hcase : (b = true /\ (limbs v).length <= 2) \/ (b = false /\ 2 < (limbs v).length) := by
  by_cases h2 : (limbs v).length <= 2
  . exact Or.inl ⟨by rw [hb]; simpa using limbs_two.1 h2, h2⟩
  . refine Or.inr ⟨?_, by omega⟩
    rw [hb]
    have := fun h3 => h2 (limbs_two.2 h3)
    simpa using this
 clear ht hb h
 go_enter Tryz.func230, Tryz.ntmps230
 go_wp2_with fail
 refine HTR.out.mono ?_
 rintro e w' ⟨rfl, a1, n1, c1, rfl, h1, -⟩
 have hlen := Lib.hid h1.len
 rw [hlen.out] at hcase
 have hr := h1.room
 have hc := h1.cap
 clear HTR
 rcases hcase with ⟨rfl, h2⟩ | ⟨rfl, h2⟩
 . go_wp2_with fail
   go_loop [4, 14] (fun s4 i => ∃ j : Nat, j <= n1 /\ i = .int .i64 j /\ s4 = .int .u64 (val ((limbs v).take j))) (fun _ i => n1 - (intOf i).toNat)
   case atStart => exact ⟨0, Nat.zero_le _, rfl, rfl⟩
   case round =>
    obtain ⟨j, hj, rfl, rfl⟩ := hrel
    by_cases hlt : j < n1
    . have hia := ix h1 j hlt
      obtain ⟨x, HX, hx0, hx1, hcx⟩ := h1.at j hlt
      go_wp2_with fail
      have hbit : bits BinOp.or IntKind.u64 (↑(val (List.take j (limbs v)))) (IntKind.u64.wrap (x * 2 ^ (32 * j))) = ((val (List.take (j + 1) (limbs v)) : Nat) : Int) := by
       rw [val_take_succ, <- HX.out]
       exact or_limb h2 hlt hx0 hx1 (Nat.lt_of_lt_of_le (val_lt (fun y hy => limbs_ok v y (List.mem_of_mem_take hy))) (Nat.pow_le_pow_right (by omega) (List.length_take_le j _)))
      refine ⟨⟨j + 1, by omega, ?_, ?_⟩, ?_⟩
      . push_cast; rfl
      . rw [hbit]
      . simp only [intOf]
        omega
    . obtain rfl : j = n1 := by omega
      have hv2 : val ((limbs v).take j) = v := by rw [List.take_of_length_le (by rw [hlen.out]; exact Nat.le_refl _), val_limbs]
      have HV := Lib.hid hv2
      rw [hv2]
      clear hv2
      go_wp2_with fail
      go_ret2
      exact ⟨rfl, rfl⟩
 . go_wp2_with fail
   go_ret2
   exact ⟨rfl, rfl⟩
end Go.Proofs.YtemdkkphmldgjaaGreatDoor.Q
namespace Go.Proofs.YtemdkkphmldgjaaGreatDoor.Q
open Go.RowKit NatMath
theorem limbs_len0 {v : Nat} (h : (limbs v).length = 0) : v = 0 := by
 rcases Nat.eq_zero_or_pos v with h0 | h0
 . exact h0
 . rw [limbs_pos (by omega)] at h; simp at h
theorem gcd_c (ao bo : Option Addr) (n c m d : Nat) (xs ys : List Int) (w : World) (h : Lst .u32 w ao n c xs) (k : Lst .u32 w bo m d ys) (hn : n <= 1073741820) (hm : m <= 1073741820) :
    Calls Tryz.prog 194 #[.slice ao n c, .slice bo m d] w fun e w' => ∃ a1 n1 c1, e = .returned (.slice a1 n1 c1) /\ Own 144 .u32 w.heap.size w' a1 n1 c1 (limbs (Nat.gcd (val xs) (val ys))) /\ Below w.heap.size w w' := by
 obtain ⟨A, hA⟩ : ∃ A, Hid (A = val xs) := ⟨_, rfl⟩
 obtain ⟨V, hV⟩ : ∃ V, Hid (V = val ys) := ⟨_, rfl⟩
 have HA := norm_c ao n c xs w h (by omega)
 have HB := fun (w1 : World) (hb : Below w.heap.size w w1) => norm_c bo m d ys w1 (k.below hb) (by omega)
 rw [<- hA.out, <- hV.out]
 obtain ⟨G, hG⟩ : ∃ G, Hid (G = Nat.gcd A V) := ⟨_, rfl⟩
 rw [<- hG.out]
 rw [<- hA.out] at HA
 rw [<- hV.out] at HB
 have HA := Lib.hid HA
 have HB := Lib.hid HB
 clear h k
 go_enter Tryz.func194, Tryz.ntmps194
 go_wp2_with fail
 refine HA.out.mono ?_
 rintro e w1 ⟨a1, n1, c1, hn1, rfl, o1, b1⟩
 go_wp2_with fail
 refine (HB.out w1 b1).mono ?_
 rintro e w2 ⟨a2, n2, c2, hn2, rfl, o2, b2⟩
 have B2 : Below w.heap.size w w2 := b1.trans (b2.mono b1.size)
 have o1' := o1.kept b2
 have o2' : Own 144 .u32 w.heap.size w2 a2 n2 c2 (limbs V) := o2.low b1.size
 clear o1 o2 b1 b2 HA HB
 have hc1 := o1'.lst.cap
 have hr1 := o1'.lst.room
 have hc2 := o2'.lst.cap
 have hr2 := o2'.lst.room
 go_wp2_with fail
 go_loopg [0, 1] V (fun y s t wr => ∃ (x l f l2 f2 : Nat) (a b : Option Addr), l <= 1073741820 /\ l2 <= 1073741820 /\ s = .slice a l f /\ t = .slice b l2 f2 /\ Own 144 .u32 w.heap.size wr a l f (limbs x) /\ Own 144 .u32 w.heap.size wr b l2 f2 (limbs y) /\ Hid (Nat.gcd x y = G) /\ Below w.heap.size w wr)
 case atStart => exact ⟨A, n1, c1, n2, c2, a1, a2, by omega, by omega, rfl, rfl, o1', o2', hG.out.symm, B2⟩
 case round =>
  obtain ⟨x, l, f, l2, f2, a, b, hl, hl2, rfl, rfl, oa, ob, hg, hw⟩ := hrel
  clear o1' o2' B2
  have hr3 := oa.lst.room; have hc3 := oa.lst.cap; have hr4 := ob.lst.room; have hc4 := ob.lst.cap
  have hlen2 := Lib.hid ob.len
  have hlen1 := Lib.hid oa.len
  by_cases h0 : l2 = 0
  . subst h0
    have hy : gk = 0 := limbs_len0 hlen2.out
    subst hy
    have e := hg.out
    rw [Nat.gcd_zero_right] at e
    have E := Lib.hid e
    clear e
    go_wp2_with fail
    go_ret
    exact ⟨a, l, f, rfl, by rw [<- E.out]; exact oa, hw⟩
  . have hpos : 0 < l2 := by omega
    have hy : gk ≠ 0 := by
     intro h
     subst h
     have := hlen2.out
     rw [limbs_zero] at this
     exact h0 this.symm
    have hg2 : Hid (Nat.gcd gk (x % gk) = G) := by
     show Nat.gcd gk (x % gk) = G
     rw [<- hg.out, Nat.gcd_comm x gk, Nat.gcd_rec gk x, Nat.gcd_comm]
    have hlt := Nat.mod_lt x (Nat.pos_of_ne_zero hy)
    have HLT := Lib.hid hlt
    obtain ⟨p, hp⟩ : ∃ p, p = decide (val (limbs x) < 18446744073709551616) := ⟨_, rfl⟩
    obtain ⟨r, hr⟩ : ∃ r, r = decide (val (limbs gk) < 18446744073709551616) := ⟨_, rfl⟩
    have HX := Lib.hid (uint64_c a l f (limbs x) wr oa.lst p hp)
    have HY := Lib.hid (uint64_c b l2 f2 (limbs gk) wr ob.lst r hr)
    rw [val_limbs] at HX HY hp hr
    have hd := div_c a b l f l2 f2 (limbs x) (limbs gk) wr oa.lst ob.lst hl (by rw [val_limbs]; exact hy)
    rw [val_limbs, val_limbs] at hd
    have HD := Lib.hid hd
    have OB := Lib.hid ob
    have HW := Lib.hid hw
    clear hlt hd oa ob hw
    cases p with
    | true =>
     have hx64 : x < 18446744073709551616 := by simpa using hp.symm
     cases r with
     | true =>
      have hy64 : gk < 18446744073709551616 := by simpa using hr.symm
      have HG := Lib.hid (gcdWords_c x gk wr hx64 hy64)
      have hgb : Nat.gcd x gk <= 18446744073709551615 := by
       have := Nat.gcd_le_right x (Nat.pos_of_ne_zero hy)
       omega
      rw [hg.out] at HG hgb
      clear hp hr hx64 hy64
      go_wp2_with fail
      refine HX.out.mono ?_
      rintro e w' ⟨rfl, rfl⟩
      go_wp2_with fail
      refine HY.out.mono ?_
      rintro e w' ⟨rfl, rfl⟩
      go_wp2_with fail
      refine HG.out.mono ?_
      rintro e w4 ⟨rfl, b4⟩
      go_wp2_with fail
      refine (of_c (G : Int) _ (by omega) (by omega)).mono ?_
      rintro e w5 ⟨a5, n5, c5, _, rfl, o5, b5⟩
      go_wp2_with fail
      go_ret
      rw [Int.toNat_natCast] at o5
      have B4 : Below w.heap.size w w4 := HW.out.trans (b4.mono HW.out.size)
      exact ⟨a5, n5, c5, rfl, o5.low B4.size, B4.trans (b5.mono B4.size)⟩
     | false =>
      clear hp hr hx64
      go_wp2_with fail
      refine HX.out.mono ?_
      rintro e w' ⟨rfl, rfl⟩
      go_wp2_with fail
      refine HY.out.mono ?_
      rintro e w' ⟨rfl, rfl⟩
      go_wp2_with fail
      refine HD.out.mono ?_
      rintro e w2 ⟨a1, n1, c1, b1, m1, d1, rfl, o1, o2, b2⟩
      have hn2 : m1 <= l2 := by
       rw [<- o2.len, <- hlen2.out]
       exact limbs_len_mono (Nat.le_of_lt HLT.out)
      have OB2 := Lib.hid (OB.out.kept b2)
      have O2 := Lib.hid (o2.low HW.out.size)
      have HW2 := Lib.hid (HW.out.trans (b2.mono HW.out.size))
      clear o1 o2 b2 HD
      go_wp2_with fail
      go_roundg (x % gk)
      case measure => exact HLT.out
      case rel => exact ⟨gk, l2, f2, m1, d1, b, b1, hl2, by omega, rfl, rfl, OB2.out, O2.out, hg2, HW2.out⟩
    | false =>
     clear hp hr HY
     go_wp2_with fail
     refine HX.out.mono ?_
     rintro e w' ⟨rfl, rfl⟩
     go_wp2_with fail
     refine HD.out.mono ?_
     rintro e w2 ⟨a1, n1, c1, b1, m1, d1, rfl, o1, o2, b2⟩
     have hn2 : m1 <= l2 := by
      rw [<- o2.len, <- hlen2.out]
      exact limbs_len_mono (Nat.le_of_lt HLT.out)
     have OB2 := Lib.hid (OB.out.kept b2)
     have O2 := Lib.hid (o2.low HW.out.size)
     have HW2 := Lib.hid (HW.out.trans (b2.mono HW.out.size))
     clear o1 o2 b2 HD
     go_wp2_with fail
     go_roundg (x % gk)
     case measure => exact HLT.out
     case rel => exact ⟨gk, l2, f2, m1, d1, b, b1, hl2, by omega, rfl, rfl, OB2.out, O2.out, hg2, HW2.out⟩
end Go.Proofs.YtemdkkphmldgjaaGreatDoor.Q
namespace Go.Proofs.YtemdkkphmldgjaaGreatDoor.Q.RatMath
structure R where
 s : Bool
 p : Nat
 q : Nat
deriving DecidableEq
def zero : R := ⟨false, 0, 1⟩
def nf (x : R) : R := if x.p = 0 \/ x.q = 0 then zero else ⟨x.s, x.p / Nat.gcd x.p x.q, x.q / Nat.gcd x.p x.q⟩
def dv (x : R) : R := if x.q = 0 then zero else x
def ng (x : R) : R := ⟨!x.s, x.p, x.q⟩
def ml (x y : R) : R := ⟨x.s != y.s, x.p * y.p, x.q * y.q⟩
def sm (x y : R) : R :=
 if x.s = y.s then ⟨x.s, x.p * y.q + y.p * x.q, x.q * y.q⟩
 else if y.p * x.q <= x.p * y.q then ⟨x.s, x.p * y.q - y.p * x.q, x.q * y.q⟩
 else ⟨y.s, y.p * x.q - x.p * y.q, x.q * y.q⟩
def num (x : R) : Int := if x.s then -(x.p : Int) else (x.p : Int)
theorem dv_of {x : R} (h : x.q ≠ 0) : dv x = x := by unfold dv; rw [if_neg h]
theorem nf_zero {x : R} (h : x.p = 0 \/ x.q = 0) : nf x = zero := by unfold nf; rw [if_pos h]
theorem nf_pos {x : R} (h1 : x.p ≠ 0) (h2 : x.q ≠ 0) : nf x = ⟨x.s, x.p / Nat.gcd x.p x.q, x.q / Nat.gcd x.p x.q⟩ := by
 unfold nf; rw [if_neg (by intro h; rcases h with h | h <;> contradiction)]
theorem gcd_parts {a b : Nat} (h : a ≠ 0) : ∃ u v, a = Nat.gcd a b * u /\ b = Nat.gcd a b * v /\ 0 < Nat.gcd a b /\ Nat.gcd u v = 1 /\ a / Nat.gcd a b = u /\ b / Nat.gcd a b = v := by
 have hg : 0 < Nat.gcd a b := Nat.gcd_pos_of_pos_left _ (Nat.pos_of_ne_zero h)
 obtain ⟨u, hu⟩ := Nat.gcd_dvd_left a b
 obtain ⟨v, hv⟩ := Nat.gcd_dvd_right a b
 have e : Nat.gcd a b * Nat.gcd u v = Nat.gcd a b := by
  rw [<- Nat.gcd_mul_left, <- hu, <- hv]
 refine ⟨u, v, hu, hv, hg, ?_, ?_, ?_⟩
 . have : Nat.gcd a b * Nat.gcd u v = Nat.gcd a b * 1 := by rw [e, Nat.mul_one]
   exact Nat.eq_of_mul_eq_mul_left hg this
 . exact Nat.div_eq_of_eq_mul_right hg hu
 . exact Nat.div_eq_of_eq_mul_right hg hv
theorem nf_q (x : R) : (nf x).q ≠ 0 := by
 by_cases h : x.p = 0 \/ x.q = 0
 . rw [nf_zero h]; decide
 . have h1 : x.p ≠ 0 := fun e => h (Or.inl e)
   have h2 : x.q ≠ 0 := fun e => h (Or.inr e)
   rw [nf_pos h1 h2]
   obtain ⟨u, v, hu, hv, hg, _, e1, e2⟩ := gcd_parts (b := x.q) h1
   show x.q / Nat.gcd x.p x.q ≠ 0
   rw [e2]
   intro h0
   rw [h0, Nat.mul_zero] at hv
   exact h2 hv
theorem dv_nf (x : R) : dv (nf x) = nf x := dv_of (nf_q x)
theorem num_zero {x : R} : num x = 0 ↔ x.p = 0 := by
 unfold num
 split <;> omega
theorem nf_val {x : R} (hx : x.q ≠ 0) : num (nf x) * (x.q : Int) = num x * ((nf x).q : Int) := by
 by_cases hp : x.p = 0
 . rw [nf_zero (Or.inl hp), num_zero.2 hp]; simp [num, zero]
 . rw [nf_pos hp hx]
   obtain ⟨u, v, hu, hv, hg, _, e1, e2⟩ := gcd_parts (b := x.q) hp
   have h : x.p / Nat.gcd x.p x.q * x.q = x.p * (x.q / Nat.gcd x.p x.q) := by
    rw [e1, e2]
    generalize Nat.gcd x.p x.q = g at *
    rw [hu, hv]
    ac_rfl
   have hi : ((x.p / Nat.gcd x.p x.q : Nat) : Int) * (x.q : Int) = (x.p : Int) * ((x.q / Nat.gcd x.p x.q : Nat) : Int) := by
    rw [<- Int.natCast_mul, <- Int.natCast_mul, h]
   unfold num
   show (if x.s = true then -((x.p / Nat.gcd x.p x.q : Nat) : Int) else ((x.p / Nat.gcd x.p x.q : Nat) : Int)) * (x.q : Int) = _
   cases x.s
   . simpa using hi
   . simp only [if_true]
     rw [Int.neg_mul, Int.neg_mul, hi]
theorem sm_num (x y : R) : num (sm x y) = num x * (y.q : Int) + num y * (x.q : Int) := by
 obtain ⟨s1, p1, q1⟩ := x
 obtain ⟨s2, p2, q2⟩ := y
 unfold sm num
 have e1 : ((p1 * q2 : Nat) : Int) = (p1 : Int) * (q2 : Int) := by simp
 have e2 : ((p2 * q1 : Nat) : Int) = (p2 : Int) * (q1 : Int) := by simp
 cases s1 <;> cases s2 <;> simp only [if_true, Int.neg_mul, <- e1, <- e2] <;> simp
 . split <;> simp <;> omega
 . split <;> simp <;> omega
 . omega
theorem ng_num (x : R) : num (ng x) = -num x := by
 obtain ⟨s1, p1, q1⟩ := x
 unfold ng num
 cases s1 <;> simp
def cmp (x y : R) : Int := if (sm (dv x) (dv (ng y))).p = 0 then 0 else if (sm (dv x) (dv (ng y))).s then -1 else 1
theorem dv_ng_num (y : R) : num (dv (ng y)) = -num (dv y) /\ (dv (ng y)).q = (dv y).q := by
 unfold dv
 by_cases h : y.q = 0
 . have : (ng y).q = 0 := h
   rw [if_pos h, if_pos this]
   decide
 . have : (ng y).q ≠ 0 := h
   rw [if_neg h, if_neg this]
   exact ⟨ng_num y, rfl⟩
theorem cmp_num (x y : R) : num (sm (dv x) (dv (ng y))) = num (dv x) * ((dv y).q : Int) - num (dv y) * ((dv x).q : Int) := by
 rw [sm_num, (dv_ng_num y).1, (dv_ng_num y).2, Int.neg_mul]
 omega
theorem cmp_zero {x y : R} : cmp x y = 0 ↔ num (dv x) * ((dv y).q : Int) = num (dv y) * ((dv x).q : Int) := by
 have h := cmp_num x y
 unfold cmp
 constructor
 . intro h0
   split at h0
   . rename_i hp
     rw [num_zero.2 hp] at h
     omega
   . split at h0 <;> omega
 . intro h0
   rw [if_pos]
   apply num_zero.1
   omega
end Go.Proofs.YtemdkkphmldgjaaGreatDoor.Q.RatMath
/-
  Plain mathematics for layer 2: how numbers compare.
-/
namespace Go.Proofs.YtemdkkphmldgjaaGreatDoor.Q.RatMath
theorem sm_sign (z : R) : (if z.p = 0 then (0 : Int) else if z.s then -1 else 1) <= 0 ↔ num z <= 0 := by
 obtain ⟨s, p, q⟩ := z
 unfold num
 cases s <;> by_cases hp : p = 0 <;> simp [hp] <;> omega
theorem cmp_le {x y : R} : cmp x y <= 0 ↔ num (dv x) * ((dv y).q : Int) <= num (dv y) * ((dv x).q : Int) := by
 have h := cmp_num x y
 have h2 := sm_sign (sm (dv x) (dv (ng y)))
 unfold cmp
 rw [h2, h]
 omega
end Go.Proofs.YtemdkkphmldgjaaGreatDoor.Q.RatMath
namespace Go.Proofs.YtemdkkphmldgjaaGreatDoor.Q
open Go.RowKit NatMath
def Blk (w : World) (g : Nat) (t : TypeId) (cs : Array Value) : Prop := w.heap[g]? = some (.cells cs t (0, 0))
section
variable {w w' : World} {g : Nat} {t : TypeId} {cs : Array Value}
theorem Blk.lt (h : Blk w g t cs) : g < w.heap.size := by
 rcases Nat.lt_or_ge g w.heap.size with hlt | hge
 . exact hlt
 . unfold Blk at h; rw [Array.getElem?_eq_none hge] at h; cases h
theorem Blk.cell (h : Blk w g t cs) (i : Nat) : w.cell? ⟨g, i, none⟩ = cs[i]? := cell_of_row w g i cs t (0, 0) h
theorem Blk.frozen (h : Blk w g t cs) (i : Nat) : w.frozen? ⟨g, i, none⟩ = false := by
 unfold Blk at h
 simp [World.frozen?, h]
theorem Blk.new (w : World) (t : TypeId) (cs : Array Value) : Blk (w.alloc (.cells cs t)) w.heap.size t cs := heap_alloc_new w _
theorem Blk.drewN (h : Blk w g t cs) (n : Nat) : Blk (w.drewN n) g t cs := h
theorem Blk.alloc (h : Blk w g t cs) (o : Obj) : Blk (w.alloc o) g t cs := (Below.heap_alloc w o g h.lt).trans h
theorem Blk.set (h : Blk w g t cs) (i : Nat) (u : Value) : Blk (w.setCell ⟨g, i, none⟩ u) g t (cs.setIfInBounds i u) := by
 unfold Blk at h |-
 simp [World.setCell, Array.getElem?_modify, h]
theorem Blk.far (h : Blk w g t cs) {p : Addr} (hp : g ≠ p.block) (u : Value) : Blk (w.setCell p u) g t cs := (Below.heap_setCell w p u g hp).trans h
theorem Blk.below {B : Nat} (h : Blk w g t cs) (hb : Below B w w') (hg : g < B) : Blk w' g t cs := (hb.block g hg).trans h
theorem Blk.on (h : Blk w g t cs) (hb : Below w.heap.size w w') : Blk w' g t cs := h.below hb h.lt
end
def put3 (w : World) (g : Nat) (u0 u1 u2 : Value) : World := ((w.setCell ⟨g, 0, none⟩ u0).setCell ⟨g, 1, none⟩ u1).setCell ⟨g, 2, none⟩ u2
section
variable {w : World} {g : Nat} {t : TypeId} {v0 v1 v2 : Value}
theorem Blk.cells3 (h : Blk w g t #[v0, v1, v2]) : w.cell? ⟨g, 0, none⟩ = some v0 /\ w.cell? ⟨g, 1, none⟩ = some v1 /\ w.cell? ⟨g, 2, none⟩ = some v2 := ⟨h.cell 0, h.cell 1, h.cell 2⟩
theorem Blk.store3 (h : Blk w g t #[v0, v1, v2]) (u0 u1 : Value) :
    w.cell? ⟨g, 0, none⟩ = some v0 /\ w.frozen? ⟨g, 0, none⟩ = false /\ (w.setCell ⟨g, 0, none⟩ u0).cell? ⟨g, 1, none⟩ = some v1 /\ (w.setCell ⟨g, 0, none⟩ u0).frozen? ⟨g, 1, none⟩ = false /\
    ((w.setCell ⟨g, 0, none⟩ u0).setCell ⟨g, 1, none⟩ u1).cell? ⟨g, 2, none⟩ = some v2 /\ ((w.setCell ⟨g, 0, none⟩ u0).setCell ⟨g, 1, none⟩ u1).frozen? ⟨g, 2, none⟩ = false := by
 have h1 := h.set 0 u0
 have h2 := h1.set 1 u1
 exact ⟨h.cell 0, h.frozen 0, h1.cell 1, h1.frozen 1, h2.cell 2, h2.frozen 2⟩
theorem Blk.put3 (h : Blk w g t #[v0, v1, v2]) (u0 u1 u2 : Value) : Blk (put3 w g u0 u1 u2) g t #[u0, u1, u2] := ((h.set 0 u0).set 1 u1).set 2 u2
theorem below_put3 {B : Nat} {a : World} (h : Below B a w) (hg : B <= g) (u0 u1 u2 : Value) : Below B a (Go.Proofs.YtemdkkphmldgjaaGreatDoor.Q.put3 w g u0 u1 u2) := ((h.setCell hg u0).setCell hg u1).setCell hg u2
theorem put3_other {g' : Nat} {t' : TypeId} {cs : Array Value} (h : Blk w g' t' cs) (hne : g' ≠ g) (u0 u1 u2 : Value) : Blk (Go.Proofs.YtemdkkphmldgjaaGreatDoor.Q.put3 w g u0 u1 u2) g' t' cs := ((h.far (p := ⟨g, 0, none⟩) hne u0).far (p := ⟨g, 1, none⟩) hne u1).far (p := ⟨g, 2, none⟩) hne u2
theorem put3_grown (w : World) (g : Nat) (u0 u1 u2 : Value) : w.grownBy (Go.Proofs.YtemdkkphmldgjaaGreatDoor.Q.put3 w g u0 u1 u2) (some g) := by
 have e : ∀ (w : World) (i : Nat) (u : Value), w.grownBy (w.setCell ⟨g, i, none⟩ u) (some g) := fun w i u =>
  ⟨rfl, rfl, rfl, by simp [World.setCell], fun k _ hk => Below.heap_setCell w _ u k (fun e => hk (by rw [e]))⟩
 exact grown_trans (grown_trans (e w 0 u0) (e _ 1 u1)) (e _ 2 u2)
end
theorem Own.put3 {e : TypeId} {k : IntKind} {B : Nat} {w : World} {ao : Option Addr} {n c : Nat} {xs : List Int} (h : Own e k B w ao n c xs) {g : Nat} (hne : ∀ a, ao = some a -> g ≠ a.block) (u0 u1 u2 : Value) : Own e k B (put3 w g u0 u1 u2) ao n c xs :=
 h.grown (put3_grown w g u0 u1 u2) (fun a ha => by simpa using hne a ha)
theorem Own.hi {e : TypeId} {k : IntKind} {B : Nat} {w : World} {ao : Option Addr} {n c : Nat} {xs : List Int} (h : Own e k B w ao n c xs) {g : Nat} (hg : g < B) : ∀ a, ao = some a -> g ≠ a.block := by
 intro a ha
 rcases h.cases with ⟨h0, _⟩ | ⟨q, hq, h1, _⟩
 . rw [h0] at ha; cases ha
 . rw [hq] at ha
   cases ha
   show g ≠ q
   omega
theorem Lst.put3 {k : IntKind} {w : World} {ao : Option Addr} {n c : Nat} {xs : List Int} (h : Lst k w ao n c xs) {g : Nat} (hne : ∀ i, i < n -> (pt ao i).block ≠ g) (u0 u1 u2 : Value) : Lst k (put3 w g u0 u1 u2) ao n c xs :=
 h.grown (put3_grown w g u0 u1 u2) (fun i hi => by simpa using hne i hi)
theorem boxed2 (w : World) (t : TypeId) (A B : Array Value) : ∃ W, W = (w.alloc (.cells A t)).alloc (.cells B t) /\ Blk W w.heap.size t A /\ Blk W (w.heap.size + 1) t B /\ Below w.heap.size w W := by
 refine ⟨_, rfl, (Blk.new w t A).alloc _, ?_, ((Below.refl w.heap.size w).alloc (Nat.le_refl _) _).alloc (by simp) _⟩
 have := Blk.new (w.alloc (.cells A t)) t B
 rwa [show (w.alloc (.cells A t)).heap.size = w.heap.size + 1 by simp] at this
end Go.Proofs.YtemdkkphmldgjaaGreatDoor.Q
/-
  ratio.isZero, ratio.Make, ratio.normal, ratio.divisible, ratio.negate.
-/
namespace Go.Proofs.YtemdkkphmldgjaaGreatDoor.Q
open Go.RowKit NatMath RatMath
theorem limbs_1 : limbs 1 = [1] := by
 rw [limbs_pos (by omega), show 1 / 4294967296 = 0 by omega, limbs_zero]; rfl
def rv (s : Bool) (a : Option Addr) (n c : Nat) (b : Option Addr) (m d : Nat) : Value := .agg #[.bool s, .slice a n c, .slice b m d]
theorem bitsN_len {v : Nat} : (((bitsN v).length : Int) == 0) = decide (v = 0) := by
 by_cases h : v = 0
 . subst h; rw [bitsN_zero]; rfl
 . rw [bitsN_pos h, decide_eq_false h]
   simp
   omega
theorem isZero_c (ao : Option Addr) (n c : Nat) (xs : List Int) (w : World) (h : Lst .u32 w ao n c xs) (hn : n <= 1073741820) :
    Calls Tryz.prog 108 #[.slice ao n c] w fun e w' => e = .returned (.bool (decide (val xs = 0))) /\ w = w' := by
 have HB := Lib.hid (bits_c ao n c xs w h (by omega))
 have hz := Lib.hid (bitsN_len (v := val xs))
 obtain ⟨L, hL⟩ : ∃ L, Hid (L = (bitsN (val xs)).length) := ⟨_, rfl⟩
 rw [<- hL.out] at HB
 go_enter Tryz.func108, Tryz.ntmps108
 go_wp2_with fail
 refine HB.out.mono ?_
 rintro e w' ⟨rfl, rfl⟩
 go_wp2_with fail
 go_ret
 exact ⟨by rw [<- hz.out, hL.out]; rfl, rfl⟩
theorem make_c (s : Bool) (ao bo : Option Addr) (n c m d : Nat) (xs ys : List Int) (w : World) (h : Lst .u32 w ao n c xs) (k : Lst .u32 w bo m d ys) (hn : n <= 1000000) (hm : m <= 1000000) :
    Calls Tryz.prog 144 #[.bool s, .slice ao n c, .slice bo m d] w fun e w' => ∃ s' a n' c' b m' d', e = .returned (.agg #[.bool s', .slice a n' c', .slice b m' d']) /\ s' = (nf ⟨s, val xs, val ys⟩).s /\ Own 144 .u32 w.heap.size w' a n' c' (limbs (nf ⟨s, val xs, val ys⟩).p) /\ Own 144 .u32 w.heap.size w' b m' d' (limbs (nf ⟨s, val xs, val ys⟩).q) /\ n' <= n /\ m' <= m + 1 /\ Below w.heap.size w w' := by
 obtain ⟨X, hX⟩ : ∃ X, Hid (X = val xs) := ⟨_, rfl⟩
 obtain ⟨Y, hY⟩ : ∃ Y, Hid (Y = val ys) := ⟨_, rfl⟩
 have HZ1 := fun w1 (hb : Below w.heap.size w w1) => isZero_c ao n c xs w1 (h.below hb) (by omega)
 have HZ2 := fun w1 (hb : Below w.heap.size w w1) => isZero_c bo m d ys w1 (k.below hb) (by omega)
 have HG := fun w1 (hb : Below w.heap.size w w1) => gcd_c ao bo n c m d xs ys w1 (h.below hb) (k.below hb) (by omega) (by omega)
 rw [<- hX.out] at HZ1
 rw [<- hY.out] at HZ2
 rw [<- hX.out, <- hY.out] at HG |-
 have HZ1 := Lib.hid HZ1; have HZ2 := Lib.hid HZ2; have HG := Lib.hid HG
 have H := Lib.hid h; have K := Lib.hid k
 have bb := (Below.refl w.heap.size w).alloc (Nat.le_refl _) (.cells #[.bool false, .slice none 0 0, .slice none 0 0] 32)
 clear h k
 go_enter Tryz.func144, Tryz.ntmps144
 go_wp2_with fail
 refine (HZ1.out _ bb).mono ?_
 rintro e w' ⟨rfl, rfl⟩
 by_cases hx : X = 0
 . have hd : decide (X = 0) = true := by simpa using hx
   have HN := Lib.hid (nf_zero (x := ⟨s, X, Y⟩) (Or.inl hx))
   clear hx
   go_wp2_with fail
   refine (of_c 1 _ (by omega) (by omega)).mono ?_
   rintro e w2 ⟨a2, n2, c2, hn2, rfl, o2, b2⟩
   have hlen2 : n2 <= 1 := by rw [<- o2.len, show Int.toNat 1 = 1 from rfl, limbs_1]; decide
   have k2 := (Blk.new w 32 #[.bool false, .slice none 0 0, .slice none 0 0]).on b2
   have BB := Lib.hid (bb.trans (b2.mono (by simp)))
   have O2 := Lib.hid o2
   obtain ⟨s0, s1, s2, s3, s4, s5⟩ := k2.store3 (.bool false) (.slice none 0 0)
   have K2 := Lib.hid k2
   clear k2 o2 b2
   go_wp2_with fail
   have k3 := K2.out.put3 (.bool false) (.slice none 0 0) (.slice a2 n2 c2)
   have b3 := below_put3 BB.out (Nat.le_refl _) (.bool false) (.slice none 0 0) (.slice a2 n2 c2)
   have o3 := O2.out.put3 (O2.out.hi (g := w.heap.size) (by simp)) (.bool false) (.slice none 0 0) (.slice a2 n2 c2)
   obtain ⟨W, hW⟩ : ∃ W, W = put3 w2 w.heap.size (.bool false) (.slice none 0 0) (.slice a2 n2 c2) := ⟨_, rfl⟩
   change bodyPost _ _ _ _ _ (put3 w2 w.heap.size (.bool false) (.slice none 0 0) (.slice a2 n2 c2))
   rw [<- hW] at k3 b3 o3 |-
   obtain ⟨r0, r1, r2⟩ := k3.cells3
   refine bodyPost_ret (v := .agg #[.bool false, .slice none 0 0, .slice a2 n2 c2]) (by simp [results, Tryz.results144, go_sem, r0, r1, r2]) rfl ?_
   refine ⟨_, none, 0, 0, a2, n2, c2, rfl, by rw [HN.out]; rfl, ?_, ?_, Nat.zero_le _, by omega, b3⟩
   . rw [HN.out, show zero.p = 0 from rfl, limbs_zero]; exact own_nil _ _ _ _
   . rw [HN.out, show zero.q = 1 from rfl]
     exact o3.low (by simp)
 have hd : decide (X = 0) = false := by simpa using hx
 by_cases hy : Y = 0
 . have hd2 : decide (Y = 0) = true := by simpa using hy
   have HN := Lib.hid (nf_zero (x := ⟨s, X, Y⟩) (Or.inr hy))
   clear hx hy
   go_wp2_with fail
   refine (HZ2.out _ bb).mono ?_
   rintro e w' ⟨rfl, rfl⟩
   go_wp2_with fail
   refine (of_c 1 _ (by omega) (by omega)).mono ?_
   rintro e w2 ⟨a2, n2, c2, hn2, rfl, o2, b2⟩
   have hlen2 : n2 <= 1 := by rw [<- o2.len, show Int.toNat 1 = 1 from rfl, limbs_1]; decide
   have k2 := (Blk.new w 32 #[.bool false, .slice none 0 0, .slice none 0 0]).on b2
   have BB := Lib.hid (bb.trans (b2.mono (by simp)))
   have O2 := Lib.hid o2
   obtain ⟨s0, s1, s2, s3, s4, s5⟩ := k2.store3 (.bool false) (.slice none 0 0)
   have K2 := Lib.hid k2
   clear k2 o2 b2
   go_wp2_with fail
   have k3 := K2.out.put3 (.bool false) (.slice none 0 0) (.slice a2 n2 c2)
   have b3 := below_put3 BB.out (Nat.le_refl _) (.bool false) (.slice none 0 0) (.slice a2 n2 c2)
   have o3 := O2.out.put3 (O2.out.hi (g := w.heap.size) (by simp)) (.bool false) (.slice none 0 0) (.slice a2 n2 c2)
   obtain ⟨W, hW⟩ : ∃ W, W = put3 w2 w.heap.size (.bool false) (.slice none 0 0) (.slice a2 n2 c2) := ⟨_, rfl⟩
   change bodyPost _ _ _ _ _ (put3 w2 w.heap.size (.bool false) (.slice none 0 0) (.slice a2 n2 c2))
   rw [<- hW] at k3 b3 o3 |-
   obtain ⟨r0, r1, r2⟩ := k3.cells3
   refine bodyPost_ret (v := .agg #[.bool false, .slice none 0 0, .slice a2 n2 c2]) (by simp [results, Tryz.results144, go_sem, r0, r1, r2]) rfl ?_
   refine ⟨_, none, 0, 0, a2, n2, c2, rfl, by rw [HN.out]; rfl, ?_, ?_, Nat.zero_le _, by omega, b3⟩
   . rw [HN.out, show zero.p = 0 from rfl, limbs_zero]; exact own_nil _ _ _ _
   . rw [HN.out, show zero.q = 1 from rfl]
     exact o3.low (by simp)
 . have hd2 : decide (Y = 0) = false := by simpa using hy
   have HN := Lib.hid (nf_pos (x := ⟨s, X, Y⟩) hx hy)
   have hg0 : Nat.gcd X Y ≠ 0 := fun h0 => hx (Nat.eq_zero_of_gcd_eq_zero_left h0)
   have hXn := Lib.hid (limbs_val_length H.out.ok)
   have hYn := Lib.hid (limbs_val_length K.out.ok)
   rw [<- hX.out, H.out.len] at hXn
   rw [<- hY.out, K.out.len] at hYn
   have hgb : (limbs (Nat.gcd X Y)).length <= n := Nat.le_trans (limbs_len_mono (Nat.gcd_le_left Y (Nat.pos_of_ne_zero hx))) hXn.out
   obtain ⟨G, hG⟩ : ∃ G, Hid (G = Nat.gcd X Y) := ⟨_, rfl⟩
   rw [<- hG.out] at HG hg0 hgb
   have HX := Lib.hid hx
   have HY := Lib.hid hy
   have HGB := Lib.hid hgb
   have HG0 := Lib.hid hg0
   clear hx hy hgb hg0
   go_wp2_with fail
   refine (HZ2.out _ bb).mono ?_
   rintro e w' ⟨rfl, rfl⟩
   go_wp2_with fail
   refine (HG.out _ bb).mono ?_
   rintro e w2 ⟨a2, n2, c2, rfl, o2, b2⟩
   have k2 := (Blk.new w 32 #[.bool false, .slice none 0 0, .slice none 0 0]).on b2
   have BB := Lib.hid (bb.trans (b2.mono (by simp)))
   have hn2 : n2 <= n := by rw [<- o2.len]; exact HGB.out
   have D := o2.lst
   have hd1 := div_c ao a2 n c n2 c2 xs (limbs G) w2 (H.out.below BB.out) D (by omega) (by rw [val_limbs]; exact HG0.out)
   rw [val_limbs, <- hX.out] at hd1
   have HD1 := Lib.hid hd1
   have K2 := Lib.hid k2
   clear k2 o2 b2 hd1
   go_wp2_with fail
   refine HD1.out.mono ?_
   rintro e w3 ⟨a3, n3, c3, a4, n4, c4, rfl, o3, _, b3⟩
   have BB3 := Lib.hid (BB.out.trans (b3.mono BB.out.size))
   have K3 := Lib.hid (K2.out.on b3)
   have hn3 : n3 <= n := by
    rw [<- o3.len]
    exact Nat.le_trans (limbs_len_mono (Nat.div_le_self X G)) hXn.out
   have O3 := Lib.hid (o3.low BB.out.size)
   have hlow3 := Lib.hid (o3.hi (g := w.heap.size) K2.out.lt)
   have D3 := D.below b3
   have hd2' := div_c bo a2 m d n2 c2 ys (limbs G) w3 (K.out.below BB3.out) D3 (by omega) (by rw [val_limbs]; exact HG0.out)
   rw [val_limbs, <- hY.out] at hd2'
   have HD2 := Lib.hid hd2'
   clear D D3 b3 hd2' HD1 o3
   go_wp2_with fail
   refine HD2.out.mono ?_
   rintro e w4 ⟨a5, n5, c5, a6, n6, c6, rfl, o5, _, b4⟩
   have BB := Lib.hid (BB3.out.trans (b4.mono BB3.out.size))
   have K2 := Lib.hid (K3.out.on b4)
   have hn5 : n5 <= m := by
    rw [<- o5.len]
    exact Nat.le_trans (limbs_len_mono (Nat.div_le_self Y G)) hYn.out
   have O3 := Lib.hid (O3.out.kept b4)
   have hlow5 := Lib.hid (o5.hi (g := w.heap.size) K3.out.lt)
   have O5 := Lib.hid (o5.low BB3.out.size)
   obtain ⟨s0, s1, s2, s3, s4, s5⟩ := K2.out.store3 (.bool s) (.slice a3 n3 c3)
   clear o5 b4 HD2
   go_wp2_with fail
   have k3 := K2.out.put3 (.bool s) (.slice a3 n3 c3) (.slice a5 n5 c5)
   have b3 := below_put3 BB.out (Nat.le_refl _) (.bool s) (.slice a3 n3 c3) (.slice a5 n5 c5)
   have p3 := O3.out.put3 hlow3.out (.bool s) (.slice a3 n3 c3) (.slice a5 n5 c5)
   have p5 := O5.out.put3 hlow5.out (.bool s) (.slice a3 n3 c3) (.slice a5 n5 c5)
   obtain ⟨W, hW⟩ : ∃ W, W = put3 w4 w.heap.size (.bool s) (.slice a3 n3 c3) (.slice a5 n5 c5) := ⟨_, rfl⟩
   change bodyPost _ _ _ _ _ (put3 w4 w.heap.size (.bool s) (.slice a3 n3 c3) (.slice a5 n5 c5))
   rw [<- hW] at k3 b3 p3 p5 |-
   obtain ⟨r0, r1, r2⟩ := k3.cells3
   refine bodyPost_ret (v := .agg #[.bool s, .slice a3 n3 c3, .slice a5 n5 c5]) (by simp [results, Tryz.results144, go_sem, r0, r1, r2]) rfl ?_
   refine ⟨_, a3, n3, c3, a5, n5, c5, rfl, by rw [HN.out], ?_, ?_, hn3, by omega, b3⟩
   . rw [HN.out, <- hG.out]; exact p3
   . rw [HN.out, <- hG.out]; exact p5
end Go.Proofs.YtemdkkphmldgjaaGreatDoor.Q
/-
  ratio.normal, ratio.divisible, ratio.negate.
-/
namespace Go.Proofs.YtemdkkphmldgjaaGreatDoor.Q
open Go.RowKit NatMath RatMath
theorem normal_c (s : Bool) (ao bo : Option Addr) (n c m d : Nat) (xs ys : List Int) (w : World) (h : Lst .u32 w ao n c xs) (k : Lst .u32 w bo m d ys) (hn : n <= 1000000) (hm : m <= 1000000) :
    Calls Tryz.prog 87 #[.agg #[.bool s, .slice ao n c, .slice bo m d]] w fun e w' => ∃ s' a n' c' b m' d', e = .returned (.agg #[.bool s', .slice a n' c', .slice b m' d']) /\ s' = (nf ⟨s, val xs, val ys⟩).s /\ Own 144 .u32 w.heap.size w' a n' c' (limbs (nf ⟨s, val xs, val ys⟩).p) /\ Own 144 .u32 w.heap.size w' b m' d' (limbs (nf ⟨s, val xs, val ys⟩).q) /\ n' <= n /\ m' <= m + 1 /\ Below w.heap.size w w' := by
 have HM := Lib.hid (fun w1 (hb : Below w.heap.size w w1) => make_c s ao bo n c m d xs ys w1 (h.below hb) (k.below hb) hn hm)
 clear h k
 go_enter Tryz.func87, Tryz.ntmps87
 go_wp2_with fail
 have bb : Below w.heap.size w ((w.alloc (.cells #[.bool s, .slice ao n c, .slice bo m d] 32)).alloc (.cells #[.bool false, .slice none 0 0, .slice none 0 0] 32)) := ((Below.refl w.heap.size w).alloc (Nat.le_refl _) _).alloc (by simp) _
 have kb := Blk.new (w.alloc (.cells #[.bool s, .slice ao n c, .slice bo m d] 32)) 32 #[.bool false, .slice none 0 0, .slice none 0 0]
 rw [show (w.alloc (.cells #[.bool s, .slice ao n c, .slice bo m d] 32)).heap.size = w.heap.size + 1 by simp] at kb
 obtain ⟨w1, hw1⟩ : ∃ w1, w1 = ((w.alloc (.cells #[.bool s, .slice ao n c, .slice bo m d] 32)).alloc (.cells #[.bool false, .slice none 0 0, .slice none 0 0] 32)) := ⟨_, rfl⟩
 rw [<- hw1] at bb kb |-
 refine (HM.out w1 bb).mono ?_
 rintro e w2 ⟨s2, a2, n2, c2, b2, m2, d2, rfl, hs2, o2, o3, hn2, hm2, bb2⟩
 have K2 := kb.on bb2
 have BB := bb.trans (bb2.mono bb.size)
 have h2 := o2.hi (g := w.heap.size + 1) kb.lt
 have h3 := o3.hi (g := w.heap.size + 1) kb.lt
 have O2 := Lib.hid (o2.low bb.size)
 have O3 := Lib.hid (o3.low bb.size)
 obtain ⟨q0, q1, q2, q3, q4, q5⟩ := K2.store3 (.bool s2) (.slice a2 n2 c2)
 have HS := Lib.hid hs2
 clear hs2 hw1 kb bb bb2 o2 o3
 go_wp2_with fail
 have pbox := K2.put3 (.bool s2) (.slice a2 n2 c2) (.slice b2 m2 d2)
 have pbel := below_put3 BB (Nat.le_succ _) (.bool s2) (.slice a2 n2 c2) (.slice b2 m2 d2)
 have p2 := O2.out.put3 h2 (.bool s2) (.slice a2 n2 c2) (.slice b2 m2 d2)
 have p3 := O3.out.put3 h3 (.bool s2) (.slice a2 n2 c2) (.slice b2 m2 d2)
 obtain ⟨W, hW⟩ : ∃ W, W = put3 w2 (w.heap.size + 1) (.bool s2) (.slice a2 n2 c2) (.slice b2 m2 d2) := ⟨_, rfl⟩
 change bodyPost _ _ _ _ _ (put3 w2 (w.heap.size + 1) (.bool s2) (.slice a2 n2 c2) (.slice b2 m2 d2))
 rw [<- hW] at pbox pbel p2 p3 |-
 obtain ⟨r0, r1, r2⟩ := pbox.cells3
 refine bodyPost_ret (v := .agg #[.bool s2, .slice a2 n2 c2, .slice b2 m2 d2]) (by simp [results, Tryz.results87, go_sem, r0, r1, r2]) rfl ?_
 exact ⟨s2, a2, n2, c2, b2, m2, d2, rfl, HS.out, p2, p3, hn2, hm2, pbel⟩
theorem negate_c (s : Bool) (ao bo : Option Addr) (n c m d : Nat) (w : World) :
    Calls Tryz.prog 107 #[.agg #[.bool s, .slice ao n c, .slice bo m d]] w fun e w' => e = .returned (.agg #[.bool !s, .slice ao n c, .slice bo m d]) /\ Below w.heap.size w w' := by
 go_enter Tryz.func107, Tryz.ntmps107
 go_wp2_with fail
 exact bodyPost_ret (v := .agg #[.bool !s, .slice ao n c, .slice bo m d]) (by simp [results, Tryz.results107, go_sem]) rfl ⟨rfl, ((Below.refl _ _).alloc (Nat.le_refl _) _).alloc (by simp) _⟩
def Away (w : World) (n : Nat) (ao : Option Addr) (n' : Nat) (a : Option Addr) : Prop := ∀ g, g < w.heap.size -> (∀ j, j < n -> (pt ao j).block ≠ g) -> ∀ i, i < n' -> (pt a i).block ≠ g
theorem divisible_c (s : Bool) (ao bo : Option Addr) (n c m d : Nat) (xs ys : List Int) (w : World) (h : Lst .u32 w ao n c xs) (k : Lst .u32 w bo m d ys) (hn : n <= 1000000) (hm : m <= 1000000) :
    Calls Tryz.prog 159 #[.agg #[.bool s, .slice ao n c, .slice bo m d]] w fun e w' => ∃ s' a n' c' b m' d' xs' ys', e = .returned (.agg #[.bool s', .slice a n' c', .slice b m' d']) /\ R.mk s' (val xs') (val ys') = dv ⟨s, val xs, val ys⟩ /\ Lst .u32 w' a n' c' xs' /\ Lst .u32 w' b m' d' ys' /\ n' <= n /\ m' <= m + 1 /\ Away w n ao n' a /\ Away w m bo m' b /\ Below w.heap.size w w' := by
 have HZ := Lib.hid (fun w1 (hb : Below w.heap.size w w1) => isZero_c bo m d ys w1 (k.below hb) (by omega))
 have HM := Lib.hid (fun w1 (hb : Below w.heap.size w w1) => normal_c s ao bo n c m d xs ys w1 (h.below hb) (k.below hb) hn hm)
 have bb : Below w.heap.size w ((w.alloc (.cells #[.bool s, .slice ao n c, .slice bo m d] 32)).alloc (.cells #[.bool false, .slice none 0 0, .slice none 0 0] 32)) := ((Below.refl w.heap.size w).alloc (Nat.le_refl _) _).alloc (by simp) _
 by_cases hy : val ys = 0
 . have hd : decide (val ys = 0) = true := by simpa using hy
   rw [hd] at HZ
   have HN := Lib.hid (nf_zero (x := ⟨s, val xs, val ys⟩) (Or.inr hy))
   have HD : Hid (dv ⟨s, val xs, val ys⟩ = zero) := by show _ = _; unfold dv; rw [if_pos hy]
   have HK := Lib.hid hm
   clear hd hy h k
   go_enter Tryz.func159, Tryz.ntmps159
   go_wp2_with fail
   refine (HZ.out _ bb).mono ?_
   rintro e w' ⟨rfl, rfl⟩
   go_wp2_with fail
   have kb := Blk.new (w.alloc (.cells #[.bool s, .slice ao n c, .slice bo m d] 32)) 32 #[.bool false, .slice none 0 0, .slice none 0 0]
   rw [show (w.alloc (.cells #[.bool s, .slice ao n c, .slice bo m d] 32)).heap.size = w.heap.size + 1 by simp] at kb
   obtain ⟨w1, hw1⟩ : ∃ w1, w1 = ((w.alloc (.cells #[.bool s, .slice ao n c, .slice bo m d] 32)).alloc (.cells #[.bool false, .slice none 0 0, .slice none 0 0] 32)) := ⟨_, rfl⟩
   rw [<- hw1] at bb kb |-
   refine (HM.out w1 bb).mono ?_
   rintro e w2 ⟨s2, a2, n2, c2, b2, m2, d2, rfl, hs2, o2, o3, hn2, hm2, bb2⟩
   have K2 := kb.on bb2
   have BB := bb.trans (bb2.mono bb.size)
   have h2 := o2.hi (g := w.heap.size + 1) kb.lt
   have h3 := o3.hi (g := w.heap.size + 1) kb.lt
   have O2 := Lib.hid (o2.low bb.size)
   have O3 := Lib.hid (o3.low bb.size)
   obtain ⟨q0, q1, q2, q3, q4, q5⟩ := K2.store3 (.bool s2) (.slice a2 n2 c2)
   rw [HN.out] at hs2
   have HS := Lib.hid hs2
   clear hs2 hw1 kb bb bb2 o2 o3
   go_wp2_with fail
   have pbox := K2.put3 (.bool s2) (.slice a2 n2 c2) (.slice b2 m2 d2)
   have pbel := below_put3 BB (Nat.le_succ _) (.bool s2) (.slice a2 n2 c2) (.slice b2 m2 d2)
   have p2 := O2.out.put3 h2 (.bool s2) (.slice a2 n2 c2) (.slice b2 m2 d2)
   have p3 := O3.out.put3 h3 (.bool s2) (.slice a2 n2 c2) (.slice b2 m2 d2)
   obtain ⟨W, hW⟩ : ∃ W, W = put3 w2 (w.heap.size + 1) (.bool s2) (.slice a2 n2 c2) (.slice b2 m2 d2) := ⟨_, rfl⟩
   change bodyPost _ _ _ _ _ (put3 w2 (w.heap.size + 1) (.bool s2) (.slice a2 n2 c2) (.slice b2 m2 d2))
   rw [<- hW] at pbox pbel p2 p3 |-
   obtain ⟨r0, r1, r2⟩ := pbox.cells3
   refine bodyPost_ret (v := .agg #[.bool s2, .slice a2 n2 c2, .slice b2 m2 d2]) (by simp [results, Tryz.results159, go_sem, r0, r1, r2]) rfl ?_
   refine ⟨s2, a2, n2, c2, b2, m2, d2, _, _, rfl, ?_, p2.lst, p3.lst, hn2, hm2, fun g hg _ i hi => by have := p2.base hi; omega, fun g hg _ i hi => by have := p3.base hi; omega, pbel⟩
   rw [val_limbs, val_limbs, HS.out, HN.out, HD.out]
 . have hd : decide (val ys = 0) = false := by simpa using hy
   rw [hd] at HZ
   have HD : Hid (dv ⟨s, val xs, val ys⟩ = ⟨s, val xs, val ys⟩) := by show _ = _; unfold dv; rw [if_neg hy]
   have H := Lib.hid h; have K := Lib.hid k
   clear hd hy h k HM
   go_enter Tryz.func159, Tryz.ntmps159
   go_wp2_with fail
   refine (HZ.out _ bb).mono ?_
   rintro e w' ⟨rfl, rfl⟩
   clear bb
   go_wp2_with fail
   refine bodyPost_ret (v := .agg #[.bool s, .slice ao n c, .slice bo m d]) (by simp [results, Tryz.results159, go_sem]) rfl ?_
   have b2 : Below w.heap.size w ((w.alloc (.cells #[.bool s, .slice ao n c, .slice bo m d] 32)).alloc (.cells #[.bool s, .slice ao n c, .slice bo m d] 32)) := ((Below.refl w.heap.size w).alloc (Nat.le_refl _) _).alloc (by simp) _
   exact ⟨s, ao, n, c, bo, m, d, xs, ys, rfl, HD.out.symm, H.out.below b2, K.out.below b2, Nat.le_refl _, by omega, fun g _ h => h, fun g _ h => h, b2⟩
end Go.Proofs.YtemdkkphmldgjaaGreatDoor.Q
namespace Go.Proofs.YtemdkkphmldgjaaGreatDoor.Q
open Go.RowKit NatMath
def DigTo (s : ByteArray) (n : Nat) : Prop := ∀ i (h : i < s.size), i < n -> 48 <= (s[i]'h).toNat /\ (s[i]'h).toNat <= 57
def Numeral (s : ByteArray) : Prop := DigTo s s.size /\ ∃ h : 0 < s.size, s.size = 1 \/ (s[0]'h).toNat ≠ 48
noncomputable def numB (s : ByteArray) : Bool := @decide (Numeral s) (Classical.propDecidable _)
def digAt (s : ByteArray) (i : Nat) : Nat := if h : i < s.size then (s[i]'h).toNat - 48 else 0
def numG (s : ByteArray) (i : Nat) : Nat -> Nat
  | 0 => 0
  | k + 1 => numG s i k * 10 + digAt s (i + k)
end Go.Proofs.YtemdkkphmldgjaaGreatDoor.Q
/-
  nat.Parse.
-/
namespace Go.Proofs.YtemdkkphmldgjaaGreatDoor.Q
open Go.RowKit NatMath
end Go.Proofs.YtemdkkphmldgjaaGreatDoor.Q
