/-
  Texts of the proof, put together: NatMul NatBitsBase NatRef NatTo NatRefCmp NatRefAdd NatHelp NatBitLen.
-/
import Derived.Laws.AppendOwnNone
import Derived.Test.YtemdkkphmldgjaaGreatDoorPkA7
import Derived.Test.YtemdkkphmldgjaaGreatDoorPkA8
import Derived.Test.YtemdkkphmldgjaaGreatDoorPkA9
import Derived.Test.YtemdkkphmldgjaaGreatDoorPkA10
import Derived.Test.YtemdkkphmldgjaaGreatDoorPkA11
set_option maxRecDepth 100000
set_option maxHeartbeats 6400000
namespace Go.Proofs.YtemdkkphmldgjaaGreatDoor.Q
open Go.RowKit NatMath
theorem mul_c (ao bo : Option Addr) (n c m d : Nat) (xs ys : List Int) (w : World) (h : Lst .u32 w ao n c xs) (k : Lst .u32 w bo m d ys) (hn : n <= 1073741824) (hm : m <= 1073741824) :
    Calls Tryz.prog 160 #[.slice ao n c, .slice bo m d] w fun e w' => ∃ ao' n' c', e = .returned (.slice ao' n' c') /\ n' <= n + m /\ Own 144 .u32 w.heap.size w' ao' n' c' (limbs (val xs * val ys)) /\ Below w.heap.size w w' := by
 obtain ⟨i0, hi, hz0, hz1, hz2⟩ := info_parts info60
 have hxl := limbs_val_length h.ok
 have hyl := limbs_val_length k.ok
 rw [h.len] at hxl
 rw [k.len] at hyl
 go_enter Tryz.func160, Tryz.ntmps160
 go_wp2_with fail
 refine (trim_c _ _ _ xs _ h).mono ?_
 rintro e w' ⟨rfl, a1, n1, c1, rfl, h1, -⟩
 go_wp2_with fail
 refine (trim_c _ _ _ ys _ k).mono ?_
 rintro e w' ⟨rfl, b1, m1, d1, rfl, k1, -⟩
 rw [h1.len] at hxl
 rw [k1.len] at hyl
 have hn1 : n1 <= 1073741824 := by omega
 have hm1 : m1 <= 1073741824 := by omega
 obtain ⟨L, HL⟩ : ∃ L, Hid (L = limbs (val xs)) := ⟨_, rfl⟩
 obtain ⟨M, HM⟩ : ∃ M, Hid (M = limbs (val ys)) := ⟨_, rfl⟩
 rw [<- HL.out] at h1
 rw [<- HM.out] at k1
 have hlenL := Lib.hid h1.len
 have hlenM := Lib.hid k1.len
 have hLok := Lib.hid h1.ok
 have hMok := Lib.hid k1.ok
 have hlowa := Lib.hid h1.block
 have hlowb := Lib.hid k1.block
 have hfin : val L * val M = val xs * val ys := by rw [HL.out, HM.out, val_limbs, val_limbs]
 have HFIN := Lib.hid hfin
 have har := h1.room
 have hac := h1.cap
 have hbr := k1.room
 have hbc := k1.cap
 clear hfin h k
 go_wp2_with (at_make; refine wpList_make_full _ rfl _ _ 30 rfl w.heap.size 144 i0 (.int .u32 0) 1 Tryz.underlying30 hi hz0 hz1 _ _ _ _ (n1 + m1) rfl rfl (by omega) (by omega) ?b2 ?b3 (Nat.le_refl _) ?_)
 case b2 => rw [hz2]; omega
 case b3 => unfold maxLen; omega
 intro w1 hown hgr
 have b1' : Below w.heap.size w w1 := below_grown_none (Below.refl _ _) hgr (Nat.le_refl _)
 have o1 : Own 144 .u32 w.heap.size w1 (some ⟨w.heap.size, 0, none⟩) (n1 + m1) (n1 + m1) (List.replicate (L.length + M.length) 0) := by
  rw [hlenL.out, hlenM.out]
  exact Own.made (wf_u32 (by omega) (by omega)) hown
 have hst := OutInv.start L M
 have ha1 := h1.below b1'
 have hb1 := k1.below b1'
 clear hown hgr h1 k1
 go_wp2_with fail
 go_loopw [24] (fun i wr => ∃ (t : Nat) (D : List Int), t <= n1 /\ i = .int .i64 t /\ OutInv L M D t /\ Own 144 .u32 w.heap.size wr (some ⟨w.heap.size, 0, none⟩) (n1 + m1) (n1 + m1) D /\ Lst .u32 wr a1 n1 c1 L /\ Lst .u32 wr b1 m1 d1 M /\ Below w.heap.size w wr)
   (fun i _ => n1 - (intOf i).toNat)
 case atStart => exact ⟨0, _, Nat.zero_le _, rfl, hst, o1, ha1, hb1, b1'⟩
 case round =>
  obtain ⟨t, D, ht, rfl, hout, ho, ha, hk, hb⟩ := hrel
  clear hst o1 ha1 hb1 b1'
  by_cases hlt : t < n1
  . have hia := ix ha t hlt
    obtain ⟨x, HX, hx0, hx1, hcx⟩ := ha.at t hlt
    obtain ⟨X, rfl⟩ := Int.eq_ofNat_of_zero_le hx0
    have hin := InInv.start hout X
    have HK := Lib.hid hk; have HA := Lib.hid ha
    obtain ⟨wo, rfl⟩ : ∃ wo : World, wo = wr := ⟨_, rfl⟩
    go_wp2_with fail
    go_loopw [8, 31] (fun s8 i wr => ∃ (j cy : Nat) (D' : List Int), j <= m1 /\ i = .int .i64 j /\ s8 = .int .u64 cy /\ InInv L M D' X t cy j /\ Own 144 .u32 w.heap.size wr (some ⟨w.heap.size, 0, none⟩) (n1 + m1) (n1 + m1) D' /\ Lst .u32 wr a1 n1 c1 L /\ Lst .u32 wr b1 m1 d1 M /\ Below w.heap.size w wr)
      (fun _ i _ => m1 - (intOf i).toNat)
    case atStart => exact ⟨0, 0, D, Nat.zero_le _, rfl, rfl, hin, ho, HA.out, HK.out, hb⟩
    case round =>
     obtain ⟨j, cy, D', hj, rfl, rfl, hinv, ho', ha', hk', hb'⟩ := hrel
     have hcy := hinv.cy1
     clear hia hcx hin HK HA ho hb hout
     by_cases hjl : j < m1
     . have hib := ix hk' j hjl
       obtain ⟨y, HY, hy0, hy1, hcy2⟩ := hk'.at j hjl
       obtain ⟨Y, rfl⟩ := Int.eq_ofNat_of_zero_le hy0
       have hip := ix ho'.lst (t + j) (by omega)
       rw [show ((t + j : Nat) : Int) = (t : Int) + (j : Int) from by omega] at hip
       obtain ⟨p, HPP, hp0, hp1, hcp⟩ := ho'.lst.at (t + j) (by omega)
       obtain ⟨p, rfl⟩ := Int.eq_ofNat_of_zero_le hp0
       have hfz := ho'.frozen (i := t + j) (by omega)
       have hmb := mul3_bound (show X <= 4294967295 by omega) (show Y <= 4294967295 by omega) (show p <= 4294967295 by omega) hcy
       have hq0 : (0 : Int) <= (X : Int) * (Y : Int) := by rw [<- Int.natCast_mul]; omega
       have hq1 : (X : Int) * (Y : Int) <= 18446744065119617025 := by rw [<- Int.natCast_mul]; omega
       have eM : (((X * Y + p + cy) % 4294967296 : Nat) : Int) = ((X : Int) * (Y : Int) + (p : Int) + (cy : Int)) % 4294967296 := by simp
       have eD : (((X * Y + p + cy) / 4294967296 : Nat) : Int) = ((X : Int) * (Y : Int) + (p : Int) + (cy : Int)) / 4294967296 := by simp
       have hs := hinv.step (by rw [hlenL.out]; exact hlt) (by rw [hlenM.out]; exact hjl) (show X <= 4294967295 by omega) hMok.out HPP.out HY.out
       have hwf : (Lit.int .u32 (((X * Y + p + cy) % 4294967296 : Nat) : Int)).wf = true := wf_u32 (by omega) (by omega)
       have hbase := ho'.base (i := t + j) (by omega)
       have r2 := ho'.set (i := t + j) (by omega) hwf
       have r3 := ha'.stored hlowa.out hbase (.int .u32 (((X * Y + p + cy) % 4294967296 : Nat) : Int))
       have r5 := hk'.stored hlowb.out hbase (.int .u32 (((X * Y + p + cy) % 4294967296 : Nat) : Int))
       have r4 := hb'.setCell hbase (.int .u32 (((X * Y + p + cy) % 4294967296 : Nat) : Int))
       rw [eM] at hs r2 r3 r4 r5
       rw [pt_own] at hip hcp hfz r2 r3 r4 r5
       have R1 := Lib.hid hs; have R2 := Lib.hid r2; have R3 := Lib.hid r3; have R4 := Lib.hid r4; have R5 := Lib.hid r5; have ED := Lib.hid eD
       clear hmb eM eD hs hwf hbase r2 r3 r4 r5 hinv ho' ha' hk' hb'
       go_wp2_with fail
       go_roundw
       case rel => exact ⟨j + 1, (X * Y + p + cy) / 4294967296, _, by omega, by go_num, by rw [ED.out], R1.out, R2.out, R3.out, R5.out, R4.out⟩
       case measure => simp [intOf]; omega
     . obtain rfl : j = m1 := by omega
       rw [<- hlenM.out] at hinv
       have hs := hinv.done (by rw [hlenL.out]; exact hlt) HX.out
       rw [hlenM.out] at hs
       have hip := ix ho'.lst (t + j) (by omega)
       rw [show ((t + j : Nat) : Int) = (t : Int) + (j : Int) from by omega] at hip
       obtain ⟨p, HPP, hp0, hp1, hcp⟩ := ho'.lst.at (t + j) (by omega)
       have hfz := ho'.frozen (i := t + j) (by omega)
       have hwf : (Lit.int .u32 (cy : Int)).wf = true := wf_u32 (by omega) (by omega)
       have hbase := ho'.base (i := t + j) (by omega)
       have r2 := ho'.set (i := t + j) (by omega) hwf
       have r3 := ha'.stored hlowa.out hbase (.int .u32 (cy : Int))
       have r5 := hk'.stored hlowb.out hbase (.int .u32 (cy : Int))
       have r4 := hb'.setCell hbase (.int .u32 (cy : Int))
       rw [pt_own] at hip hcp hfz r2 r3 r4 r5
       have R1 := Lib.hid hs; have R2 := Lib.hid r2; have R3 := Lib.hid r3; have R4 := Lib.hid r4; have R5 := Lib.hid r5
       clear hs hwf hbase r2 r3 r4 r5 hinv ho' ha' hk' hb' HPP
       go_wp2_with fail
       go_roundw
       case rel => exact ⟨t + 1, _, by omega, by go_num, R1.out, R2.out, R3.out, R5.out, R4.out⟩
       case measure => simp [intOf]; omega
  . obtain rfl : t = n1 := by omega
    rw [<- hlenL.out] at hout
    have hv := hout.done
    rw [HFIN.out] at hv
    have HV := Lib.hid hv
    clear hv hout ha hk
    go_wp2_with fail
    refine (trim_c _ _ _ D _ ho.lst).mono ?_
    rintro e w' ⟨rfl, a2, n2, c2, rfl, k2, kh2⟩
    go_wp2_with fail
    go_ret
    have hlen2 := k2.len
    have hle2 := limbs_val_length ho.lst.ok
    rw [hlen2, ho.len] at hle2
    refine ⟨a2, n2, c2, rfl, by omega, ?_, hb⟩
    rw [<- HV.out, limbs_take ho.lst.ok, hlen2]
    exact ho.head kh2 hle2
end Go.Proofs.YtemdkkphmldgjaaGreatDoor.Q
namespace Go.Proofs.YtemdkkphmldgjaaGreatDoor.Q
open Go.RowKit NatMath
theorem ownsRow_low {w : World} {B B' : Nat} {e : TypeId} {size n : Nat} {v : Value} {us : List Value} (h : w.ownsRow B e size v n us) (hB : B' <= B) : w.ownsRow B' e size v n us := by
 refine ⟨h.1, ?_⟩
 rcases h.2 with h1 | ⟨g, cap, cur, hv, hg, rest⟩
 . exact Or.inl h1
 . exact Or.inr ⟨g, cap, cur, hv, Nat.le_trans hB hg, rest⟩
end Go.Proofs.YtemdkkphmldgjaaGreatDoor.Q
namespace Go.Proofs.YtemdkkphmldgjaaGreatDoor.Q
open Go.RowKit NatMath
theorem bits_top {v : Nat} (h : v ≠ 0) : (bitsN v).length = 32 * ((limbs v).length - 1) + Lib.bitLen ((limbs v).getD ((limbs v).length - 1) 0).toNat /\ Lib.bitLen ((limbs v).getD ((limbs v).length - 1) 0).toNat <= 32 := by
 have hok := limbs_ok v
 obtain ⟨n, hn⟩ : ∃ n, (limbs v).length = n + 1 := by
  refine ⟨(limbs v).length - 1, ?_⟩
  rw [limbs_pos h]
  simp
 rw [hn, Nat.add_sub_cancel]
 obtain ⟨t, ht⟩ : ∃ t, t = ((limbs v).getD n 0).toNat := ⟨_, rfl⟩
 rw [<- ht]
 have hv := val_take_succ (limbs v) n
 rw [List.take_of_length_le (by omega), val_limbs, <- ht] at hv
 have hlow := val_lt (hok.take n)
 rw [List.length_take, hn, Nat.min_eq_left (by omega)] at hlow
 obtain ⟨low, hl⟩ : ∃ low, low = val ((limbs v).take n) := ⟨_, rfl⟩
 rw [<- hl] at hv hlow
 have hPe : 4294967296 ^ n = 2 ^ (32 * n) := by rw [Nat.pow_mul, show (2 ^ 32 : Nat) = 4294967296 by decide]
 obtain ⟨P, hP⟩ : ∃ P, P = 4294967296 ^ n := ⟨_, rfl⟩
 rw [<- hP] at hv hlow
 have ht0 : t ≠ 0 := by
  intro h0
  subst h0
  have := limbs_length v n (by rw [<- hP]; omega)
  omega
 have ht1 : t < 4294967296 := by
  have hg : (limbs v).getD n 0 <= 4294967295 := by
   have : (limbs v).getD n 0 ∈ limbs v := by
    rw [List.getD, List.getElem?_eq_getElem (by omega)]
    exact List.getElem_mem _
   exact (hok _ this).2
  omega
 obtain ⟨h1, h2, h3⟩ := Lib.bitLenAux_bounds 64 t (by omega) ht0
 obtain ⟨k, hk⟩ : ∃ k, Lib.bitLenAux 64 t = k + 1 := ⟨Lib.bitLenAux 64 t - 1, by omega⟩
 show _ = 32 * n + Lib.bitLenAux 64 t /\ Lib.bitLenAux 64 t <= 32
 rw [hk] at h2 h3 |-
 rw [Nat.add_sub_cancel] at h2
 have hup : v < 2 ^ (32 * n + (k + 1)) := by
  rw [Nat.pow_add, <- hPe, <- hP, Nat.mul_comm]
  have : (t + 1) * P <= 2 ^ (k + 1) * P := Nat.mul_le_mul_right P h3
  rw [Nat.add_mul] at this
  omega
 have hdn : 2 ^ (32 * n + k) <= v := by
  rw [Nat.pow_add, <- hPe, <- hP, Nat.mul_comm]
  have : 2 ^ k * P <= t * P := Nat.mul_le_mul_right P h2
  omega
 have e1 := bitsN_length v _ hup
 have e2 := bitsN_len_ge hdn
 have e3 : k < 32 := by
  rcases Nat.lt_or_ge k 32 with h | h
  . exact h
  . have : 2 ^ 32 <= 2 ^ k := Nat.pow_le_pow_right (by omega) h
    omega
 omega
theorem bits_c (ao : Option Addr) (n c : Nat) (xs : List Int) (w : World) (h : Lst .u32 w ao n c xs) (hn : n <= 1073741824) :
    Calls Tryz.prog 163 #[.slice ao n c] w fun e w' => e = .returned (.int .i64 (bitsN (val xs)).length) /\ w = w' := by
 obtain ⟨v, hv⟩ : ∃ v, Hid (v = val xs) := ⟨_, rfl⟩
 have hle := limbs_val_length h.ok
 rw [h.len] at hle
 have ht := trim_c ao n c xs w h
 rw [<- hv.out] at ht hle |-
 have HTR := Lib.hid ht
 clear ht h
 by_cases h0 : v = 0
 . subst h0
   rw [bitsN_zero]
   go_enter Tryz.func163, Tryz.ntmps163
   go_wp2_with fail
   refine HTR.out.mono ?_
   rintro e w' ⟨rfl, a1, n1, c1, rfl, h1, -⟩
   have hz : n1 = 0 := by rw [<- h1.len, limbs_zero]; rfl
   subst hz
   go_wp2_with fail
   go_ret
   exact ⟨rfl, rfl⟩
 . have hb := Lib.hid (bits_top h0)
   go_enter Tryz.func163, Tryz.ntmps163
   go_wp2_with fail
   refine HTR.out.mono ?_
   rintro e w' ⟨rfl, a1, n1, c1, rfl, h1, -⟩
   have hl := h1.len
   rw [hl] at hle
   have hpos : 0 < n1 := by
    rw [<- hl, limbs_pos h0]
    simp
   have hbt := hb.out
   rw [hl] at hbt
   have HB := Lib.hid hbt.1
   have hb32 := hbt.2
   have hr := h1.room
   have hc := h1.cap
   have hia := ix h1 (n1 - 1) (by omega)
   rw [show ((n1 - 1 : Nat) : Int) = (n1 : Int) - 1 by omega] at hia
   obtain ⟨x, HX, hx0, hx1, hcx⟩ := h1.at (n1 - 1) (by omega)
   rw [<- HX.out] at HB hb32
   have hnz : ((n1 : Int) == 0) = false := by simp; omega
   have HL := Lib.hid (Tryz.bits_Len32 x w hx0 hx1)
   obtain ⟨B, hB⟩ : ∃ B, Lib.bitLen x.toNat = B := ⟨_, rfl⟩
   rw [hB] at HL HB hb32
   clear hb hbt hl h1 HTR hB
   go_wp2_with fail
   refine HL.out.mono ?_
   rintro e w' ⟨rfl, rfl⟩
   go_wp2_with fail
   go_ret
   refine ⟨?_, rfl⟩
   rw [show (((bitsN v).length : Nat) : Int) = 32 * ((n1 : Int) - 1) + (B : Int) by rw [HB.out]; omega]
   rfl
end Go.Proofs.YtemdkkphmldgjaaGreatDoor.Q
