/-
  nat.Sub.
-/
import Derived.Test.YtmojcnlddfijjaaGreatDoorNatNorm
import Derived.Deep.RegionHeld3
import Derived.Deep.RegionLaw
namespace Go.Proofs.YtmojcnlddfijjaaGreatDoor
open Go.RowKit NatMath

set_option maxHeartbeats 800000 in
theorem sub_lt_c (ao bo : Option Addr) (n c m d : Nat) (xs ys : List Int) (w : World) (h : Lst .u32 w ao n c xs) (k : Lst .u32 w bo m d ys) (hlt : val xs < val ys) :
    Calls Tryz.prog 61 #[.slice ao n c, .slice bo m d] w fun e w' => e = .returned (.tuple #[.slice none 0 0, .bool false]) ∧ ∃ q, w.drewN q = w' := by
  have hc : cmpI (val xs) (val ys) = -1 := by unfold cmpI; rw [if_pos (by omega)]
  have HC := Lib.hid hc; clear hc
  go_enter Tryz.func61, Tryz.ntmps61
  go_wp2_with fail
  refine (cmp_c _ _ _ _ _ _ xs ys _ h k).mono ?_
  rintro e w' ⟨rfl, q, rfl⟩
  rw [HC.out]
  go_wp2_with fail
  go_ret2
  exact ⟨rfl, q, rfl⟩

set_option maxHeartbeats 1600000 in
theorem sub_ge_c (ao bo : Option Addr) (n c m d : Nat) (xs ys : List Int) (w : World) (h : Lst .u32 w ao n c xs) (k : Lst .u32 w bo m d ys) (hn : n ≤ 1073741824) (hge : val ys ≤ val xs) :
    Calls Tryz.prog 61 #[.slice ao n c, .slice bo m d] w fun e w' => ∃ ao' n' c', n' ≤ n ∧ e = .returned (.tuple #[.slice ao' n' c', .bool true]) ∧ Own 66 .u32 w.heap.size w' ao' n' c' (limbs (val xs - val ys)) ∧ Below w.heap.size w w' := by
  have hc : 0 ≤ cmpI (val xs) (val ys) := by unfold cmpI; rw [if_neg (by omega)]; split <;> omega
  obtain ⟨g, hg⟩ : ∃ g, Hid (g = cmpI (val xs) (val ys)) := ⟨_, rfl⟩
  rw [← hg.out] at hc
  go_enter Tryz.func61, Tryz.ntmps61
  go_wp2_with fail
  refine (cmp_c _ _ _ _ _ _ xs ys _ h k).mono ?_
  rintro e w' ⟨rfl, q, rfl⟩
  rw [← hg.out]
  go_wp2_with fail
  refine (norm_c _ _ _ xs _ (h.drewN q) hn).mono ?_
  rintro e w1 ⟨a1, n1, c1, hn1, rfl, o1, hb1⟩
  go_wp2_with fail
  refine (trim_c _ _ _ ys _ ((k.drewN q).below hb1)).mono ?_
  rintro e w' ⟨rfl, b1, m1, d1, rfl, k1, kh⟩
  have hmle : m1 ≤ m := by
    have := limbs_val_length k.ok
    rw [k1.len, k.len] at this
    exact this
  have klow : ∀ i, i < m1 → (pt b1 i).block < w.heap.size := (k.head kh hmle).block
  clear kh
  have hwb : Below w.heap.size w w1 := by have := hb1; simp only [World.heap_drewN] at this; exact (below_drewN (Below.refl _ _) q).trans this
  have o1' : Own 66 .u32 w.heap.size w1 a1 n1 c1 (limbs (val xs)) := o1
  obtain ⟨L, HL⟩ : ∃ L, Hid (L = limbs (val xs)) := ⟨_, rfl⟩
  obtain ⟨M, HM⟩ : ∃ M, Hid (M = limbs (val ys)) := ⟨_, rfl⟩
  rw [← HL.out] at o1'
  rw [← HM.out] at k1
  clear o1 hb1
  have hlenL := Lib.hid o1'.len
  have hlenM := Lib.hid k1.len
  have hmn : m1 ≤ n1 := by
    rw [← hlenM.out, ← hlenL.out, HM.out, HL.out]
    rcases Nat.lt_or_ge (limbs (val xs)).length (limbs (val ys)).length with hlt | hle
    · have := limbs_lt_of_length hlt
      omega
    · exact hle
  have hle : val M ≤ val L := by rw [HM.out, HL.out, val_limbs, val_limbs]; exact hge
  have hfin : val L - val M = val xs - val ys := by rw [HM.out, HL.out, val_limbs, val_limbs]
  have HLE := Lib.hid hle
  have HFIN := Lib.hid hfin
  clear hle hfin
  have hcapm := k1.cap
  have hroomm := k1.room
  have hcapn := o1'.lst.cap
  have hroomn := o1'.lst.room
  have hst := SubInv.start M o1'.lst.ok
  have hMok := Lib.hid k1.ok
  go_wp2_with fail
  go_loopw [7, 20] (fun s7 i wr => ∃ (j : Nat) (r : Int) (D : List Int), j ≤ m1 ∧ i = .int .i64 j ∧ s7 = .int .u32 r ∧ SubInv L M D r j ∧ Own 66 .u32 w.heap.size wr a1 n1 c1 D ∧ Lst .u32 wr b1 m1 d1 M ∧ Below w.heap.size w wr)
    (fun _ i _ => m1 - (intOf i).toNat)
  case atStart => exact ⟨0, 0, L, Nat.zero_le _, rfl, rfl, hst, o1', k1, hwb⟩
  case round =>
    obtain ⟨j, r, D, hj, rfl, rfl, hinv, ho, hk, hb⟩ := hrel
    have hr0 := hinv.r0
    have hr1 := hinv.r1
    by_cases hlt : j < m1
    · have hia := ix ho.lst j (by omega)
      have hib := ix hk j hlt
      obtain ⟨x, HX, hx0, hx1, hcx⟩ := ho.lst.at j (by omega)
      obtain ⟨y, HY, hy0, hy1, hcy⟩ := hk.at j hlt
      have hfz := ho.frozen (i := j) (by omega)
      go_wp2_with fail
      go_region_law ((go_simp; go_at_call 82; refine (sub32_c _ _ _ _ (by omega) (by omega) (by omega) (by omega) (by omega) (by omega)).mono ?_; rintro e w' ⟨rfl, rfl⟩))
      all_goals
        have hwf : (Lit.int .u32 ((x - y - r) % 4294967296)).wf = true := wf_u32 (by omega) (by omega)
        have hbase := ho.base (i := j) (by omega)
        have R1 := Lib.hid (hinv.step hMok.out (by rw [hlenL.out]; omega) HX.out HY.out (b := brw x y r) rfl)
        have R2 := Lib.hid (ho.set (i := j) (by omega) hwf)
        have R3 := Lib.hid (hk.stored klow hbase (.int .u32 ((x - y - r) % 4294967296)))
        have R4 := Lib.hid (hb.setCell hbase (.int .u32 ((x - y - r) % 4294967296)))
        clear hia hib hcx hcy hfz hbase hwf
        go_wp2_with fail
        go_roundw
        case rel => exact ⟨j + 1, brw x y r, _, by omega, by go_num, rfl, R1.out, R2.out, R3.out.drewN 1, R4.out.drew⟩
        case measure => simp [intOf]; omega
    · obtain rfl : j = m1 := by omega
      go_wp2_with fail
      go_loopw [7, 9] (fun s7 i wr => ∃ (j' : Nat) (r : Int) (D : List Int), j ≤ j' ∧ j' ≤ n1 ∧ i = .int .i64 j' ∧ s7 = .int .u32 r ∧ SubInv L M D r j' ∧ Own 66 .u32 w.heap.size wr a1 n1 c1 D ∧ Below w.heap.size w wr)
        (fun _ i _ => n1 - (intOf i).toNat)
      case atStart => exact ⟨j, r, D, Nat.le_refl _, hmn, rfl, rfl, hinv, ho, hb⟩
      case round =>
        obtain ⟨j', r', D', hjl, hjn, rfl, rfl, hinv', ho', hb'⟩ := hrel
        have hr0' := hinv'.r0
        have hr1' := hinv'.r1
        by_cases hz : r' = 0
        · subst hz
          have hv := hinv'.done (by rw [hlenM.out]; exact hjl)
          have HV := Lib.hid hv; clear hv
          go_wp2_with fail
          refine (trim_c _ _ _ D' _ ho'.lst).mono ?_
          rintro e w' ⟨rfl, a2, n2, c2, rfl, k2, kh2⟩
          go_wp2_with fail
          go_ret2
          have hlen2 := k2.len
          have hle2 := limbs_val_length ho'.lst.ok
          rw [hlen2, ho'.len] at hle2
          refine ⟨a2, n2, c2, by omega, rfl, ?_, hb'⟩
          rw [← HFIN.out, ← HV.out, limbs_take ho'.lst.ok, hlen2]
          exact ho'.head kh2 hle2
        · have hlt' : j' < n1 := by
            have := hinv'.more (by rw [hlenM.out]; exact hjl) HLE.out (by rw [hlenL.out]; exact hjn) hz
            rwa [hlenL.out] at this
          have hzb : (r' == 0) = false := by simpa using hz
          have hia := ix ho'.lst j' hlt'
          obtain ⟨x, HX, hx0, hx1, hcx⟩ := ho'.lst.at j' hlt'
          have hfz := ho'.frozen hlt'
          have HY : Hid ((0 : Int) = M.getD j' 0) := by
            show (0 : Int) = M.getD j' 0
            rw [List.getD, List.getElem?_eq_none (by rw [hlenM.out]; exact hjl)]; rfl
          have hwf : (Lit.int .u32 ((x - r') % 4294967296)).wf = true := wf_u32 (by omega) (by omega)
          have hbase := ho'.base hlt'
          have r1 := hinv'.step hMok.out (by rw [hlenL.out]; exact hlt') HX.out HY.out (b := brw x 0 r') rfl
          rw [Int.sub_zero] at r1
          have R1 := Lib.hid r1; clear r1
          have R2 := Lib.hid (ho'.set hlt' hwf)
          have R4 := Lib.hid (hb'.setCell hbase (.int .u32 ((x - r') % 4294967296)))
          clear hwf hbase
          go_wp2_with (go_at_call 82; refine (sub32_c _ _ _ _ (by omega) (by omega) (by omega) (by omega) (by omega) (by omega)).mono ?_; rintro e w' ⟨rfl, rfl⟩)
          go_roundw
          case rel => exact ⟨j' + 1, brw x 0 r', _, by omega, by omega, by go_num, rfl, R1.out, R2.out, R4.out⟩
          case measure => simp [intOf]; omega
end Go.Proofs.YtmojcnlddfijjaaGreatDoor
