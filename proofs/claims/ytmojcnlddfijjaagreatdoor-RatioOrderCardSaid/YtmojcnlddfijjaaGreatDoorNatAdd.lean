/-
  nat.Add.
-/
import Derived.Test.YtmojcnlddfijjaaGreatDoorNatNorm
import Derived.Test.YtmojcnlddfijjaaGreatDoorNatMath
import Derived.Laws.CopyOwn
import Derived.Deep.RegionLaw
namespace Go.Proofs.YtmojcnlddfijjaaGreatDoor
open Go.RowKit NatMath

theorem Own.full {e : TypeId} {k : IntKind} {B : Nat} {w : World} {g n : Nat} {xs : List Int} (h : Own e k B w (some ⟨g, 0, none⟩) n n xs) : w.heap[g]? = some (.cells (xs.map (Value.int k)).toArray e (0, 0)) := by
  have hl := h.len
  rcases h.1.2 with ⟨hv, _⟩ | ⟨g', cap, cur, hv, hg, hh, hn, hc, hsz, ht⟩
  · simp at hv
  · simp only [Value.slice.injEq, Option.some.injEq, Addr.mk.injEq, and_true, true_and] at hv
    obtain ⟨rfl, rfl⟩ := hv
    rw [hh, ← ht, List.take_of_length_le (by simp; omega)]
theorem Own.ofFull {e : TypeId} {k : IntKind} {B : Nat} {w : World} {g n : Nat} {xs : List Int} (h : w.heap[g]? = some (.cells (xs.map (Value.int k)).toArray e (0, 0))) (hB : B ≤ g) (hn : xs.length = n) (hm : n ≤ maxLen) (hw : ∀ x ∈ xs, (Lit.int k x).wf = true) :
    Own e k B w (some ⟨g, 0, none⟩) n n xs :=
  ⟨⟨by simpa using hn, .inr ⟨g, n, (xs.map (Value.int k)).toArray, rfl, hB, h, Nat.le_refl _, hm, by simpa using hn, by rw [List.take_of_length_le (by simp; omega)]⟩⟩, hw⟩
/-- What 'make([]T, n)' leaves. -/
theorem Own.made {e : TypeId} {k : IntKind} {B : Nat} {w : World} {g n : Nat} (hz : (Lit.int k 0).wf = true) (h : w.ownsRow B e 1 (.slice (some ⟨g, 0, none⟩) n n) n (madeCells #[Value.int k 0] n).toList) : Own e k B w (some ⟨g, 0, none⟩) n n (List.replicate n 0) := by
  refine ⟨?_, fun x hx => ?_⟩
  · rw [toList_madeCells_one] at h
    rwa [List.map_replicate]
  · rw [List.eq_of_mem_replicate hx]; exact hz

theorem below_grown_none {B : Nat} {a w w' : World} (h : Below B a w) (hg : w.grownBy w' none) (hB : B ≤ w.heap.size) : Below B a w' := h.grown hg hB (fun k hk => by cases hk)

set_option maxHeartbeats 6400000 in
set_option maxRecDepth 100000 in
theorem add_c (ao bo : Option Addr) (n c m d : Nat) (xs ys : List Int) (w : World) (h : Lst .u32 w ao n c xs) (k : Lst .u32 w bo m d ys) (hn : n ≤ 1073741824) (hm : m ≤ 1073741824) :
    Calls Tryz.prog 60 #[.slice ao n c, .slice bo m d] w fun e w' => ∃ ao' n' c', e = .returned (.slice ao' n' c') ∧ (n' ≤ n + 1 ∨ n' ≤ m + 1) ∧ Own 66 .u32 w.heap.size w' ao' n' c' (limbs (val xs + val ys)) ∧ Below w.heap.size w w' := by
  obtain ⟨i0, hi, hz0, hz1, hz2⟩ := info_parts info60
  have hxl := limbs_val_length h.ok
  have hyl := limbs_val_length k.ok
  rw [h.len] at hxl
  rw [k.len] at hyl
  go_enter Tryz.func60, Tryz.ntmps60
  go_wp2_with fail
  refine (trim_c _ _ _ xs _ h).mono ?_
  rintro e w' ⟨rfl, a1, n1, c1, rfl, h1, -⟩
  go_wp2_with fail
  refine (trim_c _ _ _ ys _ k).mono ?_
  rintro e w' ⟨rfl, b1, m1, d1, rfl, k1, -⟩
  rw [h1.len] at hxl
  rw [k1.len] at hyl
  have hn1 : n1 ≤ 1073741824 := by omega
  have hm1 : m1 ≤ 1073741824 := by omega
  rcases Nat.lt_or_ge n1 m1 with hsw | hsw
  case' inl =>
    obtain ⟨qo, rfl⟩ : ∃ x, x = a1 := ⟨_, rfl⟩
    obtain ⟨qn, rfl⟩ : ∃ x, x = n1 := ⟨_, rfl⟩
    obtain ⟨qc, rfl⟩ : ∃ x, x = c1 := ⟨_, rfl⟩
    obtain ⟨po, rfl⟩ : ∃ x, x = b1 := ⟨_, rfl⟩
    obtain ⟨pn, rfl⟩ : ∃ x, x = m1 := ⟨_, rfl⟩
    obtain ⟨pc, rfl⟩ : ∃ x, x = d1 := ⟨_, rfl⟩
    obtain ⟨P, HP⟩ : ∃ P, Hid (P = limbs (val ys)) := ⟨_, rfl⟩
    obtain ⟨Q, HQ⟩ : ∃ Q, Hid (Q = limbs (val xs)) := ⟨_, rfl⟩
    have hP : Lst .u32 w po pn pc P := by rw [HP.out]; exact k1
    have hQ : Lst .u32 w qo qn qc Q := by rw [HQ.out]; exact h1
    have hs : Hid (val P + val Q = val xs + val ys) := by show val P + val Q = _; rw [HP.out, HQ.out, val_limbs, val_limbs, Nat.add_comm]
    have hle : qn ≤ pn := by omega
    have hfin : ∀ t, t ≤ pn + 1 → t ≤ n + 1 ∨ t ≤ m + 1 := fun t ht => by omega
    have HFIN := Lib.hid hfin
    have hp30 : pn ≤ 1073741824 := hm1
    clear h1 k1 hfin
  case' inr =>
    obtain ⟨po, rfl⟩ : ∃ x, x = a1 := ⟨_, rfl⟩
    obtain ⟨pn, rfl⟩ : ∃ x, x = n1 := ⟨_, rfl⟩
    obtain ⟨pc, rfl⟩ : ∃ x, x = c1 := ⟨_, rfl⟩
    obtain ⟨qo, rfl⟩ : ∃ x, x = b1 := ⟨_, rfl⟩
    obtain ⟨qn, rfl⟩ : ∃ x, x = m1 := ⟨_, rfl⟩
    obtain ⟨qc, rfl⟩ : ∃ x, x = d1 := ⟨_, rfl⟩
    obtain ⟨P, HP⟩ : ∃ P, Hid (P = limbs (val xs)) := ⟨_, rfl⟩
    obtain ⟨Q, HQ⟩ : ∃ Q, Hid (Q = limbs (val ys)) := ⟨_, rfl⟩
    have hP : Lst .u32 w po pn pc P := by rw [HP.out]; exact h1
    have hQ : Lst .u32 w qo qn qc Q := by rw [HQ.out]; exact k1
    have hs : Hid (val P + val Q = val xs + val ys) := by show val P + val Q = _; rw [HP.out, HQ.out, val_limbs, val_limbs]
    have hle : qn ≤ pn := by omega
    have hfin : ∀ t, t ≤ pn + 1 → t ≤ n + 1 ∨ t ≤ m + 1 := fun t ht => by omega
    have HFIN := Lib.hid hfin
    have hp30 : pn ≤ 1073741824 := hn1
    clear h1 k1 hfin
  all_goals
    go_wp2_with (at_make; refine wpList_make_full _ rfl _ _ 23 rfl w.heap.size 66 i0 (.int .u32 0) 1 Tryz.underlying23 hi hz0 hz1 _ _ _ _ (pn + 1) rfl rfl (by omega) (by omega) ?b2 ?b3 (Nat.le_refl _) ?_)
    case b2 => rw [hz2]; omega
    case b3 => unfold maxLen; omega
    intro w1 hown hgr
    have o1 : Own 66 .u32 w.heap.size w1 (some ⟨w.heap.size, 0, none⟩) (pn + 1) (pn + 1) (List.replicate (pn + 1) 0) := Own.made (wf_u32 (by omega) (by omega)) hown
    have b1 : Below w.heap.size w w1 := below_grown_none (Below.refl _ _) hgr (Nat.le_refl _)
    have hP1 := hP.below b1
    have hQ1 := hQ.below b1
    have hlow : ∀ i, i < qn → (pt qo i).block < w.heap.size := hQ.block
    have hblk := Lib.hid o1.full
    have hcs : Hid ((P.map (Value.int .u32)).length = Nat.min pn (pn + 1)) := by
      show (P.map (Value.int .u32)).length = Nat.min pn (pn + 1)
      rw [List.length_map, hP.len]; exact (Nat.min_eq_left (by omega)).symm
    have hpos : Hid (0 < (P.map (Value.int .u32)).length → some (⟨w.heap.size, 0, none⟩ : Addr) = some ⟨w.heap.size, 0, none⟩ ∧ ∃ ad, po = some ad ∧ ∀ j v, (P.map (Value.int .u32))[j]? = some v → w1.cell? (ad.add j) = some v) := by
      intro h0
      rw [List.length_map, hP.len] at h0
      obtain ⟨ad, rfl⟩ := hP.isSome h0
      exact ⟨rfl, ad, rfl, hP1.cells⟩
    have hfit : Hid (0 + (P.map (Value.int .u32)).length ≤ ((List.replicate (pn + 1) (0 : Int)).map (Value.int .u32)).length) := by
      show 0 + (P.map (Value.int .u32)).length ≤ _
      rw [List.length_map, hP.len]; simp
    have HPL := Lib.hid hP.len
    have HQ0 := Lib.hid hQ
    have HQL := Lib.hid hQ.len
    have hPok := Lib.hid hP.ok
    have hQok := Lib.hid hQ.ok
    have hPwf := Lib.hid hP.wf
    have hPr := hP.room
    have hQr := hQ.room
    have hQc := hQ.cap
    clear hown hgr o1 hP1 hP hQ
    go_wp2_with ((with_reducible refine wpList_copy_splice rfl (.tmp 24) (.tmp 25) 23 23 rfl 66 Tryz.underlying23 size60 _ _ _ _ _ _ rfl rfl w.heap.size 0 ((List.replicate (pn + 1) (0 : Int)).map (Value.int .u32)) 66 hblk.out (P.map (Value.int .u32)) hcs.out hpos.out hfit.out (ints_oneCell _ _) w.heap.size w b1 (Nat.le_refl _) ?_))
    intro w2 hblk2 b2
    have e2 : splice (List.replicate (pn + 1) (Value.int .u32 0)) 0 (P.map (Value.int .u32)) = (P ++ [0]).map (Value.int .u32) := by
      unfold splice
      have hPl := HPL.out
      rw [List.take_zero, List.nil_append, List.length_map, hPl, List.drop_replicate, List.map_append]
      congr 1
      rw [show pn + 1 - (0 + pn) = 1 by omega]; rfl
    have o2 : Own 66 .u32 w.heap.size w2 (some ⟨w.heap.size, 0, none⟩) (pn + 1) (pn + 1) (P ++ [0]) := by
      have hb := hblk2.out
      rw [e2] at hb
      refine Own.ofFull hb (Nat.le_refl _) (by simp [HPL.out]) (by unfold maxLen; omega) (fun x hx => ?_)
      rcases List.mem_append.1 hx with hx | hx
      · exact hPwf.out x hx
      · simp at hx; subst hx; exact wf_u32 (by omega) (by omega)
    have hQ2 := HQ0.out.below b2
    have hst := AddInv.start Q hPok.out
    clear hblk hcs hpos hfit hblk2 e2 b1
    go_wp2_with fail
    go_loopw [6, 29] (fun s6 i wr => ∃ (j : Nat) (r : Int) (D : List Int), j ≤ qn ∧ i = .int .i64 j ∧ s6 = .int .u32 r ∧ AddInv P Q D r j ∧ Own 66 .u32 w.heap.size wr (some ⟨w.heap.size, 0, none⟩) (pn + 1) (pn + 1) D ∧ Lst .u32 wr qo qn qc Q ∧ Below w.heap.size w wr)
      (fun _ i _ => qn - (intOf i).toNat)
    case atStart => exact ⟨0, 0, P ++ [0], Nat.zero_le _, rfl, rfl, hst, o2, hQ2, b2⟩
    case round =>
      obtain ⟨j, r, D, hj, rfl, rfl, hinv, ho, hk, hb⟩ := hrel
      have hr0 := hinv.c0
      have hr1 := hinv.c1
      by_cases hlt : j < qn
      · have hia := ix ho.lst j (by omega)
        have hib := ix hk j hlt
        obtain ⟨x, HX, hx0, hx1, hcx⟩ := ho.lst.at j (by omega)
        obtain ⟨y, HY, hy0, hy1, hcy⟩ := hk.at j hlt
        have hfz := ho.frozen (i := j) (by omega)
        have hwf : (Lit.int .u32 ((x + y + r) % 4294967296)).wf = true := wf_u32 (by omega) (by omega)
        have hbase := ho.base (i := j) (by omega)
        have R1 := Lib.hid (hinv.step hQok.out (by rw [HPL.out]; omega) HX.out HY.out)
        have R2 := Lib.hid (ho.set (i := j) (by omega) hwf)
        have R3 := Lib.hid (hk.stored hlow hbase (.int .u32 ((x + y + r) % 4294967296)))
        have R4 := Lib.hid (hb.setCell hbase (.int .u32 ((x + y + r) % 4294967296)))
        rw [pt_own] at hia hcx hfz R2 R3 R4
        clear hwf hbase
        go_wp2_with fail
        go_region_law ((go_simp; go_at_call 81; refine (add32_c _ _ _ _ (by omega) (by omega) (by omega) (by omega) (by omega) (by omega)).mono ?_; rintro e w' ⟨rfl, rfl⟩))
        all_goals
          go_wp2_with fail
          go_roundw
          case rel => exact ⟨j + 1, (x + y + r) / 4294967296, _, by omega, by go_num, rfl, R1.out, R2.out, R3.out.drewN 1, R4.out.drew⟩
          case measure => simp [intOf]; omega
      · obtain rfl : j = qn := by omega
        have HKQ := Lib.hid hk
        clear hk
        go_wp2_with fail
        go_loopw [6, 8] (fun s6 i wr => ∃ (j' : Nat) (r : Int) (D : List Int), j ≤ j' ∧ j' ≤ pn + 1 ∧ i = .int .i64 j' ∧ s6 = .int .u32 r ∧ AddInv P Q D r j' ∧ Own 66 .u32 w.heap.size wr (some ⟨w.heap.size, 0, none⟩) (pn + 1) (pn + 1) D ∧ Below w.heap.size w wr)
          (fun _ i _ => pn + 1 - (intOf i).toNat)
        case atStart => exact ⟨j, r, D, Nat.le_refl _, by omega, rfl, rfl, hinv, ho, hb⟩
        case round =>
          obtain ⟨j', r', D', hjl, hjn, rfl, rfl, hinv', ho', hb'⟩ := hrel
          have hr0' := hinv'.c0
          have hr1' := hinv'.c1
          by_cases hz : r' = 0
          · subst hz
            have hv := hinv'.done (by rw [HQL.out]; exact hjl)
            have HV := Lib.hid hv; clear hv
            go_wp2_with fail
            refine (trim_c _ _ _ D' _ ho'.lst).mono ?_
            rintro e w' ⟨rfl, a2, n2, c2, rfl, k2, kh2⟩
            go_wp2_with fail
            go_ret
            have hlen2 := k2.len
            have hle2 := limbs_val_length ho'.lst.ok
            rw [hlen2, ho'.len] at hle2
            refine ⟨a2, n2, c2, rfl, HFIN.out n2 hle2, ?_, hb'⟩
            rw [← hs.out, ← HV.out, limbs_take ho'.lst.ok, hlen2]
            exact ho'.head kh2 hle2
          · have hlt' : j' < pn + 1 := by
              have := hinv'.more hPok.out hQok.out (by rw [HPL.out, HQL.out]; exact hle) (by rw [HPL.out]; exact hjn) hz
              rwa [HPL.out] at this
            have hzb : (r' == 0) = false := by simpa using hz
            have hia := ix ho'.lst j' hlt'
            obtain ⟨x, HX, hx0, hx1, hcx⟩ := ho'.lst.at j' hlt'
            have hfz := ho'.frozen hlt'
            have HY : Hid ((0 : Int) = Q.getD j' 0) := by
              show (0 : Int) = Q.getD j' 0
              rw [List.getD, List.getElem?_eq_none (by rw [HQL.out]; exact hjl)]; rfl
            have r1 := hinv'.step hQok.out (by rw [HPL.out]; exact hlt') HX.out HY.out
            rw [Int.add_zero] at r1
            have hwf : (Lit.int .u32 ((x + r') % 4294967296)).wf = true := wf_u32 (by omega) (by omega)
            have hbase := ho'.base hlt'
            have R1 := Lib.hid r1
            have R2 := Lib.hid (ho'.set hlt' hwf)
            have R4 := Lib.hid (hb'.setCell hbase (.int .u32 ((x + r') % 4294967296)))
            rw [pt_own] at hia hcx hfz R2 R4
            clear hwf hbase r1
            go_wp2_with (go_at_call 81; refine (add32_c _ _ _ _ (by omega) (by omega) (by omega) (by omega) (by omega) (by omega)).mono ?_; rintro e w' ⟨rfl, rfl⟩)
            go_roundw
            case rel => exact ⟨j' + 1, (x + r') / 4294967296, _, by omega, by omega, by go_num, rfl, R1.out, R2.out, R4.out⟩
            case measure => simp [intOf]; omega
end Go.Proofs.YtmojcnlddfijjaaGreatDoor
