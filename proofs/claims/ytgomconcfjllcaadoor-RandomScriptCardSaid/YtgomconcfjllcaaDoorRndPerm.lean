/-
  (*random.Source).Perm.
-/
import Derived.Test.YtgomconcfjllcaaDoorRndBelow
import Derived.BigRegion
namespace Go.Proofs.YtgomconcfjllcaaDoor
open Go.RowKit Dig Rnd

namespace Rnd
theorem asc_set (n j : Nat) (h : j < n) : (asc j ++ List.replicate (n - j) 0).set j (j : Int) = asc (j + 1) ++ List.replicate (n - (j + 1)) 0 := by
  have e : n - j = (n - (j + 1)) + 1 := by omega
  rw [List.set_append_right _ _ (by rw [asc_len]; exact Nat.le_refl _), asc_len, Nat.sub_self, e, List.replicate_succ, List.set_cons_zero, asc, List.append_assoc]
  rfl
theorem getD_wf {k : IntKind} {l : List Int} (h : ∀ x ∈ l, (Lit.int k x).wf = true) (i : Nat) (hi : i < l.length) : (Lit.int k (l.getD i 0)).wf = true := by
  refine h _ ?_
  rw [List.getD_eq_getElem?_getD, List.getElem?_eq_getElem hi]
  exact List.getElem_mem _
end Rnd

set_option maxHeartbeats 1600000 in
set_option maxRecDepth 100000 in
theorem perm_no (p : Option Addr) (n : Int) (w : World) (h : p = none ∨ n < 0 ∨ 1024 < n) :
    Calls Tryd.prog 16 #[.pointer p, .int .i64 n] w fun e w' => e = .returned (.slice none 0 0) ∧ w = w' := by
  cases p with
  | none =>
    go_enter Tryd.func16, Tryd.ntmps16
    go_wp2_with fail
    go_ret
    exact ⟨rfl, rfl⟩
  | some a =>
    have h' : n < 0 ∨ 1024 < n := by
      rcases h with h | h
      · cases h
      · exact h
    clear h
    by_cases h1 : n < 0
    · clear h'
      go_enter Tryd.func16, Tryd.ntmps16
      go_wp2_with fail
      go_ret
      exact ⟨rfl, rfl⟩
    · have h2 : 1024 < n := by omega
      clear h'
      go_enter Tryd.func16, Tryd.ntmps16
      go_wp2_with fail
      go_ret
      exact ⟨rfl, rfl⟩

theorem Own.madeS {e : TypeId} {k : IntKind} {B : Nat} {w : World} {ao : Option Addr} {n c : Nat} (h0 : (Lit.int k 0).wf = true) (hown : w.ownsRow B e 1 (.slice ao n c) n (madeCells #[Value.int k 0] n).toList) : Own e k B w ao n c (List.replicate n 0) :=
  Own.madeK h0 (by rw [Nat.mul_one]; exact hown)
theorem grown_far {a w : World} {g : Nat} (h : a.grownBy w (some g)) {p : Addr} (hp : a.heap.size ≤ p.block) (u : Value) : a.grownBy (w.setCell p u) (some g) :=
  ⟨h.os, h.tape, h.output, by simpa [World.setCell] using h.size, fun k hk hne => (Below.heap_setCell w p u k (by omega)).trans (h.block k hk hne)⟩
/-- Two elements exchanged. -/
theorem Own.swap {e : TypeId} {B : Nat} {w : World} {ao : Option Addr} {n c : Nat} {l : List Int} (h : Own e .i64 B w ao n c l) {i j : Nat} (hi : i < n) (hj : j < n) :
    Own e .i64 B ((w.setCell (pt ao i) (.int .i64 (l.getD j 0))).setCell (pt ao j) (.int .i64 (l.getD i 0))) ao n c (swp l i j) := by
  have hl := h.len
  exact (h.set hi (getD_wf h.2 j (by omega))).set hj (getD_wf h.2 i (by omega))

set_option maxHeartbeats 3200000 in
set_option maxRecDepth 100000 in
theorem perm_c (g : Nat) (S : ByteArray) (k n : Nat) (w : World) (h : Src 44 w g S k) (hs : S.size ≤ 1000) (hk0 : k ≤ 18446744073709551615) (hn : n ≤ 1024) (hT0 : KTab 1 w) :
    Calls Tryd.prog 16 #[.pointer (some ⟨g, 0, none⟩), .int .i64 (n : Int)] w fun e w' => ∃ ao c, e = .returned (.slice ao n c) ∧ Own 3 .i64 w.heap.size w' ao n c (permN S n k).1 ∧ Src 44 w' g S (permN S n k).2 ∧ w.grownBy w' (some g) := by
  obtain ⟨i0, hi, hz0, hz1, hz2⟩ := info_parts infoI
  have HS := Lib.hid hs
  have hne := Lib.hid (h.apart hT0)
  have HT := Lib.hid hT0
  have HSrc := Lib.hid h
  have hgl := Lib.hid h.lt
  have HK := Lib.hid hk0
  have hn3 : ¬ ((n : Int) < 0) := by omega
  have hn4 : ¬ ((n : Int) > 1024) := by omega
  clear h hs hk0 hT0
  go_enter Tryd.func16, Tryd.ntmps16
  go_wp2_with (at_make; refine wpList_make_full _ rfl _ _ 35 rfl w.heap.size 3 i0 (.int .i64 0) 1 Tryd.underlying35 hi hz0 hz1 _ _ _ _ n rfl rfl (by omega) (by omega) ?b2 ?b3 (Nat.le_refl _) ?_)
  case b2 => first | omega | (rw [hz2]; omega)
  case b3 => unfold maxLen; omega
  intro w1 hown hgr
  have O1 : Own 3 .i64 w.heap.size w1 (some ⟨w.heap.size, 0, none⟩) n n (asc 0 ++ List.replicate (n - 0) 0) := Own.madeS (wf_i64 (by omega) (by omega)) hown
  have b1 : Below w.heap.size w w1 := (Below.refl _ _).grown hgr (Nat.le_refl _) (fun k hk => by cases hk)
  clear hown hgr
  go_wp2_with fail
  go_loopw [23] (fun i wr => ∃ j : Nat, j ≤ n ∧ i = .int .i64 j ∧ Own 3 .i64 w.heap.size wr (some ⟨w.heap.size, 0, none⟩) n n (asc j ++ List.replicate (n - j) 0) ∧ Below w.heap.size w wr)
    (fun i _ => n - (intOf i).toNat)
  case atStart => exact ⟨0, by omega, rfl, O1, b1⟩
  case round =>
    clear O1 b1
    obtain ⟨j, hj, rfl, O, B⟩ := hrel
    by_cases hlt : j < n
    · have hlt' : (j : Int) < n := by omega
      have hix := ixI O.lst j j rfl hlt
      have hfz := O.frozen hlt
      have hc := O.lst.cell j hlt
      have hbase := O.base hlt
      have O2 := O.set hlt (wf_i64 (x := (j : Int)) (by omega) (by omega))
      rw [asc_set n j hlt] at O2
      have HO2 := Lib.hid O2
      have HB2 := Lib.hid (B.setCell hbase (.int .i64 (j : Int)))
      clear O2 O
      go_wp2_with fail
      go_roundw
      case rel => exact ⟨j + 1, by omega, by go_num, HO2.out, HB2.out⟩
      case measure => simp [intOf]; omega
    · obtain rfl : j = n := by omega
      rw [Nat.sub_self, List.replicate_zero, List.append_nil] at O
      have I0 : Hid (∃ kk, kk ≤ 18446744073709551615 ∧ prmN S (j - 1) kk (asc j) = permN S j k ∧ Src 44 wr g S kk ∧ w.grownBy wr (some g)) := ⟨k, HK.out, rfl, HSrc.out.kept B, grown_of_below B _⟩
      have HO := Lib.hid O
      clear O B
      go_wp2_with fail
      go_loopw [7] (fun i wr => ∃ (z : Int) (l : List Int), -1 ≤ z ∧ z < j ∧ i = .int .i64 z ∧ Own 3 .i64 w.heap.size wr (some ⟨w.heap.size, 0, none⟩) j j l ∧ Hid (∃ kk, kk ≤ 18446744073709551615 ∧ prmN S z.toNat kk l = permN S j k ∧ Src 44 wr g S kk ∧ w.grownBy wr (some g)))
        (fun i _ => (intOf i).toNat)
      case atStart => exact ⟨(j : Int) - 1, asc j, by omega, by omega, rfl, HO.out, by rw [show ((j : Int) - 1).toNat = j - 1 by omega]; exact I0⟩
      case round =>
        clear HO I0
        obtain ⟨z, l, hz, hzj, rfl, O, hI⟩ := hrel
        obtain ⟨kk, hJ⟩ : ∃ kk, Hid (kk ≤ 18446744073709551615 ∧ prmN S z.toNat kk l = permN S j k ∧ Src 44 wr g S kk ∧ w.grownBy wr (some g)) := by
          obtain ⟨kk, h⟩ := hI.out
          exact ⟨kk, h⟩
        clear hI
        by_cases hz1' : 1 ≤ z
        · obtain ⟨m, rfl⟩ : ∃ m : Nat, z = (m : Int) + 1 := ⟨(z - 1).toNat, by omega⟩
          have HC := Lib.hid (below_c g S kk (m + 2) wr hJ.out.2.2.1 HS.out hJ.out.1 (by omega) (by omega) (HT.out.grown hJ.out.2.2.2 hne.out))
          obtain ⟨J, hJe⟩ : ∃ J, Hid (J = (belN S (m + 2) 15 kk).1) := ⟨_, rfl⟩
          have hJl : J < m + 2 := by rw [hJe.out]; exact belN_lt S _ (by omega) _ _
          rw [← hJe.out] at HC
          have ec : ((m + 2 : Nat) : Int) = (m : Int) + 1 + 1 := by omega
          rw [ec] at HC
          have HO := Lib.hid O
          clear ec O
          go_wp2_with fail
          refine HC.out.mono ?_
          rintro e w2 ⟨rfl, S2, G2⟩
          have O2 := HO.out.grownBy G2 hgl.out
          have hlen : l.length = j := O2.len
          obtain ⟨vi, hvi⟩ : ∃ v, Hid (v = l.getD (m + 1) 0) := ⟨_, rfl⟩
          obtain ⟨vk, hvk⟩ : ∃ v, Hid (v = l.getD J 0) := ⟨_, rfl⟩
          have hm : m + 1 < j := by omega
          have hJj : J < j := by omega
          have hix1 := ixI O2.lst (m + 1) ((m : Int) + 1) (by omega) hm
          have hix2 := ixI O2.lst J J rfl hJj
          have hc1 := O2.lst.cell (m + 1) hm
          have hc2 := O2.lst.cell J hJj
          rw [← hvi.out] at hc1
          rw [← hvk.out] at hc2
          have hf1 := O2.frozen hm
          have hf2 := O2.frozen hJj
          have OS := O2.swap hm hJj
          rw [← hvi.out, ← hvk.out] at OS
          have HOS := Lib.hid OS
          obtain ⟨y, hy⟩ := cell?_setCell_some (w := w2) (p := pt (some ⟨w.heap.size, 0, none⟩) (m + 1)) (x := .int .i64 vk) (q := pt (some ⟨w.heap.size, 0, none⟩) J) (v := .int .i64 vk) hc2
          have hb1 := O2.base hm
          have hb2 := O2.base hJj
          have hp1 : g ≠ (pt (some ⟨w.heap.size, 0, none⟩) (m + 1)).block := by have := hgl.out; omega
          have hp2 : g ≠ (pt (some ⟨w.heap.size, 0, none⟩) J).block := by have := hgl.out; omega
          have HSS := Lib.hid (Arr.far (Arr.far S2.arr hp1 (.int .i64 vk)) hp2 (.int .i64 vi))
          have HGG : Hid (w.grownBy ((w2.setCell (pt (some ⟨w.heap.size, 0, none⟩) (m + 1)) (.int .i64 vk)).setCell (pt (some ⟨w.heap.size, 0, none⟩) J) (.int .i64 vi)) (some g)) :=
            grown_far (grown_far (grown_trans hJ.out.2.2.2 G2) hb1 _) hb2 _
          have HP : Hid (prmN S m (belN S (m + 2) 15 kk).2 (swp l (m + 1) J) = permN S j k) := by
            show _ = _
            rw [← hJ.out.2.1, show ((m : Int) + 1).toNat = m + 1 by omega, prmN, ← hJe.out]
          clear OS hb1 hb2 hp1 hp2 S2 G2 O2 hlen HC
          go_wp2_with fail
          go_region
          all_goals
            go_wp2_with fail
            go_roundw
            case rel => exact ⟨m, swp l (m + 1) J, by omega, by omega, by go_num, HOS.out.drewN 1, ⟨(belN S (m + 2) 15 kk).2, Nat.le_of_lt_succ (belN_nx _ _ _ _), by rw [Int.toNat_natCast]; exact HP.out, HSS.out, grown_drew HGG.out⟩⟩
            case measure => simp [intOf]
        · have hl : Hid (l = (permN S j k).1 ∧ kk = (permN S j k).2) := by
            have := hJ.out.2.1
            rw [show z.toNat = 0 by omega] at this
            exact ⟨congrArg Prod.fst this, congrArg Prod.snd this⟩
          have HO := Lib.hid O
          clear O
          go_wp2_with fail
          go_ret
          refine ⟨_, _, rfl, ?_, ?_, hJ.out.2.2.2⟩
          · rw [← hl.out.1]; exact HO.out
          · rw [← hl.out.2]; exact hJ.out.2.2.1
end Go.Proofs.YtgomconcfjllcaaDoor
