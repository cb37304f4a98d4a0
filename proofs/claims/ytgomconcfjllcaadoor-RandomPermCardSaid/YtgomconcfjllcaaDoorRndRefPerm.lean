/-
  (*electionref05.Source).Perm.
-/
import Derived.Test.YtgomconcfjllcaaDoorRndPerm
namespace Go.Proofs.YtgomconcfjllcaaDoor
open Go.RowKit Dig Rnd

theorem one_lstI (w : World) (x : Int) (h0 : -9223372036854775808 ≤ x) (h1 : x ≤ 9223372036854775807) : Lst .i64 (w.alloc (.cells #[.int .i64 x] 3)) (some ⟨w.heap.size, 0, none⟩) 1 1 [x] := by
  have o : Own 3 .i64 w.heap.size (w.alloc (.cells #[.int .i64 x] 3)) (some ⟨w.heap.size, 0, none⟩) 1 1 [x] := by
    refine ⟨World.ownsRow_lit w #[.int .i64 x] 1 (Nat.le_refl _) (by unfold maxLen; omega) rfl, ?_⟩
    intro y hy
    simp at hy
    subst hy
    exact wf_i64 h0 h1
  exact o.lst
section
variable {w : World} {ops : Array Oper} {rest : List Oper} {a : Act} {Q : Exit → Act → World → Prop} {d : Option Tmp} {p q : Operand} {ty : TypeId} {pos : String} {after : Array Edge}
/-- One int, in a slice that has just been made, is appended. -/
theorem wpList_appI1 {B : Nat} {ao : Option Addr} {n c : Nat} {xs : List Int} {x : Int} (hO : Own 3 .i64 B w ao n c xs) (hB : B ≤ w.heap.size) (hn : n ≤ 1000000) (h0 : -9223372036854775808 ≤ x) (h1 : x ≤ 9223372036854775807)
    (hp : a.eval p = .slice ao n c) (hq : a.eval q = .slice (some ⟨w.heap.size, 0, none⟩) 1 1)
    (h : ∀ ao' c' w', Own 3 .i64 B w' ao' (n + 1) c' (xs ++ [x]) → Below B w w' → wpList Tryd.prog ops Q rest (a.put d (.slice ao' (n + 1) c')) w') :
    wpList Tryd.prog ops Q (⟨d, .call { callee := .builtin .append, args := #[p, q], argTypes := #[35, 35] }, ty, pos, after, none⟩ :: rest) a (w.alloc (.cells #[.int .i64 x] 3)) := by
  obtain ⟨i0, hi, hz0, hz1, hz2⟩ := info_parts infoI
  have b1 : Below w.heap.size w (w.alloc (.cells #[.int .i64 x] 3)) := (Below.refl _ _).alloc (Nat.le_refl _) _
  have hL := one_lstI w x h0 h1
  have hO1 := hO.kept b1
  refine wpList_append_own _ rfl p q 35 rfl B 3 i0 (.int .i64 0) 1 8 Tryd.underlying35 hi hz0 hz1 hz2 rfl (by decide) _ n _ hp hO1.1 ⟨w.heap.size, 0, none⟩ 1 1 ([x].map (Value.int .i64)) hq (by simp) hL.cells (ints_one _ _) (by unfold maxLen; omega) (by omega) (by have := b1.size; omega) ?_
  intro v' w' ho' hg _
  obtain ⟨av, cv, hv⟩ := own_shape ho'
  subst hv
  refine h av cv w' ⟨by rw [List.map_append]; exact ho', fun y hy => ?_⟩ ((b1.mono hB).trans ((Below.refl _ _).grown hg (by have := b1.size; omega) (fun k hk => (World.ownsRow.lt hO1.1 k hk).1)))
  rcases List.mem_append.1 hy with hy | hy
  · exact hO.2 y hy
  · exact hL.wf y hy
end

set_option maxHeartbeats 1600000 in
set_option maxRecDepth 100000 in
theorem refperm_no (p : Option Addr) (n : Int) (w : World) (h : n < 0 ∨ 1024 < n) :
    Calls Tryd.prog 17 #[.pointer p, .int .i64 n] w fun e w' => e = .returned (.slice none 0 0) ∧ w = w' := by
  by_cases h1 : n < 0
  · clear h
    go_enter Tryd.func17, Tryd.ntmps17
    go_wp2_with fail
    go_ret
    exact ⟨rfl, rfl⟩
  · have h2 : 1024 < n := by omega
    clear h
    go_enter Tryd.func17, Tryd.ntmps17
    go_wp2_with fail
    go_ret
    exact ⟨rfl, rfl⟩

set_option maxHeartbeats 3200000 in
set_option maxRecDepth 100000 in
theorem refperm_c (g : Nat) (S : ByteArray) (k n : Nat) (w : World) (h : Src 29 w g S k) (hs : S.size ≤ 1000) (hk0 : k ≤ 18446744073709551615) (hn : n ≤ 1024) (hT0 : KTab 0 w) :
    Calls Tryd.prog 17 #[.pointer (some ⟨g, 0, none⟩), .int .i64 (n : Int)] w fun e w' => ∃ ao c, e = .returned (.slice ao n c) ∧ Own 3 .i64 w.heap.size w' ao n c (permN S n k).1 ∧ Src 29 w' g S (permN S n k).2 ∧ w.grownBy w' (some g) := by
  have HS := Lib.hid hs
  have hne := Lib.hid (h.apart hT0)
  have HT := Lib.hid hT0
  have HSrc := Lib.hid h
  have hgl := Lib.hid h.lt
  have HK := Lib.hid hk0
  have hn3 : ¬ ((n : Int) < 0) := by omega
  have hn4 : ¬ ((n : Int) > 1024) := by omega
  clear h hs hk0 hT0
  go_enter Tryd.func17, Tryd.ntmps17
  have O1 : Own 3 .i64 w.heap.size w none 0 0 [] := own_nil _ _ _ _
  go_wp2_with fail
  go_loopw [5, 6] (fun v i wr => ∃ (j : Nat) (a : Option Addr) (d : Nat), j ≤ n ∧ i = .int .i64 j ∧ v = .slice a j d ∧ Own 3 .i64 w.heap.size wr a j d (asc j) ∧ Below w.heap.size w wr)
    (fun _ i _ => n - (intOf i).toNat)
  case atStart => exact ⟨0, none, 0, by omega, rfl, rfl, O1, Below.refl _ _⟩
  case round =>
    clear O1
    obtain ⟨j, a, d, hj, rfl, rfl, O, B⟩ := hrel
    have hzB := B.size
    by_cases hlt : j < n
    · have hlt' : (j : Int) < n := by omega
      go_wp2_with (at_builtin; refine wpList_appI1 (B := w.heap.size) O hzB (by omega) (by omega) (by omega) rfl rfl ?_)
      intro a2 d2 w2 O2 b2
      have HO2 := Lib.hid O2
      have HB2 := Lib.hid (B.trans b2)
      clear O2 O b2
      go_wp2_with fail
      go_roundw
      case rel => exact ⟨j + 1, a2, d2, by omega, by go_num, rfl, HO2.out, HB2.out⟩
      case measure => simp [intOf]; omega
    · obtain rfl : j = n := by omega
      have I0 : Hid (∃ kk, kk ≤ 18446744073709551615 ∧ prmN S (j - 1) kk (asc j) = permN S j k ∧ Src 29 wr g S kk ∧ w.grownBy wr (some g)) := ⟨k, HK.out, rfl, HSrc.out.kept B, grown_of_below B _⟩
      have HO := Lib.hid O
      clear O B
      go_wp2_with fail
      go_loopw [7] (fun i wr => ∃ (z : Int) (l : List Int), -1 ≤ z ∧ z < j ∧ i = .int .i64 z ∧ Own 3 .i64 w.heap.size wr a j d l ∧ Hid (∃ kk, kk ≤ 18446744073709551615 ∧ prmN S z.toNat kk l = permN S j k ∧ Src 29 wr g S kk ∧ w.grownBy wr (some g)))
        (fun i _ => (intOf i).toNat)
      case atStart => exact ⟨(j : Int) - 1, asc j, by omega, by omega, rfl, HO.out, by rw [show ((j : Int) - 1).toNat = j - 1 by omega]; exact I0⟩
      case round =>
        clear HO I0
        obtain ⟨z, l, hz, hzj, rfl, O, hI⟩ := hrel
        obtain ⟨kk, hJ⟩ : ∃ kk, Hid (kk ≤ 18446744073709551615 ∧ prmN S z.toNat kk l = permN S j k ∧ Src 29 wr g S kk ∧ w.grownBy wr (some g)) := by
          obtain ⟨kk, h⟩ := hI.out
          exact ⟨kk, h⟩
        clear hI
        by_cases hz1' : 1 ≤ z
        · obtain ⟨m, rfl⟩ : ∃ m : Nat, z = (m : Int) + 1 := ⟨(z - 1).toNat, by omega⟩
          have HC := Lib.hid (refbelow_c g S kk (m + 2) wr hJ.out.2.2.1 HS.out hJ.out.1 (by omega) (by omega) (HT.out.grown hJ.out.2.2.2 hne.out))
          obtain ⟨J, hJe⟩ : ∃ J, Hid (J = (belN S (m + 2) 15 kk).1) := ⟨_, rfl⟩
          have hJl : J < m + 2 := by rw [hJe.out]; exact belN_lt S _ (by omega) _ _
          rw [← hJe.out] at HC
          have ec : ((m + 2 : Nat) : Int) = (m : Int) + 1 + 1 := by omega
          rw [ec] at HC
          have HO := Lib.hid O
          clear ec O
          go_wp2_with fail
          refine HC.out.mono ?_
          rintro e w2 ⟨rfl, S2, G2⟩
          have O2 := HO.out.grownBy G2 hgl.out
          have hlen : l.length = j := O2.len
          obtain ⟨vi, hvi⟩ : ∃ v, Hid (v = l.getD (m + 1) 0) := ⟨_, rfl⟩
          obtain ⟨vk, hvk⟩ : ∃ v, Hid (v = l.getD J 0) := ⟨_, rfl⟩
          have hm : m + 1 < j := by omega
          have hJj : J < j := by omega
          have hix1 := ixI O2.lst (m + 1) ((m : Int) + 1) (by omega) hm
          have hix2 := ixI O2.lst J J rfl hJj
          have hc1 := O2.lst.cell (m + 1) hm
          have hc2 := O2.lst.cell J hJj
          rw [← hvi.out] at hc1
          rw [← hvk.out] at hc2
          have hf1 := O2.frozen hm
          have hf2 := O2.frozen hJj
          have OS := O2.swap hm hJj
          rw [← hvi.out, ← hvk.out] at OS
          have HOS := Lib.hid OS
          obtain ⟨y, hy⟩ := cell?_setCell_some (w := w2) (p := pt a (m + 1)) (x := .int .i64 vk) (q := pt a J) (v := .int .i64 vk) hc2
          have hb1 := O2.base hm
          have hb2 := O2.base hJj
          have hp1 : g ≠ (pt a (m + 1)).block := by have := hgl.out; omega
          have hp2 : g ≠ (pt a J).block := by have := hgl.out; omega
          have HSS := Lib.hid (Arr.far (Arr.far S2.arr hp1 (.int .i64 vk)) hp2 (.int .i64 vi))
          have HGG : Hid (w.grownBy ((w2.setCell (pt a (m + 1)) (.int .i64 vk)).setCell (pt a J) (.int .i64 vi)) (some g)) :=
            grown_far (grown_far (grown_trans hJ.out.2.2.2 G2) hb1 _) hb2 _
          have HP : Hid (prmN S m (belN S (m + 2) 15 kk).2 (swp l (m + 1) J) = permN S j k) := by
            show _ = _
            rw [← hJ.out.2.1, show ((m : Int) + 1).toNat = m + 1 by omega, prmN, ← hJe.out]
          clear OS hb1 hb2 hp1 hp2 S2 G2 O2 hlen HC
          go_wp2_with fail
          go_region
          all_goals
            go_wp2_with fail
            go_roundw
            case rel => exact ⟨m, swp l (m + 1) J, by omega, by omega, by go_num, HOS.out.drewN 1, ⟨(belN S (m + 2) 15 kk).2, Nat.le_of_lt_succ (belN_nx _ _ _ _), by rw [Int.toNat_natCast]; exact HP.out, HSS.out, grown_drew HGG.out⟩⟩
            case measure => simp [intOf]
        · have hl : Hid (l = (permN S j k).1 ∧ kk = (permN S j k).2) := by
            have := hJ.out.2.1
            rw [show z.toNat = 0 by omega] at this
            exact ⟨congrArg Prod.fst this, congrArg Prod.snd this⟩
          have HO := Lib.hid O
          clear O
          go_wp2_with fail
          go_ret
          refine ⟨_, _, rfl, ?_, ?_, hJ.out.2.2.2⟩
          · rw [← hl.out.1]; exact HO.out
          · rw [← hl.out.2]; exact hJ.out.2.2.1
end Go.Proofs.YtgomconcfjllcaaDoor
