/-
  A block of the program: digest.block.
-/
import Derived.Test.YtgomconcfjllcaaDoorDigRefBlock
namespace Go.Proofs.YtgomconcfjllcaaDoor
open Go.RowKit Dig

namespace Dig
theorem add_comm (s u : St) : s.add u = u.add s := by
  simp only [St.add, Nat.add_comm]
end Dig
theorem grown_of_below {w w' : World} (h : Below w.heap.size w w') (row : Option Nat) : w.grownBy w' row := ⟨h.os, h.tape, h.output, h.size, fun i hi _ => h.block i hi⟩
theorem grown_set {a w : World} {g : Nat} (h : a.grownBy w (some g)) (i : Nat) (u : Value) : a.grownBy (w.setCell ⟨g, i, none⟩ u) (some g) :=
  ⟨h.os, h.tape, h.output, by simpa [World.setCell] using h.size, fun k hk hne => (Below.heap_setCell w ⟨g, i, none⟩ u k (fun e => hne (by rw [e]))).trans (h.block k hk hne)⟩
theorem grown_drew' {a w : World} {row : Option Nat} (h : a.grownBy w row) : a.grownBy w.drew row := ⟨h.os, h.tape, h.output, h.size, h.block⟩
/-- What lies elsewhere is as it was. -/
theorem KTab.grown {g b : Nat} {w w' : World} (h : KTab g w) (hO : w.grownBy w' (some b)) (hne : g ≠ b) : KTab g w' := fun i hi =>
  (World.cell?_of_block (a := ⟨g, i, none⟩) (hO.block _ (World.block_lt_of_cell? w _ (h i hi)) (fun e => hne (by injection e)))).trans (h i hi)
theorem Lst.grownBy {k : IntKind} {w w' : World} {ao : Option Addr} {n c b : Nat} {xs : List Int} (h : Lst k w ao n c xs) (hg : w.grownBy w' (some b)) (hne : ∀ i, i < n → (pt ao i).block ≠ b) : Lst k w' ao n c xs :=
  ⟨h.len, h.cap, h.room, h.isSome, fun i hi => (World.cell?_of_block (hg.block _ (h.block i hi) (fun e => hne i hi (by injection e)))).trans (h.cell i hi), h.wf⟩

set_option maxHeartbeats 1600000 in
set_option maxRecDepth 100000 in
theorem block_c (g : Nat) (s : St) (hs : s.Ok) (ao : Option Addr) (n c : Nat) (xs : List Int) (w : World) (hA : Arr w g 59 (stv s)) (h : Lst .u8 w ao n c xs) (hn : 64 ≤ n) (hK : KTab 1 w) :
    Calls Tryd.prog 36 #[.pointer (some ⟨g, 0, none⟩), .slice ao n c] w fun e w' => e = .returned (.tuple #[]) ∧ Arr w' g 59 (stv (blkS s xs)) ∧ w.grownBy w' (some g) := by
  have hgl := hA.lt
  obtain ⟨S, hS⟩ : ∃ S, Hid (S = sch xs 64) := ⟨_, rfl⟩
  have HL : Hid (S.length = 64) := by show _ = _; rw [hS.out]; exact sch_len xs 64
  have HLT : Hid (∀ i, S.getD i 0 < 4294967296) := by show ∀ i, _; rw [hS.out]; exact sch_lt xs (byte_of_lst h) 64
  obtain ⟨R0, hR0⟩ : ∃ R, Hid (R = rnds S s 64) := ⟨_, rfl⟩
  have hokR : R0.Ok := by rw [hR0.out]; exact rnds_ok hs S 64
  obtain ⟨F, hF⟩ : ∃ F, Hid (F = s.add R0) := ⟨_, rfl⟩
  have HR : Hid (blkS s xs = F) := by show _ = _; rw [blkS, ← hS.out, ← hR0.out, hF.out, add_comm]
  rw [HR.out]
  have HC := Lib.hid (schedule_c ao n c xs w h hn)
  rw [← hS.out] at HC
  go_enter Tryd.func36, Tryd.ntmps36
  go_wp2_with fail
  refine HC.out.mono ?_
  rintro e w1 ⟨rfl, b1⟩
  have A1 := hA.kept b1
  have K1 := hK.below b1
  have hz1 := b1.size
  clear hA hK HC h
  have HA1 := Lib.hid A1
  have HK1 := Lib.hid K1
  have HB1 := Lib.hid b1
  have hgl1 := A1.lt
  clear A1 K1 b1
  go_wp2_with (first
    | ((with_reducible refine wpList_store_arr (x := .tmp 4) (y := .tmp 8) (cs := wcells S) arr54 (Arr.new _ _ _) ?e1 ?e2 ?e3 ?e4 ?e5 ?_); (case e1 => rfl); (case e2 => rfl); (case e3 => rfl); (case e4 => exact wcells_len (Nat.le_of_eq HL.out)); (case e5 => exact wcells_one S); intro w2 hA2 hO2; have hB2 := Lib.hid (hO2.below ((Below.refl w1.heap.size w1).alloc (Nat.le_refl _) _) (by simp) (Nat.le_refl _)); have HA2 := Lib.hid hA2; clear hA2 hO2)
    | ((with_reducible refine wpList_load_arr (d := some 11) arr43 (HA1.out.kept hB2.out) ?e1 ?e2 ?_); (case e1 => rfl); (case e2 => rfl))
    | (go_at_call 40; refine (mix_c s hs w1.heap.size S _ HL.out HLT.out HA2.out (HK1.out.below hB2.out)).mono ?_; rintro e w3 ⟨rfl, b3⟩; have HB3 := Lib.hid b3; clear b3)
    | ((with_reducible refine wpList_store_arr (x := .tmp 5) (y := .tmp 12) (cs := stv (rnds S s 64)) arr43 (Arr.new _ _ _) ?e1 ?e2 ?e3 ?e4 ?e5 ?_); (case e1 => rfl); (case e2 => rfl); (case e3 => rfl); (case e4 => rfl); (case e5 => exact stv_one _); intro w4 hA4 hO4; have hB4 := Lib.hid (hO4.below ((Below.refl w3.heap.size w3).alloc (Nat.le_refl _) _) (by simp) (Nat.le_refl _)); have HA4 := Lib.hid hA4; clear hA4 hO4))
  have z1 := HB1.out.size
  have z2 := hB2.out.size
  have z3 := HB3.out.size
  have z4 := hB4.out.size
  have B4 : Below w.heap.size w w4 := ((HB1.out.trans (hB2.out.mono z1)).trans (HB3.out.mono (by omega))).trans (hB4.out.mono (by omega))
  have A4 : Arr w4 g 59 (u32s (partS s R0 0)) := ((HA1.out.kept hB2.out).kept HB3.out).kept hB4.out
  have M4 : Arr w4 w3.heap.size 59 (stv R0) := by rw [hR0.out]; exact HA4.out
  have G4 := grown_of_below B4 (some g)
  have hne : w3.heap.size ≠ g := by omega
  have hne' : g ≠ w3.heap.size := by omega
  clear HA1 HK1 HB1 HA2 hB2 HB3 HA4 hB4 B4
  go_loopw [13] (fun i wr => ∃ j : Nat, j ≤ 8 ∧ i = .int .i64 j ∧ Arr wr g 59 (u32s (partS s R0 j)) ∧ Arr wr w3.heap.size 59 (stv R0) ∧ w.grownBy wr (some g))
    (fun i _ => 8 - (intOf i).toNat)
  case atStart => exact ⟨0, by omega, rfl, A4, M4, G4⟩
  case round =>
    clear A4 M4 G4
    obtain ⟨j, hj, rfl, A, M, G⟩ := hrel
    by_cases hlt8 : j < 8
    · obtain ⟨x, hx⟩ : ∃ x, Hid (s.l.getD j 0 = x) := ⟨_, rfl⟩
      obtain ⟨y, hy⟩ : ∃ y, Hid (R0.l.getD j 0 = y) := ⟨_, rfl⟩
      have lx : x ≤ 4294967295 := by rw [← hx.out]; exact l_lt hs j
      have ly : y ≤ 4294967295 := by rw [← hy.out]; exact l_lt hokR j
      have q8 : (j : Int) < 8 := by omega
      have cx : wr.cell? ⟨g, j, none⟩ = some (.int .u32 (x : Int)) := by
        rw [A.cell j, u32s_at (by rw [partS_len _ _ _ hj]; exact hlt8), partS_at _ _ _ hlt8, hx.out]
      have cy : wr.cell? ⟨w3.heap.size, j, none⟩ = some (.int .u32 (y : Int)) := by
        rw [M.cell j]
        exact (u32s_at (ws := R0.l) (by simpa [St.l] using hlt8)).trans (by rw [hy.out])
      have hf := A.frozen j
      have e1 := sum2w x y
      obtain ⟨Z, hZ⟩ : ∃ Z, Hid (Z = (x + y) % 4294967296) := ⟨_, rfl⟩
      rw [← hZ.out] at e1
      have hA : Hid (Arr (wr.setCell ⟨g, j, none⟩ (.int .u32 (Z : Int))) g 59 (u32s (partS s R0 (j + 1)))) := by
        have := A.set j (.int .u32 (Z : Int))
        rw [u32s_set, hZ.out, ← hx.out, ← hy.out, partS_set _ _ _ hlt8] at this
        rw [hZ.out, ← hx.out, ← hy.out]
        exact this
      have hM := Lib.hid (M.far (p := ⟨g, j, none⟩) hne (.int .u32 (Z : Int)))
      have hG := Lib.hid (grown_set G j (.int .u32 (Z : Int)))
      clear A M G
      go_wp2
      go_still_tail 11, (by kernel_rfl)
      go_wp2
      go_roundw
      case rel => exact ⟨j + 1, by omega, by go_num, hA.out.drew, hM.out.drew, grown_drew' hG.out⟩
      case measure => simp [intOf]; omega
    · obtain rfl : j = 8 := by omega
      have e8 : u32s (partS s R0 8) = stv F := by rw [hF.out]; rfl
      rw [e8] at A
      go_wp2
      go_end0
      exact ⟨rfl, A, G⟩
end Go.Proofs.YtgomconcfjllcaaDoor
