/-
  electionref04.Eq and electionref09.Eq: bytes compared, images compared.
-/
import Derived.Test.YtcgfoagfoncjiaaImgBase
namespace Go.Proofs.Ytcgfoagfoncjiaa
open Go.RowKit Im

theorem take_eq_next {xs ys : List Int} {i : Nat} (h : xs.take i = ys.take i) (hx : i < xs.length) (hy : i < ys.length) (he : xs.getD i 0 = ys.getD i 0) : xs.take (i + 1) = ys.take (i + 1) := by
  rw [List.take_add_one, List.take_add_one, h, List.getElem?_eq_getElem hx, List.getElem?_eq_getElem hy]
  rw [List.getD_eq_getElem?_getD, List.getD_eq_getElem?_getD, List.getElem?_eq_getElem hx, List.getElem?_eq_getElem hy] at he
  simp only [Option.getD_some] at he
  rw [he]
theorem below_drewN {B : Nat} {w w' : World} (h : Below B w w') (n : Nat) : Below B w (w'.drewN n) := ⟨h.os, h.tape, h.output, h.size, h.block⟩
set_option maxHeartbeats 1600000 in
set_option maxRecDepth 100000 in
theorem eqB_c (ao : Option Addr) (n c : Nat) (xs : List Int) (bo : Option Addr) (m d : Nat) (ys : List Int) (w : World) (hX : Lst .u8 w ao n c xs) (hY : Lst .u8 w bo m d ys) :
    Calls Try.prog 8 #[.slice ao n c, .slice bo m d] w fun e w' => e = .returned (.bool (decide (xs = ys))) ∧ Below w.heap.size w w' := by
  have HX := Lib.hid hX
  have HY := Lib.hid hY
  have hxl := Lib.hid hX.len
  have hyl := Lib.hid hY.len
  have r1 := hX.cap
  have r2 := hX.room
  have r3 := hY.cap
  have r4 := hY.room
  clear hX hY
  by_cases hnm : n = m
  · subst hnm
    go_enter Try.func8, Try.ntmps8
    go_wp2
    go_loopw [5] (fun v wr => ∃ i : Nat, i ≤ n ∧ v = .int .i64 i ∧ Hid (xs.take i = ys.take i) ∧ Below w.heap.size w wr) (fun v _ => n - (intOf v).toNat)
    case atStart => exact ⟨0, Nat.zero_le _, rfl, rfl, Below.refl _ _⟩
    case round =>
      obtain ⟨i, hi, rfl, ht, B⟩ := hrel
      have HB := Lib.hid B
      clear B
      by_cases hlt : i < n
      · have hlti : (i : Int) < (n : Int) := by omega
        obtain ⟨x, hx⟩ : ∃ x, Hid (xs.getD i 0 = x) := ⟨_, rfl⟩
        obtain ⟨y, hy⟩ : ∃ x, Hid (ys.getD i 0 = x) := ⟨_, rfl⟩
        have hix1 := ix8 HX.out i (i : Int) rfl hlt
        have hix2 := ix8 HY.out i (i : Int) rfl hlt
        have hc1 : wr.cell? (pt ao i) = some (.int .u8 x) := by
          have := (HX.out.below HB.out).cell i hlt
          rw [hx.out] at this
          exact this
        have hc2 : wr.cell? (pt bo i) = some (.int .u8 y) := by
          have := (HY.out.below HB.out).cell i hlt
          rw [hy.out] at this
          exact this
        by_cases hxy : x = y
        · have hnx : Hid (xs.take (i + 1) = ys.take (i + 1)) := take_eq_next ht.out (by rw [hxl.out]; exact hlt) (by rw [hyl.out]; exact hlt) (by rw [hx.out, hy.out, hxy])
          subst hxy
          have hxx : (x != x) = false := by simp
          go_wp2_with fail
          go_quiet (fail)
          go_wp2_with fail
          go_roundw
          case rel => exact ⟨i + 1, by omega, by go_num, hnx.out, by first | exact below_drewN HB.out _ | exact HB.out⟩
          case measure => simp [intOf]; omega
        · have hne : Hid (xs ≠ ys) := fun e => hxy (by rw [← hx.out, ← hy.out, e])
          have hxyb : (x != y) = true := by simp [hxy]
          go_wp2_with fail
          go_quiet (fail)
          go_wp2_with fail
          go_ret
          exact ⟨by rw [decide_eq_false hne.out]; rfl, by first | exact below_drewN HB.out _ | exact HB.out⟩
      · obtain rfl : i = n := by omega
        have he : Hid (xs = ys) := by
          have := ht.out
          rw [List.take_of_length_le (by rw [hxl.out]; exact Nat.le_refl _), List.take_of_length_le (by rw [hyl.out]; exact Nat.le_refl _)] at this
          exact this
        go_wp2
        go_ret
        exact ⟨by rw [decide_eq_true he.out]; rfl, HB.out⟩
  · have hne : Hid (xs ≠ ys) := fun e => hnm (by rw [← hxl.out, ← hyl.out, e])
    have hnb : ((n : Int) != (m : Int)) = true := by simp; omega
    go_enter Try.func8, Try.ntmps8
    go_wp2
    go_ret
    exact ⟨by rw [decide_eq_false hne.out]; rfl, Below.refl _ _⟩
/-- A box of three cells. -/
theorem new_img (w : World) (x y : Int) (ao : Option Addr) (n c : Nat) : ∃ V, w.alloc (.cells #[.int .i64 x, .int .i64 y, .slice ao n c] 24) = V ∧ Arr V w.heap.size 24 [.int .i64 x, .int .i64 y, .slice ao n c] ∧ Below w.heap.size w V ∧ V.heap.size = w.heap.size + 1 :=
  ⟨_, rfl, Arr.new w _ _, (Below.refl _ _).alloc (Nat.le_refl _) _, by simp⟩
set_option maxHeartbeats 3200000 in
set_option maxRecDepth 100000 in
theorem eqI_c (x y x' y' : Int) (ao bo : Option Addr) (n c m d : Nat) (xs ys : List Int) (w : World) (hX : Lst .u8 w ao n c xs) (hY : Lst .u8 w bo m d ys) :
    Calls Try.prog 9 #[.agg #[.int .i64 x, .int .i64 y, .slice ao n c], .agg #[.int .i64 x', .int .i64 y', .slice bo m d]] w fun e w' => e = .returned (.bool (decide (x = x') && decide (y = y') && decide (xs = ys))) ∧ Below w.heap.size w w' := by
  obtain ⟨V, e1, AV, BV, hz⟩ := new_img w x y ao n c
  obtain ⟨U, e2, AU, BU, hz2⟩ := new_img V x' y' bo m d
  have AV := AV.kept BU
  rw [hz] at AU
  have HE := Lib.hid (eqB_c ao n c xs bo m d ys U ((hX.below BV).below BU) ((hY.below BV).below BU))
  have HB : Hid (Below w.heap.size w U) := BV.trans (BU.mono (by omega))
  have y0 : U.cell? ⟨w.heap.size, 0, none⟩ = some (.int .i64 x) := AV.cell 0
  have y1 : U.cell? ⟨w.heap.size, 1, none⟩ = some (.int .i64 y) := AV.cell 1
  have y2 : U.cell? ⟨w.heap.size, 2, none⟩ = some (.slice ao n c) := AV.cell 2
  have z0 : U.cell? ⟨w.heap.size + 1, 0, none⟩ = some (.int .i64 x') := AU.cell 0
  have z1 : U.cell? ⟨w.heap.size + 1, 1, none⟩ = some (.int .i64 y') := AU.cell 1
  have z2 : U.cell? ⟨w.heap.size + 1, 2, none⟩ = some (.slice bo m d) := AU.cell 2
  clear hX hY AV AU BV BU hz2
  by_cases hx : x = x'
  · have hxb : (x == x') = true := by simp [hx]
    rw [decide_eq_true hx]
    by_cases hy : y = y'
    · have hyb : (y == y') = true := by simp [hy]
      rw [decide_eq_true hy]
      clear hx hy
      go_enter Try.func9, Try.ntmps9
      go_wp2_with fail
      refine HE.out.mono ?_
      rintro e w1 ⟨rfl, B1⟩
      have HB2 : Hid (Below w.heap.size w w1) := HB.out.trans (B1.mono HB.out.size)
      clear B1
      go_wp2_with fail
      go_ret
      exact ⟨by rfl, HB2.out⟩
    · have hyb : (y == y') = false := by simp [hy]
      rw [decide_eq_false hy]
      clear hx hy
      go_enter Try.func9, Try.ntmps9
      go_wp2_with fail
      go_ret
      exact ⟨by rfl, HB.out⟩
  · have hxb : (x == x') = false := by simp [hx]
    rw [decide_eq_false hx]
    clear hx
    go_enter Try.func9, Try.ntmps9
    go_wp2_with fail
    go_ret
    exact ⟨by rfl, HB.out⟩
end Go.Proofs.Ytcgfoagfoncjiaa
