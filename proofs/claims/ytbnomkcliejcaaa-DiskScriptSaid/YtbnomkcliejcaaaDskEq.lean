/-
  electionref04.Eq and electionref09.Eq: bytes compared, images compared.
-/
import Derived.Test.YtbnomkcliejcaaaImgBase
namespace Go.Proofs.Ytbnomkcliejcaaa
open Go.RowKit Im

theorem take_eq_next {xs ys : List Int} {i : Nat} (h : xs.take i = ys.take i) (hx : i < xs.length) (hy : i < ys.length) (he : xs.getD i 0 = ys.getD i 0) : xs.take (i + 1) = ys.take (i + 1) := by
  rw [List.take_add_one, List.take_add_one, h, List.getElem?_eq_getElem hx, List.getElem?_eq_getElem hy]
  rw [List.getD_eq_getElem?_getD, List.getD_eq_getElem?_getD, List.getElem?_eq_getElem hx, List.getElem?_eq_getElem hy] at he
  simp only [Option.getD_some] at he
  rw [he]
theorem below_drewN {B : Nat} {w w' : World} (h : Below B w w') (n : Nat) : Below B w (w'.drewN n) := ⟨h.os, h.tape, h.output, h.size, h.block⟩
set_option maxHeartbeats 1600000 in
set_option maxRecDepth 100000 in
theorem eqB_c (ao : Option Addr) (n c : Nat) (xs : List Int) (bo : Option Addr) (m d : Nat) (ys : List Int) (w : World) (hX : Lst .u8 w ao n c xs) (hY : Lst .u8 w bo m d ys) :
    Calls Try.prog 14 #[.slice ao n c, .slice bo m d] w fun e w' => e = .returned (.bool (decide (xs = ys))) ∧ Below w.heap.size w w' := by
  have HX := Lib.hid hX
  have HY := Lib.hid hY
  have hxl := Lib.hid hX.len
  have hyl := Lib.hid hY.len
  have r1 := hX.cap
  have r2 := hX.room
  have r3 := hY.cap
  have r4 := hY.room
  clear hX hY
  by_cases hnm : n = m
  · subst hnm
    go_enter Try.func14, Try.ntmps14
    go_wp2
    go_loopw [5] (fun v wr => ∃ i : Nat, i ≤ n ∧ v = .int .i64 i ∧ Hid (xs.take i = ys.take i) ∧ Below w.heap.size w wr) (fun v _ => n - (intOf v).toNat)
    case atStart => exact ⟨0, Nat.zero_le _, rfl, rfl, Below.refl _ _⟩
    case round =>
      obtain ⟨i, hi, rfl, ht, B⟩ := hrel
      have HB := Lib.hid B
      clear B
      by_cases hlt : i < n
      · have hlti : (i : Int) < (n : Int) := by omega
        obtain ⟨x, hx⟩ : ∃ x, Hid (xs.getD i 0 = x) := ⟨_, rfl⟩
        obtain ⟨y, hy⟩ : ∃ x, Hid (ys.getD i 0 = x) := ⟨_, rfl⟩
        have hix1 := ix8 HX.out i (i : Int) rfl hlt
        have hix2 := ix8 HY.out i (i : Int) rfl hlt
        have hc1 : wr.cell? (pt ao i) = some (.int .u8 x) := by
          have := (HX.out.below HB.out).cell i hlt
          rw [hx.out] at this
          exact this
        have hc2 : wr.cell? (pt bo i) = some (.int .u8 y) := by
          have := (HY.out.below HB.out).cell i hlt
          rw [hy.out] at this
          exact this
        by_cases hxy : x = y
        · have hnx : Hid (xs.take (i + 1) = ys.take (i + 1)) := take_eq_next ht.out (by rw [hxl.out]; exact hlt) (by rw [hyl.out]; exact hlt) (by rw [hx.out, hy.out, hxy])
          subst hxy
          have hxx : (x != x) = false := by simp
          go_wp2_with fail
          go_quiet (fail)
          go_wp2_with fail
          go_roundw
          case rel => exact ⟨i + 1, by omega, by go_num, hnx.out, by first | exact below_drewN HB.out _ | exact HB.out⟩
          case measure => simp [intOf]; omega
        · have hne : Hid (xs ≠ ys) := fun e => hxy (by rw [← hx.out, ← hy.out, e])
          have hxyb : (x != y) = true := by simp [hxy]
          go_wp2_with fail
          go_quiet (fail)
          go_wp2_with fail
          go_ret
          exact ⟨by rw [decide_eq_false hne.out]; rfl, by first | exact below_drewN HB.out _ | exact HB.out⟩
      · obtain rfl : i = n := by omega
        have he : Hid (xs = ys) := by
          have := ht.out
          rw [List.take_of_length_le (by rw [hxl.out]; exact Nat.le_refl _), List.take_of_length_le (by rw [hyl.out]; exact Nat.le_refl _)] at this
          exact this
        go_wp2
        go_ret
        exact ⟨by rw [decide_eq_true he.out]; rfl, HB.out⟩
  · have hne : Hid (xs ≠ ys) := fun e => hnm (by rw [← hxl.out, ← hyl.out, e])
    have hnb : ((n : Int) != (m : Int)) = true := by simp; omega
    go_enter Try.func14, Try.ntmps14
    go_wp2
    go_ret
    exact ⟨by rw [decide_eq_false hne.out]; rfl, Below.refl _ _⟩
end Go.Proofs.Ytbnomkcliejcaaa
