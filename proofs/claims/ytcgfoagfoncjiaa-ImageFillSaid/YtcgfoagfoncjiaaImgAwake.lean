/-
  electionlaw09.Awake, electionlaw09.small.
-/
import Derived.Test.YtcgfoagfoncjiaaImgCountP
namespace Go.Proofs.Ytcgfoagfoncjiaa
open Go.RowKit Im

theorem aw1 : packP noB 1 = [0] := by decide +kernel
theorem aw2 : packP (fillB (bitL [0]) (rectL 3 1 1 0 1 1) true) 1 = [64] := by decide +kernel
theorem aw3 : okB 3 1 [0] = true := by decide +kernel
theorem aw4 : getP 3 1 [64] 1 0 = true := by decide +kernel
theorem aw5 : cntB (bitL [64]) (rectL 3 1 0 0 9 9) = 1 := by decide +kernel
theorem aw6 : getP 3 1 [0] 1 0 = false := by decide +kernel
theorem aw7 : okB 3 1 [64] = true := by decide +kernel
theorem okI_of {v u : Nat} {bs : List Int} (h : okB v u bs = true) : OkI v u bs := by
  obtain ⟨v', u', e1, e2, O⟩ := okB_yes h
  have e1 : v = v' := by omega
  have e2 : u = u' := by omega
  subst e1 e2
  exact O
/-- A new box, filled at once. -/
theorem new_fill2 (w : World) (x y t : Value) : ∃ V W, w.alloc (.cells #[.int .i64 0, .int .i64 0, .slice none 0 0] 24) = V ∧ ((V.setCell ⟨w.heap.size, 0, none⟩ x).setCell ⟨w.heap.size, 1, none⟩ y).setCell ⟨w.heap.size, 2, none⟩ t = W ∧
    V.cell? ⟨w.heap.size, 0, none⟩ = some (.int .i64 0) ∧ V.frozen? ⟨w.heap.size, 0, none⟩ = false ∧ (V.setCell ⟨w.heap.size, 0, none⟩ x).cell? ⟨w.heap.size, 1, none⟩ = some (.int .i64 0) ∧ (V.setCell ⟨w.heap.size, 0, none⟩ x).frozen? ⟨w.heap.size, 1, none⟩ = false ∧
    ((V.setCell ⟨w.heap.size, 0, none⟩ x).setCell ⟨w.heap.size, 1, none⟩ y).cell? ⟨w.heap.size, 2, none⟩ = some (.slice none 0 0) ∧ ((V.setCell ⟨w.heap.size, 0, none⟩ x).setCell ⟨w.heap.size, 1, none⟩ y).frozen? ⟨w.heap.size, 2, none⟩ = false ∧
    Arr W w.heap.size 24 [x, y, t] ∧ Below w.heap.size w W ∧ W.heap.size = w.heap.size + 1 := by
  obtain ⟨V, e1, AV, BV, hz⟩ := new_img w 0 0 none 0 0
  obtain ⟨W, m7, AW, GW, hWz, q0, q1, q2, q3, q4, q5, r0, r1, r2⟩ := put_img AV x y t
  exact ⟨V, W, e1, m7, q0, q1, q2, q3, q4, q5, AW, below_grown BV GW (by omega) (Nat.le_refl _), by omega⟩
theorem get31 (bs : List Int) (b : Bool) (hb : getP 3 1 bs 1 0 = b) (hk : okB 3 1 bs = true) (ao : Option Addr) (cc : Nat) (w : World) (h : Lst .u8 w ao 1 cc bs) :
    Calls Try.prog 15 #[.agg #[.int .i64 3, .int .i64 1, .slice ao 1 cc], .int .i64 1, .int .i64 0] w fun e w' => e = .returned (.bool b) ∧ Below w.heap.size w w' := by
  subst hb
  exact get_c 3 1 1 0 ao 1 cc bs w h (okI_of hk)
theorem count31 (gc cc : Nat) (w : World) (h : Lst .u8 w (some ⟨gc, 0, none⟩) 1 cc [64]) :
    Calls Try.prog 7 #[.agg #[.int .i64 3, .int .i64 1, .slice (some ⟨gc, 0, none⟩) 1 cc], .int .i64 0, .int .i64 0, .int .i64 9, .int .i64 9] w fun e w' => e = .returned (.int .i64 1) ∧ Below w.heap.size w w' := by
  have := count_c 3 1 ⟨gc, 0, none⟩ 1 cc [64] 0 0 9 9 w h (okI_of aw7) (by omega) (by omega) (by omega) (by omega) (by omega) (by omega) (by omega) (by omega)
  rw [aw5] at this
  exact this
set_option maxHeartbeats 3200000 in
set_option maxRecDepth 100000 in
theorem awake_c (w : World) : Calls Try.prog 5 #[] w fun e w' => e = .returned (.bool true) ∧ Below w.heap.size w w' := by
  have HN := Lib.hid (new_c 3 1 w)
  go_enter Try.func5, Try.ntmps5
  go_wp2_with fail
  refine HN.out.mono ?_
  rintro e w1 ⟨hN, B1⟩
  obtain ⟨g, rfl, O1⟩ : ∃ g, e = .returned (.tuple #[.agg #[.int .i64 3, .int .i64 1, .slice (some ⟨g, 0, none⟩) 1 1], .int .i64 0]) ∧ Own 5 .u8 w.heap.size w1 (some ⟨g, 0, none⟩) 1 1 [0] := by
    rcases hN with ⟨v', u', m, g, ev, eu, _, _, _, _, hm, rfl, ON⟩ | ⟨hno, _⟩
    · have ev : v' = 3 := by omega
      have eu : u' = 1 := by omega
      subst ev eu
      have hm : m = 1 := hm
      subst hm
      rw [aw1] at ON
      exact ⟨g, rfl, ON⟩
    · omega
  obtain ⟨w2, w3, m2, m3, q0, q1, q2, q3, q4, q5, A3, B3, z3⟩ := new_fill2 w1 (.int .i64 3) (.int .i64 1) (.slice (some ⟨g, 0, none⟩) 1 1)
  obtain ⟨g1, hg1⟩ : ∃ g, w1.heap.size = g := ⟨_, rfl⟩
  have C3 : Below w.heap.size w w3 := B1.trans (B3.mono B1.size)
  have O3 := O1.kept B3
  have HF := Lib.hid (fill_c 3 1 ⟨g, 0, none⟩ 1 1 [0] 1 0 1 1 true w3 O3.lst (okI_of aw3) (by omega) (by omega) (by omega) (by omega) (by omega) (by omega) (by omega) (by omega))
  rw [aw2] at HF
  replace HF : Hid (Calls Try.prog 6 #[.agg #[.int .i64 3, .int .i64 1, .slice (some ⟨g, 0, none⟩) 1 1], .int .i64 1, .int .i64 0, .int .i64 1, .int .i64 1, .bool true] w3 fun e w' => ∃ gc cc, e = .returned (.agg #[.int .i64 3, .int .i64 1, .slice (some ⟨gc, 0, none⟩) 1 cc]) ∧ Own 5 .u8 w3.heap.size w' (some ⟨gc, 0, none⟩) 1 cc [64] ∧ Below w3.heap.size w3 w') := HF
  rw [hg1] at m3 q0 q1 q2 q3 q4 q5 A3
  have x0 : w3.cell? ⟨g1, 0, none⟩ = some (.int .i64 3) := A3.cell 0
  have x1 : w3.cell? ⟨g1, 1, none⟩ = some (.int .i64 1) := A3.cell 1
  have x2 : w3.cell? ⟨g1, 2, none⟩ = some (.slice (some ⟨g, 0, none⟩) 1 1) := A3.cell 2
  have hO3 := Lib.hid (And.intro O3 C3)
  clear hN O1 B1 A3 B3 z3 O3 C3
  go_wp2_with fail
  clear q0 q1 q2 q3 q4 q5
  refine HF.out.mono ?_
  rintro e w4 ⟨gc, cc, rfl, O4, B4⟩
  obtain ⟨w5, w6, m5, m6, q0, q1, q2, q3, q4, q5, A6, B6, z6⟩ := new_fill2 w4 (.int .i64 3) (.int .i64 1) (.slice (some ⟨gc, 0, none⟩) 1 cc)
  obtain ⟨g2, hg2⟩ : ∃ g, w4.heap.size = g := ⟨_, rfl⟩
  have B36 : Below w3.heap.size w3 w6 := B4.trans (B6.mono B4.size)
  have C6 : Below w.heap.size w w6 := hO3.out.2.trans (B36.mono hO3.out.2.size)
  have O6 := O4.kept B6
  have L6 := (hO3.out.1.kept B36).lst
  rw [hg2] at m6 q0 q1 q2 q3 q4 q5 A6
  have u0 := cell_keep x0 B36
  have u1 := cell_keep x1 B36
  have u2 := cell_keep x2 B36
  have v0 : w6.cell? ⟨g2, 0, none⟩ = some (.int .i64 3) := A6.cell 0
  have v1 : w6.cell? ⟨g2, 1, none⟩ = some (.int .i64 1) := A6.cell 1
  have v2 : w6.cell? ⟨g2, 2, none⟩ = some (.slice (some ⟨gc, 0, none⟩) 1 cc) := A6.cell 2
  have HV := Lib.hid (valid_c 3 1 (some ⟨g, 0, none⟩) 1 1 [0] w6 L6)
  rw [aw3] at HV
  have hL := Lib.hid (And.intro L6 (And.intro O6.lst C6))
  clear hO3 O4 B4 A6 B6 z6 B36 C6 O6 L6 x0 x1 x2
  go_wp2_with (first
    | (go_at_call 14; (with_reducible refine HV.out.mono ?_); rintro e w7 ⟨rfl, B7⟩; have HG := Lib.hid (get31 [64] true aw4 aw7 (some ⟨gc, 0, none⟩) cc w7 (hL.out.2.1.below B7)); have r0 := cell_keep u0 B7; have r1 := cell_keep u1 B7; have r2 := cell_keep u2 B7; have s0 := cell_keep v0 B7; have s1 := cell_keep v1 B7; have s2 := cell_keep v2 B7; have hB7 := Lib.hid B7; clear B7)
    | (go_at_call 15; (with_reducible refine HG.out.mono ?_); rintro e w8 ⟨rfl, B8⟩; have hB8 := Lib.hid (hB7.out.trans (B8.mono hB7.out.size)); have HC := Lib.hid (count31 gc cc w8 (hL.out.2.1.below hB8.out)); have a0 := cell_keep r0 B8; have a1 := cell_keep r1 B8; have a2 := cell_keep r2 B8; have b0 := cell_keep s0 B8; have b1 := cell_keep s1 B8; have b2 := cell_keep s2 B8; clear B8 HG)
    | (go_at_call 7; (with_reducible refine HC.out.mono ?_); rintro e w9 ⟨rfl, B9⟩; have hB9 := Lib.hid (hB8.out.trans (B9.mono hB8.out.size)); have HG2 := Lib.hid (get31 [0] false aw6 aw3 (some ⟨g, 0, none⟩) 1 w9 (hL.out.1.below hB9.out)); have c0 := cell_keep a0 B9; have c1 := cell_keep a1 B9; have c2 := cell_keep a2 B9; clear B9)
    | (go_at_call 15; (with_reducible refine HG2.out.mono ?_); rintro e w10 ⟨rfl, B10⟩))
  go_ret
  exact ⟨rfl, hL.out.2.2.trans ((hB9.out.trans (B10.mono hB9.out.size)).mono hL.out.2.2.size)⟩
end Go.Proofs.Ytcgfoagfoncjiaa
