/-
  The walks of ImageNew, ImageValid, ImageGet.
-/
import Derived.Test.YtpjaljjclkfkmaaImgView
namespace Go.Proofs.Ytpjaljjclkfkmaa
open Go.RowKit Im

set_option maxHeartbeats 3200000 in
set_option maxRecDepth 100000 in
theorem validLaw_c (x y : Int) (ao : Option Addr) (n c : Nat) (bs : List Int) (w : World) (h : Lst .u8 w ao n c bs) :
    Calls Try.prog 4 #[.agg #[.int .i64 x, .int .i64 y, .slice ao n c]] w fun e w' => e = .returned (.bool true) ∧ Below w.heap.size w w' := by
  obtain ⟨V, e1, AV, BV, hz⟩ := new_img w x y ao n c
  have y0 : V.drew.cell? ⟨w.heap.size, 0, none⟩ = some (.int .i64 x) := AV.cell 0
  have y1 : V.drew.cell? ⟨w.heap.size, 1, none⟩ = some (.int .i64 y) := AV.cell 1
  have y2 : V.drew.cell? ⟨w.heap.size, 2, none⟩ = some (.slice ao n c) := AV.cell 2
  obtain ⟨R, hR⟩ : ∃ R, okB x y bs = R := ⟨_, rfl⟩
  have HA := Lib.hid (awake_c V.drew)
  have HB : Hid (Below w.heap.size w V.drew) := BV.drew
  have H1 : Hid (∀ W, Below V.drew.heap.size V.drew W → Calls Try.prog 16 #[.agg #[.int .i64 x, .int .i64 y, .slice ao n c]] W fun e w' => e = .returned (.bool R) ∧ Below W.heap.size W w') := fun W hb => by
    have := valid_c x y ao n c bs W ((h.below BV.drew).below hb)
    rw [hR] at this
    exact this
  have H2 : Hid (∀ W, Below V.drew.heap.size V.drew W → Calls Try.prog 17 #[.agg #[.int .i64 x, .int .i64 y, .slice ao n c]] W fun e w' => e = .returned (.bool R) ∧ Below W.heap.size W w') := fun W hb => by
    have := refValid_c x y ao n c bs W ((h.below BV.drew).below hb)
    rw [hR] at this
    exact this
  have hRR : (R == R) = true := beq_self_eq_true _
  clear h BV hz AV hR
  go_enter Try.func4, Try.ntmps4
  go_wp2_with fail
  go_region_held3 (fun w' => w'.cell? ⟨w.heap.size, 0, none⟩ = some (.int .i64 x) ∧ w'.cell? ⟨w.heap.size, 1, none⟩ = some (.int .i64 y) ∧ w'.cell? ⟨w.heap.size, 2, none⟩ = some (.slice ao n c)) (go_keep) (first
    | (go_at_call 14; (with_reducible refine HA.out.mono ?_); rintro e v1 ⟨rfl, B1⟩; have a0 := cell_keep y0 B1; have a1 := cell_keep y1 B1; have a2 := cell_keep y2 B1)
    | (go_at_call 16; (with_reducible refine (H1.out _ B1).mono ?_); rintro e v2 ⟨rfl, B2⟩; have b0 := cell_keep a0 B2; have b1 := cell_keep a1 B2; have b2 := cell_keep a2 B2; have B12 := B1.trans (B2.mono B1.size))
    | (go_at_call 17; (with_reducible refine (H2.out _ B12).mono ?_); rintro e v3 ⟨rfl, B3⟩; have c0 := cell_keep b0 B3; have c1 := cell_keep b1 B3; have c2 := cell_keep b2 B3; have B13 := Lib.hid (HB.out.trans ((B12.trans (B3.mono B12.size)).mono HB.out.size))))
  all_goals
    go_wp2_with fail
    go_ret
    exact ⟨by rfl, B13.out⟩
set_option maxHeartbeats 3200000 in
set_option maxRecDepth 100000 in
theorem getLaw_c (x y : Int) (ao : Option Addr) (n c : Nat) (bs : List Int) (p q : Int) (w : World) (h : Lst .u8 w ao n c bs) :
    Calls Try.prog 5 #[.agg #[.int .i64 x, .int .i64 y, .slice ao n c], .int .i64 p, .int .i64 q] w fun e w' => e = .returned (.bool true) ∧ Below w.heap.size w w' := by
  obtain ⟨V, e1, AV, BV, hz⟩ := new_img w x y ao n c
  have y0 : V.cell? ⟨w.heap.size, 0, none⟩ = some (.int .i64 x) := AV.cell 0
  have y1 : V.cell? ⟨w.heap.size, 1, none⟩ = some (.int .i64 y) := AV.cell 1
  have y2 : V.cell? ⟨w.heap.size, 2, none⟩ = some (.slice ao n c) := AV.cell 2
  have HS := Lib.hid (small_c x y ao n c bs V (h.below BV))
  have HB : Hid (Below w.heap.size w V) := BV
  cases hs : (decide (x ≤ 24) && decide (y ≤ 24) && okB x y bs) with
  | false =>
    rw [hs] at HS
    have HS := Lib.hid HS
    clear hs h BV AV hz
    go_enter Try.func5, Try.ntmps5
    go_wp2_with (first
      | (go_at_call 18; (with_reducible refine HS.out.out.mono ?_); rintro e v1 ⟨rfl, B1⟩; have HA := Lib.hid (awake_c v1); have B1' := Lib.hid (HB.out.trans (B1.mono HB.out.size)); clear B1)
      | (go_at_call 14; (with_reducible refine HA.out.mono ?_); rintro e v2 ⟨rfl, B2⟩; have B2' := Lib.hid (B1'.out.trans (B2.mono B1'.out.size)); clear B2))
    go_ret
    exact ⟨rfl, B2'.out⟩
  | true =>
    rw [hs] at HS
    obtain ⟨v, u, rfl, rfl, hv, hu, hO⟩ := small_ok hs
    have HS := Lib.hid HS
    obtain ⟨R, hR⟩ : ∃ R, getP v u bs p q = R := ⟨_, rfl⟩
    have H1 : Hid (∀ W, Below V.heap.size V W → Calls Try.prog 19 #[.agg #[.int .i64 (v : Int), .int .i64 (u : Int), .slice ao n c], .int .i64 p, .int .i64 q] W fun e w' => e = .returned (.bool R) ∧ Below W.heap.size W w') := fun W hb => by
      have := get_c v u p q ao n c bs W ((h.below BV).below hb) hO
      rw [hR] at this
      exact this
    have H2 : Hid (∀ W, Below V.heap.size V W → Calls Try.prog 20 #[.agg #[.int .i64 (v : Int), .int .i64 (u : Int), .slice ao n c], .int .i64 p, .int .i64 q] W fun e w' => e = .returned (.bool R) ∧ Below W.heap.size W w') := fun W hb => by
      have := refGet_c v u p q ao n c bs W ((h.below BV).below hb) hO
      rw [hR] at this
      exact this
    have hRR : (R == R) = true := beq_self_eq_true _
    clear hs h BV AV hz hR hO hv hu
    go_enter Try.func5, Try.ntmps5
    go_wp2_with (first
      | (go_at_call 18; (with_reducible refine HS.out.out.mono ?_); rintro e v1 ⟨rfl, B1⟩; have z0 := cell_keep y0 B1; have z1 := cell_keep y1 B1; have z2 := cell_keep y2 B1; have HB1 := Lib.hid B1; clear B1))
    have z0' : v1.drew.cell? ⟨w.heap.size, 0, none⟩ = some (.int .i64 (v : Int)) := z0
    have z1' : v1.drew.cell? ⟨w.heap.size, 1, none⟩ = some (.int .i64 (u : Int)) := z1
    have z2' : v1.drew.cell? ⟨w.heap.size, 2, none⟩ = some (.slice ao n c) := z2
    have hBD : Below V.heap.size V v1.drew := HB1.out.drew
    have HA := Lib.hid (awake_c v1.drew)
    clear y0 y1 y2 z0 z1 z2
    go_region_held3 (fun w' => w'.cell? ⟨w.heap.size, 0, none⟩ = some (.int .i64 (v : Int)) ∧ w'.cell? ⟨w.heap.size, 1, none⟩ = some (.int .i64 (u : Int)) ∧ w'.cell? ⟨w.heap.size, 2, none⟩ = some (.slice ao n c)) (go_keep) (first
      | (go_at_call 14; (with_reducible refine HA.out.mono ?_); rintro e v2 ⟨rfl, B2⟩; have a0 := cell_keep z0' B2; have a1 := cell_keep z1' B2; have a2 := cell_keep z2' B2; have C2 : Below V.heap.size V v2 := hBD.trans (B2.mono hBD.size); clear B2)
      | (go_at_call 19; (with_reducible refine (H1.out _ C2).mono ?_); rintro e v3 ⟨rfl, B3⟩; have b0 := cell_keep a0 B3; have b1 := cell_keep a1 B3; have b2 := cell_keep a2 B3; have C3 : Below V.heap.size V v3 := C2.trans (B3.mono C2.size); clear B3)
      | (go_at_call 20; (with_reducible refine (H2.out _ C3).mono ?_); rintro e v4 ⟨rfl, B4⟩; have c0 := cell_keep b0 B4; have c1 := cell_keep b1 B4; have c2 := cell_keep b2 B4; have C4 := Lib.hid (HB.out.trans ((C3.trans (B4.mono C3.size)).mono HB.out.size)); clear B4))
    all_goals
      go_wp2_with fail
      go_ret
      exact ⟨by rfl, C4.out⟩
set_option maxHeartbeats 3200000 in
set_option maxRecDepth 100000 in
theorem newLaw_c (x y : Int) (w : World) :
    Calls Try.prog 3 #[.int .i64 x, .int .i64 y] w fun e w' => e = .returned (.bool true) ∧ Below w.heap.size w w' := by
  have HN := Lib.hid (new_c x y w)
  by_cases hr : 1 ≤ x ∧ x ≤ 512 ∧ 1 ≤ y ∧ y ≤ 512
  · obtain ⟨a1, a2, a3, a4⟩ := hr
    obtain ⟨v, rfl⟩ : ∃ v : Nat, x = v := ⟨x.toNat, by omega⟩
    obtain ⟨u, rfl⟩ : ∃ u : Nat, y = u := ⟨y.toNat, by omega⟩
    obtain ⟨P, hP0⟩ : ∃ P, Hid (v * u = P) := ⟨_, rfl⟩
    have hPb : P ≤ 262144 := by rw [← hP0.out]; exact area_le (by omega) (by omega)
    have hP : (v : Int) * (u : Int) = (P : Int) := by rw [← hP0.out]; exact (Int.natCast_mul v u).symm
    obtain ⟨m, hm⟩ : ∃ m, Hid ((P + 7) / 8 = m) := ⟨_, rfl⟩
    have hmb : m ≤ 32768 := by rw [← hm.out]; omega
    have d1 : ((P : Int) + 7).tdiv 8 = (m : Int) := by rw [Int.tdiv_eq_ediv_of_nonneg (by omega)]; have := hm.out; omega
    have w1 : wrap64 (m : Int) = (m : Int) := by unfold wrap64; omega
    have p1 : decide ((v : Int) < 1) = false := decide_eq_false (by omega)
    have p2 : decide ((v : Int) > 512) = false := decide_eq_false (by omega)
    have p3 : decide ((u : Int) < 1) = false := decide_eq_false (by omega)
    have p4 : decide ((u : Int) > 512) = false := decide_eq_false (by omega)
    have n1 : ((v : Int) != (v : Int)) = false := by simp
    have n2 : ((u : Int) != (u : Int)) = false := by simp
    have n3 : ((m : Int) != (m : Int)) = false := by simp
    go_enter Try.func3, Try.ntmps3
    go_wp2_with fail
    refine HN.out.mono ?_
    rintro e w2 ⟨hN, B1⟩
    obtain ⟨g, rfl, O1⟩ : ∃ g, e = .returned (.tuple #[.agg #[.int .i64 (v : Int), .int .i64 (u : Int), .slice (some ⟨g, 0, none⟩) m m], .int .i64 0]) ∧ Own 5 .u8 w.heap.size w2 (some ⟨g, 0, none⟩) m m (packP noB m) := by
      rcases hN with ⟨v', u', m', g, ev, eu, _, _, _, _, hm', rfl, ON⟩ | ⟨hno, _⟩
      · have ev : v = v' := by omega
        have eu : u = u' := by omega
        subst ev eu
        have hmm : m' = m := by rw [hm', hP0.out, hm.out]
        subst hmm
        exact ⟨g, rfl, ON⟩
      · omega
    obtain ⟨w3, w4, m3, m4, q0, q1, q2, q3, q4, q5, A4, B4, z4⟩ := new_fill2 w2 (.int .i64 (v : Int)) (.int .i64 (u : Int)) (.slice (some ⟨g, 0, none⟩) m m)
    obtain ⟨g1, hg1⟩ : ∃ g, w2.heap.size = g := ⟨_, rfl⟩
    rw [hg1] at m4 q0 q1 q2 q3 q4 q5 A4
    have C4 : Hid (Below w.heap.size w w4) := B1.trans (B4.mono B1.size)
    have L4 := Lib.hid (O1.kept B4).lst
    have x0 : w4.cell? ⟨g1, 0, none⟩ = some (.int .i64 (v : Int)) := A4.cell 0
    have x1 : w4.cell? ⟨g1, 1, none⟩ = some (.int .i64 (u : Int)) := A4.cell 1
    have x2 : w4.cell? ⟨g1, 2, none⟩ = some (.slice (some ⟨g, 0, none⟩) m m) := A4.cell 2
    clear hN B1 O1 A4 B4 z4
    go_wp2_with fail
    clear q0 q1 q2 q3 q4 q5 x0 x1 m3 m4
    go_loopw [7, 66] (fun _ iv wr => ∃ i : Nat, i ≤ m ∧ iv = .int .i64 (i : Int) ∧ wr = w4) (fun _ iv _ => m - (intOf iv).toNat)
    case atStart => exact ⟨0, Nat.zero_le _, rfl, rfl⟩
    case round =>
      obtain ⟨i, hi, rfl, rfl⟩ := hrel
      by_cases hlt : i < m
      · have hlt' : (i : Int) < (m : Int) := by omega
        have i1 := ix8 L4.out i (i : Int) rfl hlt
        have c1 : wr.cell? (pt (some ⟨g, 0, none⟩) i) = some (.int .u8 0) := by
          rw [L4.out.cell i hlt, packP_noB]
          simp [List.getD, hlt]
        go_wp2_with fail
        go_roundw
        case rel => exact ⟨i + 1, by omega, by go_num, by trivial⟩
        case measure => simp [intOf]; omega
      · obtain rfl : i = m := by omega
        have HA := Lib.hid (awake_c wr)
        go_wp2_with (go_at_call 14; (with_reducible refine HA.out.mono ?_); rintro e v2 ⟨rfl, B2⟩; have B2' := Lib.hid (C4.out.trans (B2.mono C4.out.size)); clear B2)
        go_ret
        exact ⟨rfl, B2'.out⟩
  · go_enter Try.func3, Try.ntmps3
    go_wp2_with fail
    refine HN.out.mono ?_
    rintro e w2 ⟨hN, B1⟩
    obtain rfl : e = .returned (.tuple #[.agg #[.int .i64 0, .int .i64 0, .slice none 0 0], .int .i64 4]) := by
      rcases hN with ⟨v', u', m', g, ev, eu, _, _, _, _, hm', rfl, ON⟩ | ⟨hno, rfl⟩
      · exact absurd (by omega) hr
      · rfl
    obtain ⟨w3, w4, m3, m4, q0, q1, q2, q3, q4, q5, A4, B4, z4⟩ := new_fill2 w2 (.int .i64 0) (.int .i64 0) (.slice none 0 0)
    obtain ⟨g1, hg1⟩ : ∃ g, w2.heap.size = g := ⟨_, rfl⟩
    rw [hg1] at m4 q0 q1 q2 q3 q4 q5 A4
    have C4 : Hid (Below w.heap.size w w4) := B1.trans (B4.mono B1.size)
    have x0 : w4.cell? ⟨g1, 0, none⟩ = some (.int .i64 0) := A4.cell 0
    have x1 : w4.cell? ⟨g1, 1, none⟩ = some (.int .i64 0) := A4.cell 1
    have x2 : w4.cell? ⟨g1, 2, none⟩ = some (.slice none 0 0) := A4.cell 2
    have HA := Lib.hid (awake_c w4)
    have HE : Hid (∀ W, Calls Try.prog 15 #[.agg #[.int .i64 0, .int .i64 0, .slice none 0 0], .agg #[.int .i64 0, .int .i64 0, .slice none 0 0]] W fun e w' => e = .returned (.bool true) ∧ Below W.heap.size W w') := fun W => by
      have := eqI_c 0 0 0 0 none none 0 0 0 0 [] [] W (Lst.nil _ _) (Lst.nil _ _)
      exact this
    have main : x < 1 ∨ 512 < x ∨ y < 1 ∨ 512 < y := by omega
    clear hN B1 A4 B4 z4 hr
    have p1 : (decide (x < 1) || decide (x > 512) || decide (y < 1) || decide (y > 512)) = true := by
      simp only [Bool.or_eq_true, decide_eq_true_eq]
      omega
    by_cases b1 : x < 1
    · have b1' := decide_eq_true b1
      clear p1 main
      go_wp2_with (first
        | (go_at_call 14; (with_reducible refine HA.out.mono ?_); rintro e v2 ⟨rfl, B2⟩; have y0 := cell_keep x0 B2; have y1 := cell_keep x1 B2; have y2 := cell_keep x2 B2; have B2' := Lib.hid (C4.out.trans (B2.mono C4.out.size)); clear B2)
        | (go_at_call 15; (with_reducible refine (HE.out _).mono ?_); rintro e v3 ⟨rfl, B3⟩; have B3' := Lib.hid (B2'.out.trans (B3.mono B2'.out.size)); clear B3))
      go_ret
      exact ⟨rfl, B3'.out⟩
    · have b1' : decide (x < 1) = false := decide_eq_false b1
      by_cases b2 : 512 < x
      · have b2' : decide (x > 512) = true := decide_eq_true b2
        clear p1 main
        go_wp2_with (first
          | (go_at_call 14; (with_reducible refine HA.out.mono ?_); rintro e v2 ⟨rfl, B2⟩; have y0 := cell_keep x0 B2; have y1 := cell_keep x1 B2; have y2 := cell_keep x2 B2; have B2' := Lib.hid (C4.out.trans (B2.mono C4.out.size)); clear B2)
          | (go_at_call 15; (with_reducible refine (HE.out _).mono ?_); rintro e v3 ⟨rfl, B3⟩; have B3' := Lib.hid (B2'.out.trans (B3.mono B2'.out.size)); clear B3))
        go_ret
        exact ⟨rfl, B3'.out⟩
      · have b2' : decide (x > 512) = false := decide_eq_false b2
        by_cases b3 : y < 1
        · have b3' : decide (y < 1) = true := decide_eq_true b3
          clear p1 main
          go_wp2_with (first
            | (go_at_call 14; (with_reducible refine HA.out.mono ?_); rintro e v2 ⟨rfl, B2⟩; have y0 := cell_keep x0 B2; have y1 := cell_keep x1 B2; have y2 := cell_keep x2 B2; have B2' := Lib.hid (C4.out.trans (B2.mono C4.out.size)); clear B2)
            | (go_at_call 15; (with_reducible refine (HE.out _).mono ?_); rintro e v3 ⟨rfl, B3⟩; have B3' := Lib.hid (B2'.out.trans (B3.mono B2'.out.size)); clear B3))
          go_ret
          exact ⟨rfl, B3'.out⟩
        · have b3' : decide (y < 1) = false := decide_eq_false b3
          have b4' : decide (y > 512) = true := decide_eq_true (by omega)
          clear p1 main
          go_wp2_with (first
            | (go_at_call 14; (with_reducible refine HA.out.mono ?_); rintro e v2 ⟨rfl, B2⟩; have y0 := cell_keep x0 B2; have y1 := cell_keep x1 B2; have y2 := cell_keep x2 B2; have B2' := Lib.hid (C4.out.trans (B2.mono C4.out.size)); clear B2)
            | (go_at_call 15; (with_reducible refine (HE.out _).mono ?_); rintro e v3 ⟨rfl, B3⟩; have B3' := Lib.hid (B2'.out.trans (B3.mono B2'.out.size)); clear B3))
          go_ret
          exact ⟨rfl, B3'.out⟩
end Go.Proofs.Ytpjaljjclkfkmaa
