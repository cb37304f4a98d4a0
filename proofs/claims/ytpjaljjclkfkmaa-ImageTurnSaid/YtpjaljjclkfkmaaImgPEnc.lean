/-
  The program's Encode.
-/
import Derived.Test.YtpjaljjclkfkmaaImgXorP
namespace Go.Proofs.Ytpjaljjclkfkmaa
open Go.RowKit Im

theorem two_lst (w : World) (x y : Int) (h0 : 0 ≤ x ∧ x ≤ 255) (h1 : 0 ≤ y ∧ y ≤ 255) : Lst .u8 (w.alloc (.cells #[.int .u8 x, .int .u8 y] 5)) (some ⟨w.heap.size, 0, none⟩) 2 2 [x, y] := by
  have o : Own 5 .u8 w.heap.size (w.alloc (.cells #[.int .u8 x, .int .u8 y] 5)) (some ⟨w.heap.size, 0, none⟩) 2 2 [x, y] := by
    refine ⟨World.ownsRow_lit w #[.int .u8 x, .int .u8 y] 2 (Nat.le_refl _) (by unfold maxLen; omega) rfl, ?_⟩
    intro z hz
    simp at hz
    rcases hz with rfl | rfl
    · exact wf_u8 h0.1 h0.2
    · exact wf_u8 h1.1 h1.2
  exact o.lst
theorem intsN_app (xs ys : List Nat) : intsN xs ++ intsN ys = intsN (xs ++ ys) := by simp [intsN]
set_option maxHeartbeats 3200000 in
set_option maxRecDepth 100000 in
theorem appendSide_c (B : Nat) (ro : Option Addr) (d s : Nat) (xs : List Nat) (w : World) (hB : B ≤ w.heap.size) (O : Own 5 .u8 B w ro xs.length d (intsN xs)) (hs : s ≤ 512) (hx : xs.length ≤ 1000000) :
    Calls Try.prog 46 #[.slice ro xs.length d, .int .i64 (s : Int)] w fun e w' => ∃ ro' d', e = .returned (.slice ro' (xs ++ two s).length d') ∧ Own 5 .u8 B w' ro' (xs ++ two s).length d' (intsN (xs ++ two s)) ∧ Below B w w' := by
  have q1 : (0 : Int) ≤ (s : Int) / 256 ∧ (s : Int) / 256 ≤ 255 := by omega
  have q2 : (0 : Int) ≤ (s : Int) % 256 ∧ (s : Int) % 256 ≤ 255 := by omega
  have L2 := two_lst w ((s : Int) / 256) ((s : Int) % 256) q1 q2
  obtain ⟨V, hV⟩ : ∃ V, w.alloc (.cells #[.int .u8 ((s : Int) / 256), .int .u8 ((s : Int) % 256)] 5) = V := ⟨_, rfl⟩
  rw [hV] at L2
  have BV : Below w.heap.size w V := by rw [← hV]; exact (Below.refl _ _).alloc (Nat.le_refl _) _
  have OV := O.kept BV
  have hBV : B ≤ V.heap.size := Nat.le_trans hB BV.size
  obtain ⟨N, hN⟩ : ∃ N, xs.length = N := ⟨_, rfl⟩
  have hM : (xs ++ two s).length = N + 2 := by rw [List.length_append, hN]; rfl
  have hints : intsN xs ++ [(s : Int) / 256, (s : Int) % 256] = intsN (xs ++ two s) := by
    have e : intsN (two s) = [(s : Int) / 256, (s : Int) % 256] := by
      simp only [intsN, two, List.map_cons, List.map_nil]
      rw [Nat.mod_eq_of_lt (show s / 256 < 256 by omega)]
      simp
    rw [← e, intsN_app]
  rw [hM]
  rw [hN] at OV hx ⊢
  have HO := Lib.hid OV
  have HB := Lib.hid BV
  have HI := Lib.hid hints
  have HHB := Lib.hid hB
  clear OV BV hints O hN hM hB
  go_enter Try.func46, Try.ntmps46
  go_wp2_with (at_builtin; refine wpList_appL HO.out L2 (fun e => by cases e) hBV (by omega) (by omega) rfl rfl ?_)
  intro ro2 d2 w2 O2 B2
  rw [HI.out] at O2
  have O3 := Lib.hid O2
  have B3 : Hid (Below B w w2) := (HB.out.mono HHB.out).trans B2
  clear O2 B2 L2 hBV
  go_wp2_with fail
  go_ret
  exact ⟨ro2, d2, rfl, O3.out, B3.out⟩
set_option maxHeartbeats 3200000 in
set_option maxRecDepth 100000 in
theorem appendLength_c (B : Nat) (ro : Option Addr) (d r : Nat) (xs : List Nat) (w : World) (hB : B ≤ w.heap.size) (O : Own 5 .u8 B w ro xs.length d (intsN xs)) (hr : r ≤ 1000000) (hx : xs.length ≤ 1000000) :
    Calls Try.prog 47 #[.slice ro xs.length d, .int .i64 (r : Int)] w fun e w' => ∃ ro' d', e = .returned (.slice ro' (xs ++ emit r).length d') ∧ Own 5 .u8 B w' ro' (xs ++ emit r).length d' (intsN (xs ++ emit r)) ∧ Below B w w' := by
  obtain ⟨TOT, hTOT⟩ : ∃ T, Hid (xs ++ emit r = T) := ⟨_, rfl⟩
  rw [hTOT.out]
  have hTl : Hid (TOT.length ≤ 2000001) := by
    show _ ≤ _
    rw [← hTOT.out, List.length_append]
    have := emit_len r
    omega
  have HO := Lib.hid O
  have HB := Lib.hid hB
  obtain ⟨N0, hN0⟩ : ∃ N, xs.length = N := ⟨_, rfl⟩
  rw [hN0] at HO ⊢
  have HN0 := Lib.hid hN0
  clear O hB hN0 hx
  go_enter Try.func47, Try.ntmps47
  go_wp2_with fail
  go_loopw [0, 1] (fun bv rv wx => ∃ (r2 : Nat) (xs2 : List Nat) (ro2 : Option Addr) (d2 : Nat), r2 ≤ r ∧ rv = .int .i64 (r2 : Int) ∧ bv = .slice ro2 xs2.length d2 ∧ Own 5 .u8 B wx ro2 xs2.length d2 (intsN xs2) ∧ TOT = xs2 ++ emit r2 ∧ Below B w wx) (fun _ rv _ => (intOf rv).toNat)
  case atStart => exact ⟨r, xs, ro, d, Nat.le_refl _, rfl, by rw [HN0.out], by rw [HN0.out]; exact HO.out, hTOT.out.symm, Below.refl _ _⟩
  case round =>
    clear HO HN0 xs hTOT
    obtain ⟨r2, xs2, ro2, d2, hr2, rfl, rfl, O, hT, BW⟩ := hrel
    have hsz : B ≤ wr.heap.size := Nat.le_trans HB.out BW.size
    have hxl : xs2.length ≤ 2000001 := by
      have h1 := hTl.out
      rw [hT, List.length_append] at h1
      omega
    replace hT := Lib.hid hT
    replace O := Lib.hid O
    replace BW := Lib.hid BW
    by_cases hbig : 255 ≤ r2
    · have hbig' : (255 : Int) ≤ (r2 : Int) := by omega
      have hT2 : Hid (TOT = (xs2 ++ [255]) ++ emit (r2 - 255)) := by
        show _ = _
        rw [hT.out, emit_big hbig]
        simp
      obtain ⟨r3, hr3⟩ : ∃ r, Hid (r2 - 255 = r) := ⟨_, rfl⟩
      have hsub : (r2 : Int) - 255 = (r3 : Int) := by have := hr3.out; omega
      rw [hr3.out] at hT2
      go_wp2_with (at_builtin; refine wpList_app1 (B := B) O.out hsz (by omega) (by omega) (by omega) rfl rfl ?_)
      intro a3 c3 w3 O3 b3
      rw [show (255 : Int) = ((255 : Nat) : Int) from rfl, intsN_snoc] at O3
      have B3 : Hid (Below B w w3) := BW.out.trans b3
      obtain ⟨L, hL⟩ : ∃ L, Hid (xs2.length + 1 = L) := ⟨_, rfl⟩
      have hL2 : Hid (L = (xs2 ++ [255]).length) := by show _ = _; rw [← hL.out]; simp
      rw [hL.out] at O3 ⊢
      replace O3 := Lib.hid O3
      clear b3
      go_wp2_with fail
      go_roundw
      case rel => exact ⟨r3, xs2 ++ [255], a3, c3, by have := hr3.out; omega, by go_num, by rw [hL2.out], by rw [← hL2.out]; exact O3.out, hT2.out, B3.out⟩
      case measure => simp [intOf]; have := hr3.out; omega
    · have hsm : ¬ (255 : Int) ≤ (r2 : Int) := by omega
      have hwr : IntKind.u8.wrap (r2 : Int) = (r2 : Int) := by rw [IntKind.wrap_u8]; omega
      have hmod : (r2 : Int) % 256 = (r2 : Int) := by omega
      have hT2 : Hid (TOT = xs2 ++ [r2]) := by
        show _ = _
        rw [hT.out, emit_small (by omega)]
      go_wp2_with (at_builtin; refine wpList_app1 (B := B) O.out hsz (by omega) (by omega) (by omega) rfl rfl ?_)
      intro a3 c3 w3 O3 b3
      rw [intsN_snoc] at O3
      have B3 : Hid (Below B w w3) := BW.out.trans b3
      obtain ⟨L, hL⟩ : ∃ L, Hid (xs2.length + 1 = L) := ⟨_, rfl⟩
      have hL2 : Hid (TOT.length = L) := by show _ = _; rw [hT2.out, ← hL.out]; simp
      rw [hL.out] at O3 ⊢
      rw [← hT2.out] at O3
      replace O3 := Lib.hid O3
      clear b3
      go_wp2_with fail
      go_ret
      exact ⟨a3, c3, by rw [hL2.out]; rfl, by rw [hL2.out]; exact O3.out, B3.out⟩
set_option maxHeartbeats 3200000 in
set_option maxRecDepth 100000 in
theorem enc_no (x y : Int) (ao : Option Addr) (n c : Nat) (bs : List Int) (w : World) (h : Lst .u8 w ao n c bs) (hno : okB x y bs = false) :
    Calls Try.prog 31 #[.agg #[.int .i64 x, .int .i64 y, .slice ao n c]] w fun e w' => e = .returned (.slice none 0 0) ∧ Below w.heap.size w w' := by
  obtain ⟨V1, e1, A1, B1, z1⟩ := new_img w x y ao n c
  have HV := Lib.hid (valid_c x y ao n c bs V1 (h.below B1))
  rw [hno] at HV
  have y0 : V1.cell? ⟨w.heap.size, 0, none⟩ = some (.int .i64 x) := A1.cell 0
  have y1 : V1.cell? ⟨w.heap.size, 1, none⟩ = some (.int .i64 y) := A1.cell 1
  have y2 : V1.cell? ⟨w.heap.size, 2, none⟩ = some (.slice ao n c) := A1.cell 2
  have HB := Lib.hid B1
  clear A1 B1 h hno
  go_enter Try.func31, Try.ntmps31
  go_wp2_with (go_at_call 16; refine HV.out.mono ?_; rintro e w4 ⟨rfl, B4⟩; have hB := Lib.hid (HB.out.trans (B4.mono HB.out.size)); clear B4)
  go_ret
  exact ⟨rfl, hB.out⟩
theorem encR_split (b : Bool) (l : List Bool) (run : Nat) (on : Bool) (h : b ≠ on) : encR (b :: l) run on = emit run ++ encR l 1 (!on) := by
  rw [encR, if_neg h]
theorem encR_join (b : Bool) (l : List Bool) (run : Nat) : encR (b :: l) run b = encR l (run + 1) b := by
  rw [encR, if_pos rfl]
set_option maxHeartbeats 6400000 in
set_option maxRecDepth 100000 in
theorem enc_c (v u : Nat) (ao : Option Addr) (n c : Nat) (bs : List Int) (w : World) (h : Lst .u8 w ao n c bs) (hO : OkI v u bs) :
    Calls Try.prog 31 #[.agg #[.int .i64 (v : Int), .int .i64 (u : Int), .slice ao n c]] w fun e w' => ∃ (ro : Option Addr) (d : Nat), e = .returned (.slice ro (encP v u (bitL bs)).length d) ∧ Own 5 .u8 w.heap.size w' ro (encP v u (bitL bs)).length d (intsN (encP v u (bitL bs))) ∧ Below w.heap.size w w' := by
  obtain ⟨V, e1, AV, BV, hz⟩ := new_img w v u ao n c
  have y0 : V.cell? ⟨w.heap.size, 0, none⟩ = some (.int .i64 (v : Int)) := AV.cell 0
  have y1 : V.cell? ⟨w.heap.size, 1, none⟩ = some (.int .i64 (u : Int)) := AV.cell 1
  have y2 : V.cell? ⟨w.heap.size, 2, none⟩ = some (.slice ao n c) := AV.cell 2
  have HV := Lib.hid (valid_c v u ao n c bs V (h.below BV))
  rw [okB_mk hO] at HV
  have hlen : Hid (bs.length = n) := h.len
  obtain ⟨TOT, hTOT⟩ : ∃ T, Hid (encP v u (bitL bs) = T) := ⟨_, rfl⟩
  rw [hTOT.out]
  obtain ⟨P, hP0⟩ : ∃ P, Hid (v * u = P) := ⟨_, rfl⟩
  have hPb : P ≤ 262144 := by rw [← hP0.out]; exact area_le hO.w2 hO.h2
  have hP : (v : Int) * (u : Int) = (P : Int) := by rw [← hP0.out]; exact (Int.natCast_mul v u).symm
  have hTl : Hid (TOT.length ≤ 600000) := by
    show _ ≤ _
    have := encP_len v u (bitL bs)
    rw [hTOT.out, hP0.out] at this
    omega
  have hnl : P ≤ 8 * n := by have := hO.len; rw [hP0.out, hlen.out] at this; omega
  have hnb : n ≤ 1000000 := by have := hO.len; rw [hP0.out, hlen.out] at this; omega
  have q1 := hO.w2
  have q2 := hO.h2
  have HA := Lib.hid AV
  have HB := Lib.hid BV
  have HLL : Hid (∀ W, Below w.heap.size w W → Lst .u8 W ao n c bs) := fun W hb => h.below hb
  have hI0 : Hid (TOT = two v ++ two u ++ cur (bitL bs) P 0 0 false) := by
    show _ = _
    rw [← hTOT.out]
    unfold encP cur
    rw [hP0.out, if_pos (Nat.zero_le _), Nat.sub_zero]
  clear h BV AV hO hz
  go_enter Try.func31, Try.ntmps31
  go_wp2_with (go_at_call 16; (with_reducible refine HV.out.mono ?_); rintro e w4 ⟨rfl, B4⟩; have x0 := cell_keep y0 B4; have x1 := cell_keep y1 B4; have x2 := cell_keep y2 B4; have hB4 := Lib.hid B4; clear B4)
  have x0' : w4.drew.cell? ⟨w.heap.size, 0, none⟩ = some (.int .i64 (v : Int)) := x0
  have x1' : w4.drew.cell? ⟨w.heap.size, 1, none⟩ = some (.int .i64 (u : Int)) := x1
  have x2' : w4.drew.cell? ⟨w.heap.size, 2, none⟩ = some (.slice ao n c) := x2
  have HS1 := appendSide_c w4.heap.size none 0 v [] w4.drew (Nat.le_refl _) (own_nil _ _ _ _) q1 (by simp)
  have HS2 := fun (W : World) (ro : Option Addr) (d : Nat) (hb : w4.drew.heap.size ≤ W.heap.size) (O : Own 5 .u8 w4.heap.size W ro ([] ++ two v).length d (intsN ([] ++ two v))) => appendSide_c w4.heap.size ro d u ([] ++ two v) W hb O q2 (by simp [two])
  obtain ⟨X1, hX1⟩ : ∃ X, [] ++ two v = X := ⟨_, rfl⟩
  obtain ⟨X2, hX2⟩ : ∃ X, X1 ++ two u = X := ⟨_, rfl⟩
  obtain ⟨N1, hN1⟩ : ∃ N, X1.length = N := ⟨_, rfl⟩
  obtain ⟨N2, hN2⟩ : ∃ N, Hid (X2.length = N) := ⟨_, rfl⟩
  rw [hX1, hN1] at HS1
  rw [hX1, hX2, hN1, hN2.out] at HS2
  have HXX : Hid (X2 = two v ++ two u) := by show _ = _; rw [← hX2, ← hX1]; rfl
  have HS1 : Hid (Calls Try.prog 46 #[.slice none 0 0, .int .i64 (v : Int)] w4.drew fun e w' => ∃ ro' d', e = .returned (.slice ro' N1 d') ∧ Own 5 .u8 w4.heap.size w' ro' N1 d' (intsN X1) ∧ Below w4.drew.heap.size w4.drew w') := HS1
  replace HS2 := Lib.hid HS2
  clear y0 y1 y2 x0 x1 x2 hX1 hX2 hN1
  go_region_held3 (fun w' => w'.cell? ⟨w.heap.size, 0, none⟩ = some (.int .i64 (v : Int)) ∧ w'.cell? ⟨w.heap.size, 1, none⟩ = some (.int .i64 (u : Int)) ∧ w'.cell? ⟨w.heap.size, 2, none⟩ = some (.slice ao n c)) (go_keep) (first
    | (go_at_call 46; (with_reducible refine HS1.out.mono ?_); clear HS1; rintro e w5 ⟨ro1, d1, rfl, O5, B5⟩; have t0 := cell_keep (w := w4.drew) x0' B5; have t1 := cell_keep (w := w4.drew) x1' B5; have t2 := cell_keep (w := w4.drew) x2' B5)
    | (go_at_call 46; (with_reducible refine (HS2.out w5 ro1 d1 B5.size O5).mono ?_); rintro e w6 ⟨ro2, d2, rfl, O6, B6⟩; have hB56 : Below w4.drew.heap.size w4.drew w6 := B5.trans B6; have r0 := cell_keep (w := w4.drew) x0' hB56; have r1 := cell_keep (w := w4.drew) x1' hB56; have r2 := cell_keep (w := w4.drew) x2' hB56; have hO6 := Lib.hid O6; have hB6 := Lib.hid hB56; clear O5 B5 B6 O6 hB56))
  all_goals
    have hsw4 : V.heap.size ≤ w4.heap.size := hB4.out.size
    have B06 : Hid (Below V.heap.size V w6) := (hB4.out.drew).trans (hB6.out.mono hsw4)
    have O6 : Hid (Own 5 .u8 V.heap.size w6 ro2 X2.length d2 (intsN X2)) := by rw [hN2.out]; exact ⟨hO6.out.1.mono hsw4, hO6.out.2⟩
    have hI1 : Hid (TOT = X2 ++ cur (bitL bs) P 0 0 false) := by show _ = _; rw [hI0.out, HXX.out]
    clear hO6 hB6 hI0 HV HS2 x0' x1' x2'
    go_wp2_with fail
    clear r0 r1 r2
    go_loopw [3, 4, 5, 6, 21] (fun bv rv ov _ iv wr => ∃ (i run : Nat) (on : Bool) (xs : List Nat) (ro : Option Addr) (d : Nat), i ≤ P ∧ run ≤ i ∧ iv = .int .i64 (i : Int) ∧ rv = .int .i64 (run : Int) ∧ ov = .bool on ∧ bv = .slice ro xs.length d ∧ Own 5 .u8 V.heap.size wr ro xs.length d (intsN xs) ∧ TOT = xs ++ cur (bitL bs) P i run on ∧ Below V.heap.size V wr) (fun _ _ _ _ iv _ => P - (intOf iv).toNat)
    case atStart => exact ⟨0, 0, false, X2, _, _, Nat.zero_le _, Nat.le_refl _, rfl, rfl, rfl, by rw [hN2.out], O6.out, hI1.out, B06.out⟩
    case round =>
      obtain ⟨v1, hv1⟩ : ∃ y, y = wr := ⟨_, rfl⟩
      subst hv1
      clear O6 hI1 B06
      obtain ⟨i, run, on, xs, ro, d, hi, hrun, rfl, rfl, rfl, rfl, O, hA, B⟩ := hrel
      have AA := HA.out.kept B
      have y0 : v1.cell? ⟨w.heap.size, 0, none⟩ = some (.int .i64 (v : Int)) := AA.cell 0
      have y1 : v1.cell? ⟨w.heap.size, 1, none⟩ = some (.int .i64 (u : Int)) := AA.cell 1
      have y2 : v1.cell? ⟨w.heap.size, 2, none⟩ = some (.slice ao n c) := AA.cell 2
      have hxl : xs.length ≤ 600000 := by
        have h1 := hTl.out
        rw [hA, List.length_append] at h1
        omega
      have hsz : V.heap.size ≤ v1.heap.size := B.size
      by_cases hlt : i < P
      · have hlt' : (i : Int) < (P : Int) := by omega
        have HC := isFilled_c v u ao n c i bs v1 (HLL.out _ (HB.out.trans (B.mono HB.out.size))) (by omega) hnb
        obtain ⟨b, hb⟩ : ∃ b, bitL bs i = b := ⟨_, rfl⟩
        have hA2 := hA
        rw [cur_split hlt, hb] at hA2
        rw [hb] at HC
        replace HC := Lib.hid HC
        clear hb hA
        by_cases hbo : b = on
        · subst hbo
          rw [if_pos rfl] at hA2
          replace hA2 := Lib.hid hA2
          replace O := Lib.hid O
          replace B := Lib.hid B
          clear AA
          have hbb : (b != b) = false := by cases b <;> rfl
          clear hsz
          go_wp2_with (go_at_call 38; (with_reducible refine HC.out.mono ?_); rintro e w5 ⟨rfl, B5⟩; have O5 := Lib.hid (O.out.kept B5); have B5' := Lib.hid (B.out.trans (B5.mono B.out.size)); clear B5)
          go_roundw
          case rel => exact ⟨i + 1, run + 1, b, xs, ro, d, by omega, by omega, by go_num, by go_num, rfl, rfl, O5.out, hA2.out, B5'.out⟩
          case measure => simp [intOf]; omega
        · have hbb : (b != on) = true := by cases b <;> cases on <;> simp_all
          have hbe : (b == on) = false := by cases b <;> cases on <;> simp_all
          rw [if_neg hbo, ← List.append_assoc] at hA2
          replace hA2 := Lib.hid hA2
          have HAL : Hid (∀ W, Below v1.heap.size v1 W → Calls Try.prog 47 #[.slice ro xs.length d, .int .i64 (run : Int)] W fun e w' => ∃ ro' d', e = .returned (.slice ro' (xs ++ emit run).length d') ∧ Own 5 .u8 V.heap.size w' ro' (xs ++ emit run).length d' (intsN (xs ++ emit run)) ∧ Below V.heap.size W w') := fun W hb => appendLength_c V.heap.size ro d run xs W (Nat.le_trans hsz hb.size) (O.kept hb) (by omega) (by omega)
          obtain ⟨N0, hN0⟩ : ∃ N, xs.length = N := ⟨_, rfl⟩
          obtain ⟨Y, hY⟩ : ∃ Y, xs ++ emit run = Y := ⟨_, rfl⟩
          obtain ⟨M0, hM0⟩ : ∃ M, Hid (Y.length = M) := ⟨_, rfl⟩
          rw [hN0, hY, hM0.out] at HAL
          rw [hY] at hA2
          rw [hN0]
          replace B := Lib.hid B
          clear AA
          clear O hsz hN0 hY hxl
          go_wp2_with (first
            | (go_at_call 38; (with_reducible refine HC.out.mono ?_); rintro e w5 ⟨rfl, B5⟩; have HAL5 := Lib.hid (HAL.out w5 B5); have B5' := Lib.hid (B.out.trans (B5.mono B.out.size)); clear B5)
            | (go_at_call 47; (with_reducible refine HAL5.out.mono ?_); rintro e w6 ⟨ro3, d3, rfl, O6, B6⟩; have O6' := Lib.hid O6; have B6' := Lib.hid (B5'.out.trans B6); clear O6 B6))
          go_roundw
          case rel => exact ⟨i + 1, 1, !on, Y, ro3, d3, by omega, by omega, by go_num, by go_num, rfl, by rw [hM0.out], by rw [hM0.out]; exact O6'.out, hA2.out, B6'.out⟩
          case measure => simp [intOf]; omega
      · obtain rfl : i = P := by omega
        have hA2 : Hid (xs ++ emit run = TOT) := by
          show _ = _
          rw [hA, cur_last, cur_end, List.append_nil]
        have HAL := appendLength_c V.heap.size ro d run xs v1 hsz O (by omega) (by omega)
        rw [hA2.out] at HAL
        replace HAL := Lib.hid HAL
        replace B := Lib.hid B
        obtain ⟨N0, hN0⟩ : ∃ N, xs.length = N := ⟨_, rfl⟩
        rw [hN0] at HAL ⊢
        obtain ⟨M0, hM0⟩ : ∃ M, Hid (TOT.length = M) := ⟨_, rfl⟩
        rw [hM0.out] at HAL
        clear O AA hA hsz hN0 hxl
        go_wp2_with (go_at_call 47; (with_reducible refine HAL.out.mono ?_); rintro e w6 ⟨ro3, d3, rfl, O6, B6⟩; have hO6 := Lib.hid O6; have hB6 := Lib.hid (B.out.trans B6); clear O6 B6)
        go_ret
        exact ⟨ro3, d3, by rw [hM0.out]; rfl, by rw [hM0.out]; exact ⟨hO6.out.1.mono HB.out.size, hO6.out.2⟩, HB.out.trans (hB6.out.mono HB.out.size)⟩
end Go.Proofs.Ytpjaljjclkfkmaa
