/-
  The walk of the reference's Decode.
-/
import Derived.Test.YtpjaljjclkfkmaaImgDecA
namespace Go.Proofs.Ytpjaljjclkfkmaa
open Go.RowKit Im

set_option maxHeartbeats 6400000 in
set_option maxRecDepth 100000 in
theorem refDecode_c (ao : Option Addr) (n c : Nat) (b : List Nat) (w : World) (h : Lst .u8 w ao n c (intsN b)) (hn : n ≤ 100000) :
    Calls Try.prog 34 #[.slice ao n c] w fun e w' => DecOut w.heap.size w' b e ∧ Below w.heap.size w w' := by
  have hbl : b.length = n := by rw [← intsN_len]; exact h.len
  obtain ⟨V, e1, AV, BV, hz⟩ := new_img w 0 0 none 0 0
  have hcap := h.cap
  have hroom := h.room
  by_cases h4 : n < 4
  · have h4' : (n : Int) < 4 := by omega
    have hno : Hid (NoImg b) := fun v u bs hO _ e => by have := (enc_parts hO.w2 hO.h2 e).2.2.2; omega
    obtain ⟨W, e2, A2, k0, k1, k2, k3, k4, k5, r0, r1, r2, HB⟩ := zero_img AV
    have hB : Hid (Below w.heap.size w W) := HB.out _ _ BV (Nat.le_refl _)
    clear AV BV hz h HB A2
    go_enter Try.func34, Try.ntmps34
    go_wp2_with fail
    refine bodyPost_ret (v := .tuple #[.agg #[.int .i64 0, .int .i64 0, .slice none 0 0], .bool false]) (by simp [results, Try.results34, go_sem, r0, r1, r2]) rfl ?_
    exact ⟨Or.inr ⟨rfl, hno.out⟩, hB.out⟩
  obtain ⟨x0, hx0, g0, c0⟩ := (h.below BV).at8 0 (by omega)
  obtain ⟨x1, hx1, g1, c1⟩ := (h.below BV).at8 1 (by omega)
  obtain ⟨x2, hx2, g2, c2⟩ := (h.below BV).at8 2 (by omega)
  obtain ⟨x3, hx3, g3, c3⟩ := (h.below BV).at8 3 (by omega)
  have i0 := ix8 h 0 0 rfl (by omega)
  have i1 := ix8 h 1 1 rfl (by omega)
  have i2 := ix8 h 2 2 rfl (by omega)
  have i3 := ix8 h 3 3 rfl (by omega)
  have h4' : ¬ (n : Int) < 4 := by omega
  obtain ⟨v, hv⟩ : ∃ v, Hid (x0 * 256 + x1 = v) := ⟨_, rfl⟩
  obtain ⟨u, hu⟩ : ∃ u, Hid (x2 * 256 + x3 = u) := ⟨_, rfl⟩
  have j0 := join_two x0 x1 g0 g1
  have j1 := join_two x2 x3 g2 g3
  rw [hv.out] at j0
  rw [hu.out] at j1
  obtain ⟨DD, hDD⟩ : ∃ D, Hid (decR (b.drop 4) false = D) := ⟨_, rfl⟩
  have himg : Hid (∀ (v' u' : Nat) (bs : List Int), OkI v' u' bs → encP v' u' (bitL bs) = b → v' = v ∧ u' = u ∧ DD = bitsFrom (bitL bs) 0 (v * u)) := by
    intro v' u' bs hO he
    obtain ⟨a1, a2, a3, _⟩ := enc_parts hO.w2 hO.h2 he
    rw [intsN_get] at hx0 hx1 hx2 hx3
    have b0 := hx0.out
    have b1 := hx1.out
    have b2 := hx2.out
    have b3 := hx3.out
    rw [b0, b1, hv.out] at a1
    rw [b2, b3, hu.out] at a2
    refine ⟨a1.symm, a2.symm, ?_⟩
    rw [← hDD.out, a3, a1, a2]
  have HL := Lib.hid h
  have hBV := Lib.hid BV
  have AV := Lib.hid AV
  have hzz := Lib.hid hz
  clear h BV hz hx0 hx1 hx2 hx3
  go_enter Try.func34, Try.ntmps34
  go_wp2_with fail
  go_quiet (fail)
  clear c0 c1 c2 c3 i0 i1 i2 i3 j0 j1
  obtain ⟨U, hU⟩ : ∃ U, V.drewN nq = U := ⟨_, rfl⟩
  have AU : Hid (Arr U w.heap.size 24 [.int .i64 0, .int .i64 0, .slice none 0 0]) := by rw [← hU]; exact AV.out
  have BU : Hid (Below w.heap.size w U) := by show Below _ _ _; rw [← hU]; exact below_drewN hBV.out _
  have hUz : U.heap.size = w.heap.size + 1 := by rw [← hU]; exact hzz.out
  rw [hU]
  clear hU AV hBV e1
  by_cases hr : 1 ≤ v ∧ v ≤ 512 ∧ 1 ≤ u ∧ u ≤ 512
  · obtain ⟨a1, a2, a3, a4⟩ := hr
    obtain ⟨P, hP0⟩ : ∃ P, Hid (v * u = P) := ⟨_, rfl⟩
    have hPb : P ≤ 262144 := by rw [← hP0.out]; exact area_le a2 a4
    have hP1 : 1 ≤ P := by rw [← hP0.out]; exact Nat.mul_pos a1 a3
    have hP : (v : Int) * (u : Int) = (P : Int) := by rw [← hP0.out]; exact (Int.natCast_mul v u).symm
    obtain ⟨m, hm⟩ : ∃ m, Hid ((P + 7) / 8 = m) := ⟨_, rfl⟩
    have hmb : m ≤ 32768 := by rw [← hm.out]; omega
    have hPm : Hid (P ≤ 8 * m) := by show _ ≤ _; rw [← hm.out]; omega
    have d1 : ((P : Int) + 7).tdiv 8 = (m : Int) := by rw [Int.tdiv_eq_ediv_of_nonneg (by omega)]; have := hm.out; omega
    have w1 : wrap64 (m : Int) = (m : Int) := by unfold wrap64; omega
    have p1 : decide ((v : Int) < 1) = false := decide_eq_false (by omega)
    have p2 : decide ((v : Int) > 512) = false := decide_eq_false (by omega)
    have p3 : decide ((u : Int) < 1) = false := decide_eq_false (by omega)
    have p4 : decide ((u : Int) > 512) = false := decide_eq_false (by omega)
    have hmk := make8 m (Nat.le_trans hmb (by decide))
    obtain ⟨U1, hU1⟩ : ∃ W, U.alloc (.cells (madeCells #[.int .u8 0] m) 5) = W := ⟨_, rfl⟩
    have BU1 : Below U.heap.size U U1 := by rw [← hU1]; exact (Below.refl _ _).alloc (Nat.le_refl _) _
    have hU1z : U1.heap.size = U.heap.size + 1 := by rw [← hU1]; simp
    have O1 : Own 5 .u8 U.heap.size U1 (some ⟨U.heap.size, 0, none⟩) m m (packP (bitsD []) m) := by
      have e : (madeCells #[Value.int .u8 0] m).toList = (packP (bitsD []) m).map (Value.int .u8) := by rw [toList_madeCells_one, bitsD_nil, packP_noB, List.map_replicate]
      refine ⟨?_, fun x hx => by have := packP_bytes _ _ x hx; exact wf_u8 this.1 this.2⟩
      rw [← e, ← hU1]
      exact World.ownsRow_lit U (madeCells #[.int .u8 0] m) m (Nat.le_refl _) (Nat.le_trans hmb (by unfold maxLen; decide)) (by rw [size_madeCells, Nat.mul_one])
    obtain ⟨V3, W3, e5, e6, AI, BI, hIz, k0, k1, k2, k3, k4, k5⟩ := new_putI U1 (.int .i64 (v : Int)) (.int .i64 (u : Int)) (.slice (some ⟨U.heap.size, 0, none⟩) m m)
    have AR := (AU.out.kept BU1).kept BI
    have O1 := O1.kept BI
    have BW := (BU.out.trans (BU1.mono (by omega))).trans (BI.mono (by omega))
    have hok : Hid (∀ D : List Bool, D.length = P → OkI v u (packP (bitsD D) m)) := fun D hD => by rw [← hm.out, ← hP0.out]; exact okD a1 a2 a3 a4 (hD.trans hP0.out.symm)
    have hsame : Hid (∀ (bs : List Int), OkI v u bs → (∀ x ∈ bs, 0 ≤ x ∧ x ≤ 255) → encP v u (bitL bs) = b → bs = packP (bitsD DD) m) := fun bs hO hb he => by rw [← hm.out, ← hP0.out]; exact same_D hO hb (himg.out v u bs hO he).2.2
    have hlenD : Hid (∀ (v' u' : Nat) (bs : List Int), OkI v' u' bs → encP v' u' (bitL bs) = b → DD.length = P) := fun v' u' bs hO he => by rw [(himg.out v' u' bs hO he).2.2, bitsFrom_len, hP0.out]
    obtain ⟨gb, hgb⟩ : ∃ g, U.heap.size = g := ⟨_, rfl⟩
    obtain ⟨bx, hbx⟩ : ∃ g, U1.heap.size = g := ⟨_, rfl⟩
    have n1 : Hid (w.heap.size < gb) := by show _ < _; omega
    have n2 : Hid (gb < bx) := by show _ < _; omega
    have hD0 : Hid (DD = [] ++ decR (b.drop 4) false) := hDD.out.symm
    rw [hgb] at e6 O1 AI
    rw [hbx] at e6 AI k0 k1 k2 k3 k4 k5
    clear hU1z hUz hIz
    have hS : Hid (DecS w gb bx m v u W3 []) := ⟨BW, O1, AI, AR⟩
    have hbl2 := Lib.hid hbl
    clear BW O1 AI AR BI BU1 AU BU hbl
    have h4n : (4 : Int) ≤ (n : Int) := by omega
    have hnH := Lib.hid hn
    clear hroom hcap g0 g1 g2 g3 hn hP1
    go_wp2_with fail
    clear hU1 e5 e6 k0 k1 k2 k3 k4 k5 hmk p1 p2 p3 p4 d1 w1 hgb hbx
    have hn := hnH.out
    go_loopw [7, 8, 9] (fun nv ov iv wr => ∃ (D : List Bool) (N i : Nat) (on : Bool), N ≤ P ∧ 4 ≤ i ∧ i ≤ n ∧ nv = .int .i64 (N : Int) ∧ ov = .bool on ∧ iv = .int .i64 (i : Int) ∧ Hid (D.length = N) ∧ Hid (DD = D ++ decR (b.drop i) on) ∧ Hid (DecS w gb bx m v u wr D)) (fun _ _ iv _ => n - (intOf iv).toNat)
    case atStart => exact ⟨[], 0, 4, false, Nat.zero_le _, Nat.le_refl _, by omega, rfl, rfl, rfl, rfl, hD0, hS⟩
    case round =>
      obtain ⟨v1, hv1⟩ : ∃ y, y = wr := ⟨_, rfl⟩
      subst hv1
      clear hS hD0
      obtain ⟨D, N, i, on, hNP, h4i, hin, rfl, rfl, rfl, hDN, hDD2, HS⟩ := hrel
      by_cases hil : i < n
      · have hil2 : (i : Int) < (n : Int) := by omega
        obtain ⟨x, hx, gx, cx⟩ := (HL.out.below HS.out.1).at8 i hil
        rw [intsN_get] at hx
        have ixi := ix8 HL.out i (i : Int) rfl hil
        have hsplit : Hid (decR (b.drop i) on = List.replicate x on ++ decR (b.drop (i + 1)) (if x < 255 then !on else on)) := by
          show _ = _
          rw [drop_getD (by rw [hbl2.out]; exact hil), hx.out, decR]
        clear cx
        go_wp2_with fail
        go_loopw [7, 10] (fun nv jv wx => ∃ j K : Nat, j ≤ x ∧ K ≤ P ∧ nv = .int .i64 (K : Int) ∧ jv = .int .i64 (j : Int) ∧ Hid (K = N + j) ∧ Hid (DecS w gb bx m v u wx (D ++ List.replicate j on))) (fun _ jv _ => x - (intOf jv).toNat)
        case atStart => exact ⟨0, N, Nat.zero_le _, hNP, rfl, rfl, rfl, by rw [List.replicate_zero, List.append_nil]; exact HS⟩
        case round =>
          obtain ⟨v3, hv3⟩ : ∃ y, y = wr := ⟨_, rfl⟩
          subst hv3
          obtain ⟨j, K, hjx, hKP, rfl, rfl, hK, HJ⟩ := hrel
          obtain ⟨x', hx', gx', c3⟩ := (HL.out.below HJ.out.1).at8 i hil
          rw [intsN_get, hx.out] at hx'
          obtain rfl : x = x' := hx'.out
          clear gx' hx'
          by_cases hjl : j < x
          · have hjl2 : (j : Int) < (x : Int) := by omega
            by_cases hKl : K < P
            · have hKl2 : (K : Int) < (P : Int) := by omega
              have hK2 : Hid (K + 1 = N + (j + 1)) := by show _ = _; have := hK.out; omega
              cases on with
              | false =>
                have HJ2 : Hid (DecS w gb bx m v u v3 (D ++ List.replicate (j + 1) false)) := by
                  refine ⟨HJ.out.1, ?_, HJ.out.2.2⟩
                  rw [rep_snoc, packD_false]
                  exact HJ.out.2.1
                clear HJ
                go_wp2_with fail
                go_roundw
                case rel => exact ⟨j + 1, K + 1, by omega, by omega, by go_num, by go_num, hK2, HJ2⟩
                case measure => simp [intOf]; omega
              | true =>
                have hj1 : j + 1 ≤ x := by omega
                have hK1 : K + 1 ≤ P := by omega
                have hme : x - (j + 1) < x - j := by omega
                obtain ⟨q, r, z, uu, Z, d1, d2, w1, w2, w3, i1, c1, f1, hsf, hsf2, hZ, k2, hend, e1, e2, e3, e4⟩ := dec_set HJ.out hDN.out hK.out hKl hPm.out hmb n1.out n2.out
                clear HJ hsplit hDD2 hlenD hsame hok
                go_wp2_with fail
                clear hsf hsf2 d1 d2 w1 w2 w3 i1 c1 f1 hZ k2 e1 e2 e3 e4
                go_roundw
                case rel => exact ⟨j + 1, K + 1, hj1, hK1, by go_num, by go_num, hK2, hend⟩
                case measure => simp [intOf]; omega
            · have hKl2 : ¬ (K : Int) < (P : Int) := by omega
              have hno : Hid (NoImg b) := fun v' u' bs hO _ e => by
                have h1 := hlenD.out v' u' bs hO e
                rw [hDD2.out, hsplit.out, List.length_append, List.length_append, List.length_replicate, hDN.out] at h1
                have := hK.out
                omega
              obtain ⟨Z, m7, A2, r3, r4, r5, r6, r7, r8, r0, r1, r2, HBz⟩ := zero_img HJ.out.2.2.2
              have hB : Hid (Below w.heap.size w Z) := HBz.out _ _ HJ.out.1 (Nat.le_refl _)
              clear HBz A2 HJ
              go_wp2_with fail
              refine bodyPost_ret (v := .tuple #[.agg #[.int .i64 0, .int .i64 0, .slice none 0 0], .bool false]) (by simp [results, Try.results34, go_sem, r0, r1, r2]) rfl ?_
              exact ⟨Or.inr ⟨rfl, hno.out⟩, hB.out⟩
          · have hjl2 : ¬ (j : Int) < (x : Int) := by omega
            obtain rfl : j = x := by omega
            have hDN2 : Hid ((D ++ List.replicate j on).length = K) := by show _ = _; rw [List.length_append, List.length_replicate, hDN.out, hK.out]
            by_cases h255 : j < 255
            · have h25 : (j : Int) < 255 := by omega
              have hDD3 : Hid (DD = (D ++ List.replicate j on) ++ decR (b.drop (i + 1)) (!on)) := by
                show _ = _
                rw [hDD2.out, hsplit.out, if_pos h255, List.append_assoc]
              clear hsplit
              go_wp2_with fail
              go_roundw
              case rel => exact ⟨D ++ List.replicate j on, K, i + 1, !on, hKP, by omega, by omega, by first | rfl | go_num, by first | rfl | go_num, by go_num, hDN2, hDD3, HJ⟩
              case measure => simp [intOf]; omega
            · have h25 : ¬ (j : Int) < 255 := by omega
              have hDD3 : Hid (DD = (D ++ List.replicate j on) ++ decR (b.drop (i + 1)) on) := by
                show _ = _
                rw [hDD2.out, hsplit.out, if_neg h255, List.append_assoc]
              clear hsplit
              go_wp2_with fail
              go_roundw
              case rel => exact ⟨D ++ List.replicate j on, K, i + 1, on, hKP, by omega, by omega, by first | rfl | go_num, by first | rfl | go_num, by go_num, hDN2, hDD3, HJ⟩
              case measure => simp [intOf]; omega
      · obtain rfl : i = n := by omega
        have hDe : DD = D := by
          rw [hDD2.out, List.drop_eq_nil_of_le (by rw [hbl2.out]; exact Nat.le_refl _)]
          simp [decR]
        by_cases hNe : N = P
        · subst hNe
          have hOk := hok.out D hDN.out
          have hbits := hsame
          have k0 : v1.cell? ⟨bx, 0, none⟩ = some (.int .i64 (v : Int)) := HS.out.2.2.1.cell 0
          have k1 : v1.cell? ⟨bx, 1, none⟩ = some (.int .i64 (u : Int)) := HS.out.2.2.1.cell 1
          have k2 : v1.cell? ⟨bx, 2, none⟩ = some (.slice (some ⟨gb, 0, none⟩) m m) := HS.out.2.2.1.cell 2
          have HE := Lib.hid (refEncode_c v u (some ⟨gb, 0, none⟩) m m (packP (bitsD D) m) v1 HS.out.2.1.lst hOk)
          obtain ⟨E, hE⟩ : ∃ E, encP v u (bitL (packP (bitsD D) m)) = E := ⟨_, rfl⟩
          rw [hE] at HE
          obtain ⟨R, hR⟩ : ∃ R, decide (intsN E = intsN b) = R := ⟨_, rfl⟩
          have HQ : Hid (∀ W qo qm qd, Below w.heap.size w W → Lst .u8 W qo qm qd (intsN E) → Calls Try.prog 23 #[.slice qo qm qd, .slice ao i c] W fun e w' => e = .returned (.bool R) ∧ Below W.heap.size W w') := fun W qo qm qd hb h1 => by
            have := eqB_c qo qm qd (intsN E) ao i c (intsN b) W h1 (HL.out.below hb)
            rw [hR] at this
            exact this
          have hsz := HS.out.1.size
          have hfin : Hid (∀ W, Below v1.heap.size v1 W → Below w.heap.size w W ∧ Own 5 .u8 gb W (some ⟨gb, 0, none⟩) m m (packP (bitsD D) m) ∧ Arr W w.heap.size 24 [.int .i64 0, .int .i64 0, .slice none 0 0]) := fun W hb => ⟨HS.out.1.trans (hb.mono hsz), HS.out.2.1.kept hb, HS.out.2.2.2.kept hb⟩
          have hyes : Hid (R = true → E = b) := fun h => by rw [h] at hR; exact intsN_inj (of_decide_eq_true hR)
          have hnoo : Hid (R = false → NoImg b) := fun h v' u' bs hO hb he => by
            obtain ⟨e1, e2, _⟩ := himg.out v' u' bs hO he
            subst e1; subst e2
            have e3 := hsame.out bs hO hb he
            rw [hDe] at e3
            rw [e3, hE] at he
            rw [h] at hR
            exact (of_decide_eq_false hR) (by rw [he])
          have hby := Lib.hid (packP_bytes (bitsD D) m)
          replace hE := Lib.hid hE
          replace hOk := Lib.hid hOk
          have hgw : Hid (gb ≠ w.heap.size) := by show _ ≠ _; have := n1.out; omega
          clear HS hR hbits hDe hDD2 hok hsame hlenD hNP hsz
          cases R with
          | false =>
            have hno : Hid (NoImg b) := hnoo.out rfl
            go_wp2_with (first
              | (go_at_call 33; (with_reducible refine HE.out.mono ?_); rintro e w2 ⟨qo, qm, qd, rfl, O2, B2⟩; have L2 := Lib.hid O2.lst; have hB2 := Lib.hid B2; clear O2 B2)
              | (go_at_call 23; (with_reducible refine (HQ.out w2 qo qm qd (hfin.out w2 hB2.out).1 L2.out).mono ?_); rintro e w3 ⟨rfl, B3⟩; have hB3 := hfin.out w3 (hB2.out.trans (B3.mono hB2.out.size)); obtain ⟨Z, m7, A2, r3, r4, r5, r6, r7, r8, r0, r1, r2, HBz⟩ := zero_img hB3.2.2; have hB : Hid (Below w.heap.size w Z) := HBz.out _ _ hB3.1 (Nat.le_refl _); clear HBz A2 hB3 B3))
            refine bodyPost_ret (v := .tuple #[.agg #[.int .i64 0, .int .i64 0, .slice none 0 0], .bool false]) (by simp [results, Try.results34, go_sem, r0, r1, r2]) rfl ?_
            exact ⟨Or.inr ⟨rfl, hno.out⟩, hB.out⟩
          | true =>
            have hEb : Hid (E = b) := hyes.out rfl
            go_wp2_with (first
              | (go_at_call 33; (with_reducible refine HE.out.mono ?_); rintro e w2 ⟨qo, qm, qd, rfl, O2, B2⟩; have L2 := Lib.hid O2.lst; have hB2 := Lib.hid B2; have j0 := cell_keep k0 B2; have j1 := cell_keep k1 B2; have j2 := cell_keep k2 B2; clear O2 B2)
              | (go_at_call 23; (with_reducible refine (HQ.out w2 qo qm qd (hfin.out w2 hB2.out).1 L2.out).mono ?_); rintro e w3 ⟨rfl, B3⟩; have l0 := cell_keep j0 B3; have l1 := cell_keep j1 B3; have l2 := cell_keep j2 B3; have hB3 := hfin.out w3 (hB2.out.trans (B3.mono hB2.out.size)); obtain ⟨Z, m7, A2, GZ, hZz, q0, q1, q2, q3, q4, q5, r0, r1, r2⟩ := put_img hB3.2.2 (.int .i64 (v : Int)) (.int .i64 (u : Int)) (.slice (some ⟨gb, 0, none⟩) m m); have hB : Hid (Below w.heap.size w Z) := below_grown hB3.1 GZ hB3.1.size (Nat.le_refl _); have hO9 : Hid (Own 5 .u8 w.heap.size Z (some ⟨gb, 0, none⟩) m m (packP (bitsD D) m)) := ⟨(hB3.2.1.1.mono (by have := n1.out; omega)).kept GZ (Or.inr (fun e => hgw.out (by injection e))), hB3.2.1.2⟩; clear A2 GZ hZz hB3 B3))
            refine bodyPost_ret (v := .tuple #[.agg #[.int .i64 (v : Int), .int .i64 (u : Int), .slice (some ⟨gb, 0, none⟩) m m], .bool true]) (by simp [results, Try.results34, go_sem, r0, r1, r2]) rfl ?_
            exact ⟨Or.inl ⟨v, u, packP (bitsD D) m, gb, m, m, rfl, hOk.out, hby.out, hE.out.trans hEb.out, hO9.out⟩, hB.out⟩
        · have hno : Hid (NoImg b) := fun v' u' bs hO _ e => by
            have h1 := hlenD.out v' u' bs hO e
            rw [hDe, hDN.out] at h1
            exact hNe h1
          have e1 : ((N : Int) != (P : Int)) = true := by simp; omega
          have e2 : ((N : Int) == (P : Int)) = false := by simp; omega
          have e3 : ¬ (N : Int) = (P : Int) := by omega
          obtain ⟨Z, m7, A2, r3, r4, r5, r6, r7, r8, r0, r1, r2, HBz⟩ := zero_img HS.out.2.2.2
          have hB : Hid (Below w.heap.size w Z) := HBz.out _ _ HS.out.1 (Nat.le_refl _)
          clear HBz A2 HS hDe hDD2
          go_wp2_with fail
          refine bodyPost_ret (v := .tuple #[.agg #[.int .i64 0, .int .i64 0, .slice none 0 0], .bool false]) (by simp [results, Try.results34, go_sem, r0, r1, r2]) rfl ?_
          exact ⟨Or.inr ⟨rfl, hno.out⟩, hB.out⟩
  · have hno : Hid (NoImg b) := fun v' u' bs hO _ e => by
      obtain ⟨rfl, rfl, _⟩ := himg.out v' u' bs hO e
      exact hr ⟨hO.w1, hO.w2, hO.h1, hO.h2⟩
    obtain ⟨W, e2, A2, k0, k1, k2, k3, k4, k5, r0, r1, r2, HB⟩ := zero_img AU.out
    have hB : Hid (Below w.heap.size w W) := HB.out _ _ BU.out (Nat.le_refl _)
    clear AU BU HB A2 himg hUz
    have q0 : (0 : Int) ≤ (v : Int) := by omega
    have q1 : (0 : Int) ≤ (u : Int) := by omega
    have main : v < 1 ∨ 512 < v ∨ u < 1 ∨ 512 < u := by omega
    have fin : Hid (∀ Q, DecOut w.heap.size W b (.returned (.tuple #[.agg #[.int .i64 0, .int .i64 0, .slice none 0 0], .bool false])) ∧ Below w.heap.size w W → Q → Q) := fun _ _ q => q
    clear fin hr
    by_cases b1 : v < 1
    · have p1 : decide ((v : Int) < 1) = true := decide_eq_true (by omega)
      clear main b1
      go_wp2_with fail
      refine bodyPost_ret (v := .tuple #[.agg #[.int .i64 0, .int .i64 0, .slice none 0 0], .bool false]) (by simp [results, Try.results34, go_sem, r0, r1, r2]) rfl ?_
      exact ⟨Or.inr ⟨rfl, hno.out⟩, hB.out⟩
    by_cases b2 : 512 < v
    · have p1 : decide ((v : Int) < 1) = false := decide_eq_false (by omega)
      have p2 : decide ((v : Int) > 512) = true := decide_eq_true (by omega)
      clear main b1 b2
      go_wp2_with fail
      refine bodyPost_ret (v := .tuple #[.agg #[.int .i64 0, .int .i64 0, .slice none 0 0], .bool false]) (by simp [results, Try.results34, go_sem, r0, r1, r2]) rfl ?_
      exact ⟨Or.inr ⟨rfl, hno.out⟩, hB.out⟩
    by_cases b3 : u < 1
    · have p1 : decide ((v : Int) < 1) = false := decide_eq_false (by omega)
      have p2 : decide ((v : Int) > 512) = false := decide_eq_false (by omega)
      have p3 : decide ((u : Int) < 1) = true := decide_eq_true (by omega)
      clear main b1 b2 b3
      go_wp2_with fail
      refine bodyPost_ret (v := .tuple #[.agg #[.int .i64 0, .int .i64 0, .slice none 0 0], .bool false]) (by simp [results, Try.results34, go_sem, r0, r1, r2]) rfl ?_
      exact ⟨Or.inr ⟨rfl, hno.out⟩, hB.out⟩
    · have p1 : decide ((v : Int) < 1) = false := decide_eq_false (by omega)
      have p2 : decide ((v : Int) > 512) = false := decide_eq_false (by omega)
      have p3 : decide ((u : Int) < 1) = false := decide_eq_false (by omega)
      have p4 : decide ((u : Int) > 512) = true := decide_eq_true (by omega)
      clear main b1 b2 b3
      go_wp2_with fail
      refine bodyPost_ret (v := .tuple #[.agg #[.int .i64 0, .int .i64 0, .slice none 0 0], .bool false]) (by simp [results, Try.results34, go_sem, r0, r1, r2]) rfl ?_
      exact ⟨Or.inr ⟨rfl, hno.out⟩, hB.out⟩
end Go.Proofs.Ytpjaljjclkfkmaa
