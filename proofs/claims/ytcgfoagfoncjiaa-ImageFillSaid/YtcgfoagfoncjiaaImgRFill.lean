/-
  The reference's Fill.
-/
import Derived.Test.YtcgfoagfoncjiaaImgROpen
import Derived.Test.YtcgfoagfoncjiaaImgFillMath
namespace Go.Proofs.Ytcgfoagfoncjiaa
open Go.RowKit Im

theorem Pix.base {B : Nat} {W : World} {go m oc v : Nat} {G : Nat → Nat} {f : Nat → Nat → Bool} (h : Pix B W go m oc v G f) {r : Nat} (hr : r < m) : B ≤ G r := (h.row r hr).1
set_option maxHeartbeats 6400000 in
set_option maxRecDepth 100000 in
theorem refFill_c (v u : Nat) (ao : Option Addr) (n c : Nat) (bs : List Int) (x y p q : Int) (on : Bool) (w : World) (h : Lst .u8 w ao n c bs) (hO : OkI v u bs) (x1 : -9223372036854775808 ≤ x) (x2 : x ≤ 9223372036854775807) (y1 : -9223372036854775808 ≤ y) (y2 : y ≤ 9223372036854775807) (a1 : -9223372036854775808 ≤ p) (a2 : p ≤ 9223372036854775807) (b1 : -9223372036854775808 ≤ q) (b2 : q ≤ 9223372036854775807) :
    Calls Try.prog 10 #[.agg #[.int .i64 (v : Int), .int .i64 (u : Int), .slice ao n c], .int .i64 x, .int .i64 y, .int .i64 p, .int .i64 q, .bool on] w fun e w' => ∃ gc, e = .returned (.agg #[.int .i64 (v : Int), .int .i64 (u : Int), .slice (some ⟨gc, 0, none⟩) ((v * u + 7) / 8) ((v * u + 7) / 8)]) ∧ Own 5 .u8 w.heap.size w' (some ⟨gc, 0, none⟩) ((v * u + 7) / 8) ((v * u + 7) / 8) (packP (bitsD (pxD v (flG v u bs x y p q on) (v * u))) ((v * u + 7) / 8)) ∧ Below w.heap.size w w' := by
  obtain ⟨V, e1, AV, BV, hz⟩ := new_img w v u ao n c
  obtain ⟨V2, e2, AR, BV2, hz2⟩ := new_img V 0 0 none 0 0
  have AV := AV.kept BV2
  rw [hz] at AR
  have k0 : V2.cell? ⟨w.heap.size, 0, none⟩ = some (.int .i64 (v : Int)) := AV.cell 0
  have kk : V2.cell? ⟨w.heap.size, 1, none⟩ = some (.int .i64 (u : Int)) := AV.cell 1
  have k3 : V2.cell? ⟨w.heap.size, 2, none⟩ = some (.slice ao n c) := AV.cell 2
  have HB : Hid (Below w.heap.size w V2) := BV.trans (BV2.mono (by omega))
  have c1 := hO.w1
  have c2 := hO.w2
  have c3 := hO.h1
  have c4 := hO.h2
  have hsz : Hid (V2.heap.size = w.heap.size + 2) := by show _ = _; omega
  have HOp := Lib.hid (refOpen_c v u ao n c bs V2 ((h.below BV).below BV2) hO)
  obtain ⟨F, hF⟩ : ∃ F : Nat → Nat → Bool, (fun (r c : Nat) => getP v u bs c r) = F := ⟨_, rfl⟩
  obtain ⟨E, hE⟩ : ∃ E : Nat → Nat → Bool, flG v u bs x y p q on = E := ⟨_, rfl⟩
  have hEF : Hid (∀ r c : Nat, E r c = if inP c x p && inP r y q then on else F r c) := fun r c => by rw [← hE, ← hF]; rfl
  rw [hF] at HOp
  have HW1 : Hid (∀ (W : World) (cc : Nat), cc ≤ 1000 → Calls Try.prog 21 #[.int .i64 (cc : Int), .int .i64 x, .int .i64 p] W fun e w' => e = .returned (.bool (inP cc x p)) ∧ W = w') := fun W cc hc => within_c cc x p W hc x1 x2 a1 a2
  have HW2 : Hid (∀ (W : World) (r : Nat), r ≤ 1000 → Calls Try.prog 21 #[.int .i64 (r : Int), .int .i64 y, .int .i64 q] W fun e w' => e = .returned (.bool (inP r y q)) ∧ W = w') := fun W r hc => within_c r y q W hc y1 y2 b1 b2
  have HCl : Hid (∀ (W : World) (go oc : Nat) (G : Nat → Nat), Pix V2.heap.size W go u oc v G E → Calls Try.prog 22 #[.slice (some ⟨go, 0, none⟩) u oc] W fun e w' => ∃ gc, e = .returned (.agg #[.int .i64 (v : Int), .int .i64 (u : Int), .slice (some ⟨gc, 0, none⟩) ((v * u + 7) / 8) ((v * u + 7) / 8)]) ∧ Own 5 .u8 W.heap.size w' (some ⟨gc, 0, none⟩) ((v * u + 7) / 8) ((v * u + 7) / 8) (packP (bitsD (pxD v E (v * u))) ((v * u + 7) / 8)) ∧ Below W.heap.size W w') := fun W go oc G hp => refClose_c _ go oc v u G _ W hp c1 c2 c3 c4
  have HAR := Lib.hid AR
  obtain ⟨M, hM⟩ : ∃ M, (v * u + 7) / 8 = M := ⟨_, rfl⟩
  rw [hE]
  obtain ⟨BX, hBX⟩ : ∃ X, packP (bitsD (pxD v E (v * u))) M = X := ⟨_, rfl⟩
  rw [hM, hBX] at HCl
  rw [hM, hBX]
  clear h BV BV2 AV AR hz2 hO hM hBX hE hF x1 x2 y1 y2 a1 a2 b1 b2
  go_enter Try.func10, Try.ntmps10
  go_wp2_with (go_at_call 20; (with_reducible refine HOp.out.mono ?_); rintro e w1 ⟨go, oc, G, rfl, P1, B1⟩; have hP1 := Lib.hid P1; have hB1 := Lib.hid B1; clear P1 B1)
  have H0 : Hid (Pix V2.heap.size w1 go u oc v G (mT F E 0 0) ∧ Below V2.heap.size V2 w1) := by rw [mT_zero]; exact ⟨hP1.out, hB1.out⟩
  have hyK := Lib.hid (And.intro k0 (And.intro kk k3))
  clear hP1 hB1 HOp k0 kk k3 e1 e2
  go_loopw [14] (fun rv wr => ∃ r : Nat, r ≤ u ∧ rv = .int .i64 (r : Int) ∧ Hid (Pix V2.heap.size wr go u oc v G (mT F E r 0) ∧ Below V2.heap.size V2 wr)) (fun rv _ => u - (intOf rv).toNat)
  case atStart => exact ⟨0, Nat.zero_le _, rfl, H0⟩
  case round =>
    obtain ⟨v1, hv1⟩ : ∃ y, y = wr := ⟨_, rfl⟩
    subst hv1
    clear H0
    obtain ⟨r, hr, rfl, HR⟩ := hrel
    have b1 := cell_keep hyK.out.2.1 HR.out.2
    by_cases hru : r < u
    · have hru' : (r : Int) < (u : Int) := by omega
      go_wp2_with fail
      clear b1
      go_loopw [15] (fun cv wx => ∃ cc : Nat, cc ≤ v ∧ cv = .int .i64 (cc : Int) ∧ Hid (Pix V2.heap.size wx go u oc v G (mT F E r cc) ∧ Below V2.heap.size V2 wx)) (fun cv _ => v - (intOf cv).toNat)
      case atStart => exact ⟨0, Nat.zero_le _, rfl, HR⟩
      case round =>
        obtain ⟨v2, hv2⟩ : ∃ y, y = wr := ⟨_, rfl⟩
        subst hv2
        clear HR
        obtain ⟨cc, hcc, rfl, HI⟩ := hrel
        have d0 := cell_keep hyK.out.1 HI.out.2
        by_cases hcv : cc < v
        · have hcv' : (cc : Int) < (v : Int) := by omega
          have hc1 : cc + 1 ≤ v := by omega
          have H1 := HW1.out v2 cc (by omega)
          have H2 := HW2.out v2 r (by omega)
          have hst := hEF.out r cc
          obtain ⟨R1, hR1⟩ : ∃ R, inP cc x p = R := ⟨_, rfl⟩
          obtain ⟨R2, hR2⟩ : ∃ R, inP r y q = R := ⟨_, rfl⟩
          rw [hR1] at H1 hst
          rw [hR2] at H2 hst
          replace H1 := Lib.hid H1
          replace H2 := Lib.hid H2
          clear hR1 hR2
          cases R1 with
          | false =>
            have hI2 : Hid (Pix V2.heap.size v2 go u oc v G (mT F E r (cc + 1)) ∧ Below V2.heap.size V2 v2) := by rw [← mT_same F E r cc hst]; exact HI.out
            clear hst HI
            go_wp2_with (go_at_call 21; (with_reducible refine H1.out.mono ?_); rintro e w1 ⟨rfl, rfl⟩)
            go_roundw
            case rel => exact ⟨cc + 1, by omega, by go_num, hI2⟩
            case measure => simp [intOf]; omega
          | true =>
            cases R2 with
            | false =>
              have hI2 : Hid (Pix V2.heap.size v2 go u oc v G (mT F E r (cc + 1)) ∧ Below V2.heap.size V2 v2) := by rw [← mT_same F E r cc hst]; exact HI.out
              clear hst HI
              go_wp2_with (first
                | (go_at_call 21; (with_reducible refine H1.out.mono ?_); clear H1; rintro e w1 ⟨rfl, rfl⟩)
                | (go_at_call 21; (with_reducible refine H2.out.mono ?_); clear H2; rintro e w1 ⟨rfl, rfl⟩))
              go_roundw
              case rel => exact ⟨cc + 1, by omega, by go_num, hI2⟩
              case measure => simp [intOf]; omega
            | true =>
              have hst2 : E r cc = on := hst
              obtain ⟨gr, hgr⟩ : ∃ g, G r = g := ⟨_, rfl⟩
              have hrow := HI.out.1.row r hru
              rw [hgr] at hrow
              obtain ⟨P2, G2⟩ := HI.out.1.set hru cc on
              have q0 := HI.out.1.cellAt hru hcv
              have q1 := HI.out.1.cellFz hru cc
              have q2 := HI.out.1.rowAt hru
              rw [hgr] at P2 G2 q0 q1 q2
              rw [← hst2, mT_step, hst2] at P2
              have hI2 : Hid (Pix V2.heap.size (v2.setCell ⟨gr, cc, none⟩ (.bool on)) go u oc v G (mT F E r (cc + 1)) ∧ Below V2.heap.size V2 (v2.setCell ⟨gr, cc, none⟩ (.bool on))) := ⟨P2, below_grown HI.out.2 G2 HI.out.2.size hrow.1⟩
              obtain ⟨Z, hZ⟩ : ∃ Z, v2.setCell ⟨gr, cc, none⟩ (.bool on) = Z := ⟨_, rfl⟩
              rw [hZ] at hI2
              have hix := ixO go u oc r hru
              have hix2 := ixR gr v v cc hcv
              clear hst hst2 HI hgr hrow P2 G2
              go_wp2_with (first
                | (go_at_call 21; (with_reducible refine H1.out.mono ?_); clear H1; rintro e w1 ⟨rfl, rfl⟩)
                | (go_at_call 21; (with_reducible refine H2.out.mono ?_); clear H2; rintro e w1 ⟨rfl, rfl⟩))
              go_roundw
              case rel => exact ⟨cc + 1, by omega, by go_num, hI2⟩
              case measure => simp [intOf]; omega
        · obtain rfl : cc = v := by omega
          have HI2 : Hid (Pix V2.heap.size v2 go u oc cc G (mT F E (r + 1) 0) ∧ Below V2.heap.size V2 v2) := ⟨HI.out.1.congr (fun r' c' _ hc' => by
            unfold mT
            by_cases h2 : r' < r ∨ (r' = r ∧ c' < cc)
            · rw [if_pos h2, if_pos (by omega)]
            · rw [if_neg h2, if_neg (by omega)]), HI.out.2⟩
          clear HI
          go_wp2_with fail
          go_roundw
          case rel => exact ⟨r + 1, by omega, by go_num, HI2⟩
          case measure => simp [intOf]; omega
    · obtain rfl : r = u := by omega
      have HF := HCl.out v1 go oc G (HR.out.1.congr (fun r' c' hr' _ => by unfold mT; rw [if_pos (Or.inl hr')]))
      have HAR2 := HAR.out.kept HR.out.2
      have hBw : Hid (Below w.heap.size w v1) := HB.out.trans (HR.out.2.mono HB.out.size)
      have hs1 : w.heap.size + 1 < v1.heap.size := HAR2.lt
      replace HF := Lib.hid HF
      replace HAR2 := Lib.hid HAR2
      clear HR
      go_wp2_with (go_at_call 22; (with_reducible refine HF.out.mono ?_); rintro e w5 ⟨gc, rfl, O5, B5⟩; obtain ⟨Z, m7, A2, GZ, hZz, q0, q1, q2, q3, q4, q5, r0, r1, r2⟩ := put_img (HAR2.out.kept B5) (.int .i64 (v : Int)) (.int .i64 (r : Int)) (.slice (some ⟨gc, 0, none⟩) M M); have hfin := shift_end hBw.out hs1 O5 B5 GZ; clear O5 B5 A2 GZ hZz)
      refine bodyPost_ret (v := .agg #[.int .i64 (v : Int), .int .i64 (r : Int), .slice (some ⟨gc, 0, none⟩) M M]) (by simp [results, Try.results10, go_sem, r0, r1, r2]) rfl ?_
      exact ⟨gc, rfl, hfin.out.1, hfin.out.2⟩
end Go.Proofs.Ytcgfoagfoncjiaa
