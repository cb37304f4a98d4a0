/-
  The reference's Shift.
-/
import Derived.Test.YtpjaljjclkfkmaaImgBlank
import Derived.Test.YtpjaljjclkfkmaaImgClose
import Derived.Test.YtpjaljjclkfkmaaImgReg
namespace Go.Proofs.Ytpjaljjclkfkmaa
open Go.RowKit Im

namespace Im
/-- Pixels g up to row r, and in row r up to column c. -/
def fT (g : Nat → Nat → Bool) (r c : Nat) : Nat → Nat → Bool := fun r' c' => if r' < r ∨ (r' = r ∧ c' < c) then g r' c' else false
theorem fT_zero (g : Nat → Nat → Bool) : fT g 0 0 = fun _ _ => false := by
  funext r c
  unfold fT
  rw [if_neg (by omega)]
theorem fT_step (g : Nat → Nat → Bool) (r c : Nat) : upd2 (fT g r c) r c (g r c) = fT g r (c + 1) := by
  funext r' c'
  unfold upd2 fT
  by_cases h : r' = r ∧ c' = c
  · obtain ⟨rfl, rfl⟩ := h
    rw [if_pos ⟨rfl, rfl⟩, if_pos (by omega)]
  · rw [if_neg h]
    by_cases h2 : r' < r ∨ (r' = r ∧ c' < c)
    · rw [if_pos h2, if_pos (by omega)]
    · rw [if_neg h2, if_neg (by omega)]
/-- What Shift makes of the pixels. -/
def shG (v u : Nat) (bs : List Int) (x y : Int) : Nat → Nat → Bool := fun r c => getP v u bs ((c : Int) - x) ((r : Int) - y)
end Im
theorem Pix.congr {B : Nat} {W : World} {go m oc v : Nat} {G : Nat → Nat} {f f' : Nat → Nat → Bool} (h : Pix B W go m oc v G f) (he : ∀ r c, r < m → c < v → f r c = f' r c) : Pix B W go m oc v G f' := by
  refine ⟨h.out, fun r hr => ⟨(h.row r hr).1, (h.row r hr).2.1, ?_⟩, h.inj⟩
  have e : rowB v (f r) = rowB v (f' r) := by
    unfold rowB
    apply List.map_congr_left
    intro k hk
    rw [he r k hr (List.mem_range.1 hk)]
  rw [← e]
  exact (h.row r hr).2.2
theorem Pix.drew {B : Nat} {W : World} {go m oc v : Nat} {G : Nat → Nat} {f : Nat → Nat → Bool} (h : Pix B W go m oc v G f) : Pix B W.drew go m oc v G f := ⟨h.out, h.row, h.inj⟩
/-- The cells that the round's reads want. -/
structure RwS (b3 go r gr v u : Nat) (ao : Option Addr) (n c : Nat) (W : World) : Prop where
  s0 : W.cell? ⟨b3, 0, none⟩ = some (.int .i64 (v : Int))
  s1 : W.cell? ⟨b3, 1, none⟩ = some (.int .i64 (u : Int))
  s2 : W.cell? ⟨b3, 2, none⟩ = some (.slice ao n c)
  s3 : W.cell? ⟨go, r, none⟩ = some (.slice (some ⟨gr, 0, none⟩) v v)
theorem RwS.keep {b3 go r gr v u : Nat} {ao : Option Addr} {n c : Nat} {W W' : World} (h : RwS b3 go r gr v u ao n c W) (hb : Below W.heap.size W W') : RwS b3 go r gr v u ao n c W' :=
  ⟨cell_keep h.s0 hb, cell_keep h.s1 hb, cell_keep h.s2 hb, cell_keep h.s3 hb⟩
theorem RwS.grown {b3 go r gr v u : Nat} {ao : Option Addr} {n c : Nat} {W W' : World} (h : RwS b3 go r gr v u ao n c W) (hb : W.grownBy W' (some gr)) (h1 : b3 ≠ gr) (h2 : go ≠ gr) : RwS b3 go r gr v u ao n c W' :=
  ⟨cell_grown h.s0 h1 hb, cell_grown h.s1 h1 hb, cell_grown h.s2 h1 hb, cell_grown h.s3 h2 hb⟩
theorem wr64i (d : Int) (h : -2000 ≤ d ∧ d ≤ 2000) : wrap64 d = d := by unfold wrap64; omega
theorem i64w2 (d : Int) (h : -2000 ≤ d ∧ d ≤ 2000) : IntKind.i64.wrap d = d := by rw [IntKind.wrap_i64]; omega
/-- What Close handed back lies in the result's box. -/
theorem shift_end {w v1 w5 Z : World} {gc M N : Nat} {X : List Int} (hB : Below w.heap.size w v1) (hs : w.heap.size + 1 < v1.heap.size) (O5 : Own 5 .u8 v1.heap.size w5 (some ⟨gc, 0, none⟩) M N X) (B5 : Below v1.heap.size v1 w5) (GZ : w5.grownBy Z (some (w.heap.size + 1))) : Hid (Own 5 .u8 w.heap.size Z (some ⟨gc, 0, none⟩) M N X ∧ Below w.heap.size w Z) := by
  have h1 := (World.ownsRow.lt O5.1 gc rfl).1
  have hne : gc ≠ w.heap.size + 1 := by omega
  have hb := hB.trans (B5.mono hB.size)
  exact ⟨⟨(O5.1.mono (by omega)).kept GZ (Or.inr (fun e => hne (by injection e))), O5.2⟩, below_grown hb GZ hb.size (by omega)⟩
set_option maxHeartbeats 6400000 in
set_option maxRecDepth 100000 in
theorem refShift_c (v u : Nat) (ao : Option Addr) (n c : Nat) (bs : List Int) (x y : Int) (w : World) (h : Lst .u8 w ao n c bs) (hO : OkI v u bs) :
    Calls Try.prog 27 #[.agg #[.int .i64 (v : Int), .int .i64 (u : Int), .slice ao n c], .int .i64 x, .int .i64 y] w fun e w' => ∃ gc, e = .returned (.agg #[.int .i64 (v : Int), .int .i64 (u : Int), .slice (some ⟨gc, 0, none⟩) ((v * u + 7) / 8) ((v * u + 7) / 8)]) ∧ Own 5 .u8 w.heap.size w' (some ⟨gc, 0, none⟩) ((v * u + 7) / 8) ((v * u + 7) / 8) (packP (bitsD (pxD v (shG v u bs x y) (v * u))) ((v * u + 7) / 8)) ∧ Below w.heap.size w w' := by
  obtain ⟨V, e1, AV, BV, hz⟩ := new_img w v u ao n c
  obtain ⟨V2, e2, AR, BV2, hz2⟩ := new_img V 0 0 none 0 0
  have AV := AV.kept BV2
  rw [hz] at AR
  have y0 : V2.cell? ⟨w.heap.size, 0, none⟩ = some (.int .i64 (v : Int)) := AV.cell 0
  have yy : V2.cell? ⟨w.heap.size, 1, none⟩ = some (.int .i64 (u : Int)) := AV.cell 1
  have y3 : V2.cell? ⟨w.heap.size, 2, none⟩ = some (.slice ao n c) := AV.cell 2
  have HB : Hid (Below w.heap.size w V2) := BV.trans (BV2.mono (by omega))
  have HL : Hid (∀ W, Below V2.heap.size V2 W → Lst .u8 W ao n c bs) := fun W hb => ((h.below BV).below BV2).below hb
  have a1 := hO.w1
  have a2 := hO.w2
  have a3 := hO.h1
  have a4 := hO.h2
  have hsz : Hid (V2.heap.size = w.heap.size + 2) := by show _ = _; omega
  have HBk := Lib.hid (refBlank_c v u V2 a2 a4)
  have HGet : Hid (∀ (W : World) (p q : Int), Below V2.heap.size V2 W → Calls Try.prog 20 #[.agg #[.int .i64 (v : Int), .int .i64 (u : Int), .slice ao n c], .int .i64 p, .int .i64 q] W fun e w' => e = .returned (.bool (getP v u bs p q)) ∧ Below W.heap.size W w') := fun W p q hb => refGet_c v u p q ao n c bs W (HL.out W hb) hO
  have HCl : Hid (∀ (W : World) (go : Nat) (G : Nat → Nat), Pix V2.heap.size W go u u v G (shG v u bs x y) → Calls Try.prog 44 #[.slice (some ⟨go, 0, none⟩) u u] W fun e w' => ∃ gc, e = .returned (.agg #[.int .i64 (v : Int), .int .i64 (u : Int), .slice (some ⟨gc, 0, none⟩) ((v * u + 7) / 8) ((v * u + 7) / 8)]) ∧ Own 5 .u8 W.heap.size w' (some ⟨gc, 0, none⟩) ((v * u + 7) / 8) ((v * u + 7) / 8) (packP (bitsD (pxD v (shG v u bs x y) (v * u))) ((v * u + 7) / 8)) ∧ Below W.heap.size W w') := fun W go G hp => refClose_c _ go u v u G _ W hp a1 a2 a3 a4
  have HAR := Lib.hid AR
  obtain ⟨M, hM⟩ : ∃ M, (v * u + 7) / 8 = M := ⟨_, rfl⟩
  obtain ⟨BX, hBX⟩ : ∃ X, packP (bitsD (pxD v (shG v u bs x y) (v * u))) M = X := ⟨_, rfl⟩
  rw [hM, hBX] at HCl
  rw [hM, hBX]
  have hfar : Hid (∀ r c : Nat, r < u → c < v → ¬ (-512 < x ∧ x < 512 ∧ -512 < y ∧ y < 512) → shG v u bs x y r c = false) := fun r c hr hc hn => by
    unfold shG getP
    by_cases g1 : (0 : Int) ≤ (c : Int) - x
    · by_cases g2 : (c : Int) - x < v
      · by_cases g3 : (0 : Int) ≤ (r : Int) - y
        · by_cases g4 : (r : Int) - y < u
          · omega
          · rw [decide_eq_false g4]; simp
        · rw [decide_eq_false g3]; simp
      · rw [decide_eq_false g2]; simp
    · rw [decide_eq_false g1]; simp
  clear h BV BV2 AV AR hz2 hO hM hBX
  by_cases hx : -512 < x ∧ x < 512 ∧ -512 < y ∧ y < 512
  · obtain ⟨c1, c2, c3, c4⟩ := hx
    clear hfar
    go_enter Try.func27, Try.ntmps27
    go_wp2_with (go_at_call 45; (with_reducible refine HBk.out.mono ?_); rintro e w1 ⟨go, G, rfl, P1, B1⟩; have hP1 := Lib.hid P1; have hB1 := Lib.hid B1; clear P1 B1)
    have H0 : Hid (Pix V2.heap.size w1 go u u v G (fT (shG v u bs x y) 0 0) ∧ Below V2.heap.size V2 w1) := by rw [fT_zero]; exact ⟨hP1.out, hB1.out⟩
    have hyK := Lib.hid (And.intro y0 (And.intro yy y3))
    clear hP1 hB1 HBk y0 yy y3 e1 e2
    go_loopw [8] (fun rv wr => ∃ r : Nat, r ≤ u ∧ rv = .int .i64 (r : Int) ∧ Hid (Pix V2.heap.size wr go u u v G (fT (shG v u bs x y) r 0) ∧ Below V2.heap.size V2 wr)) (fun rv _ => u - (intOf rv).toNat)
    case atStart => exact ⟨0, Nat.zero_le _, rfl, H0⟩
    case round =>
      obtain ⟨v1, hv1⟩ : ∃ y, y = wr := ⟨_, rfl⟩
      subst hv1
      clear H0
      obtain ⟨r, hr, rfl, HR⟩ := hrel
      have b1 := cell_keep hyK.out.2.1 HR.out.2
      by_cases hru : r < u
      · have hru' : (r : Int) < (u : Int) := by omega
        go_wp2_with fail
        clear b1
        go_loopw [9] (fun cv wx => ∃ cc : Nat, cc ≤ v ∧ cv = .int .i64 (cc : Int) ∧ Hid (Pix V2.heap.size wx go u u v G (fT (shG v u bs x y) r cc) ∧ Below V2.heap.size V2 wx)) (fun cv _ => v - (intOf cv).toNat)
        case atStart => exact ⟨0, Nat.zero_le _, rfl, HR⟩
        case round =>
          obtain ⟨v2, hv2⟩ : ∃ y, y = wr := ⟨_, rfl⟩
          subst hv2
          clear HR
          obtain ⟨cc, hcc, rfl, HI⟩ := hrel
          have d0 := cell_keep hyK.out.1 HI.out.2
          by_cases hcv : cc < v
          · have hcv' : (cc : Int) < (v : Int) := by omega
            have hc1 : cc + 1 ≤ v := by omega
            obtain ⟨DX, hDX⟩ : ∃ d, (cc : Int) - x = d := ⟨_, rfl⟩
            obtain ⟨DY, hDY⟩ : ∃ d, (r : Int) - y = d := ⟨_, rfl⟩
            have hx1 : -2000 ≤ DX ∧ DX ≤ 2000 := by omega
            have hy1 : -2000 ≤ DY ∧ DY ≤ 2000 := by omega
            obtain ⟨bt, hbt⟩ : ∃ b, getP v u bs DX DY = b := ⟨_, rfl⟩
            have hg : shG v u bs x y r cc = bt := by unfold shG; rw [hDX, hDY]; exact hbt
            obtain ⟨gr, hgr⟩ : ∃ g, G r = g := ⟨_, rfl⟩
            have hrow := HI.out.1.row r hru
            rw [hgr] at hrow
            have hlow := HI.out.1.low
            have hgb : w.heap.size ≠ gr := by have := hsz.out; have := hrow.1; omega
            have hSS : RwS w.heap.size go r gr v u ao n c v2.drew := ⟨d0, cell_keep hyK.out.2.1 HI.out.2.drew, cell_keep hyK.out.2.2 HI.out.2.drew, by have := HI.out.1.rowAt hru; rw [hgr] at this; exact this⟩
            have HG : Hid (∀ W, Below v2.drew.heap.size v2.drew W → Calls Try.prog 20 #[.agg #[.int .i64 (v : Int), .int .i64 (u : Int), .slice ao n c], .int .i64 DX, .int .i64 DY] W fun e w' => e = .returned (.bool bt) ∧ Below W.heap.size W w') := fun W hb => by
              have := HGet.out W DX DY (HI.out.2.drew.trans (hb.mono HI.out.2.size))
              rw [hbt] at this
              exact this
            have hend : Hid (∀ W, Below v2.drew.heap.size v2.drew W → ∃ (Z : World) (o : Bool), W.setCell ⟨gr, cc, none⟩ (.bool bt) = Z ∧ W.cell? ⟨gr, cc, none⟩ = some (.bool o) ∧ W.frozen? ⟨gr, cc, none⟩ = false ∧ W.grownBy Z (some gr) ∧ (RwS w.heap.size go r gr v u ao n c Z ∧ Hid (Pix V2.heap.size Z go u u v G (fT (shG v u bs x y) r (cc + 1)) ∧ Below V2.heap.size V2 Z))) := fun W hb => by
              have PW : Pix V2.heap.size W go u u v G (fT (shG v u bs x y) r cc) := Pix.kept (W := v2.drew) HI.out.1.drew hb
              obtain ⟨P2, G2⟩ := PW.set hru cc bt
              have q0 := PW.cellAt hru hcv
              have q1 := PW.cellFz hru cc
              rw [hgr] at P2 G2 q0 q1
              have hbW := HI.out.2.drew.trans (hb.mono HI.out.2.size)
              refine ⟨_, _, rfl, q0, q1, G2, (hSS.keep hb).grown G2 hgb (fun e => hrow.2.1 e.symm), ?_, below_grown hbW G2 hbW.size hrow.1⟩
              rw [← fT_step, hg]
              exact P2
            have hBD : Below v2.drew.heap.size v2.drew v2.drew := Below.refl _ _
            have hix := ixO go u u r hru
            have hix2 := ixR gr v v cc hcv
            have hwx := wr64i DX hx1
            have hwx2 := i64w2 DX hx1
            have hwy := wr64i DY hy1
            have hwy2 := i64w2 DY hy1
            clear hrow hlow hgr hbt hg hx1 hy1 HI hgb
            go_wp2_with fail
            clear d0
            refine wp_region_held_drew (S := RwS w.heap.size go r gr v u ao n c) (by kernel_rfl) (hSS) (fun hHeld => ?_)
            refine reg_take (i := 0) rfl (by kernel_rfl) (by kernel_rfl) (by kernel_rfl) (fun _ _ _ h => h) (by rfl) hHeld (v := ?v1) ?hy1 ?rest1
            case hy1 => (intro w' hSw; obtain ⟨s0, s1, s2, s3⟩ := id hSw; go_simp <;> try rfl)
            try simp only [Act.put, List.setIfInBounds_toArray, List.set_cons_zero, List.set_cons_succ]
            refine reg_take (i := 1) rfl (by kernel_rfl) (by kernel_rfl) (by kernel_rfl) (fun _ _ _ h => h) (by rfl) hHeld (v := ?v2) ?hy2 ?rest2
            case hy2 => (intro w' hSw; obtain ⟨s0, s1, s2, s3⟩ := id hSw; go_simp <;> try rfl)
            try simp only [Act.put, List.setIfInBounds_toArray, List.set_cons_zero, List.set_cons_succ]
            refine reg_take (i := 2) rfl (by kernel_rfl) (by kernel_rfl) (by kernel_rfl) (fun _ _ _ h => h) (by rfl) hHeld (v := ?v3) ?hy3 ?rest3
            case hy3 => (intro w' hSw; obtain ⟨s0, s1, s2, s3⟩ := id hSw; go_simp <;> try rfl)
            try simp only [Act.put, List.setIfInBounds_toArray, List.set_cons_zero, List.set_cons_succ]
            refine reg_take (i := 3) rfl (by kernel_rfl) (by kernel_rfl) (by kernel_rfl) (fun _ _ _ h => h) (by rfl) hHeld (v := ?v4) ?hy4 ?rest4
            case hy4 => (intro w' hSw; obtain ⟨s0, s1, s2, s3⟩ := id hSw; go_simp <;> try rfl)
            try simp only [Act.put, List.setIfInBounds_toArray, List.set_cons_zero, List.set_cons_succ]
            refine reg_take (i := 4) rfl (by kernel_rfl) (by kernel_rfl) (by kernel_rfl) (fun _ _ _ h => h) (by rfl) hHeld (v := ?v5) ?hy5 ?rest5
            case hy5 => (intro w' hSw; obtain ⟨s0, s1, s2, s3⟩ := id hSw; go_simp <;> try rfl)
            try simp only [Act.put, List.setIfInBounds_toArray, List.set_cons_zero, List.set_cons_succ]
            refine reg_take (i := 5) rfl (by kernel_rfl) (by kernel_rfl) (by kernel_rfl) (fun _ _ _ h => h) (by rfl) hHeld (v := ?v6) ?hy6 ?rest6
            case hy6 => (intro w' hSw; obtain ⟨s0, s1, s2, s3⟩ := id hSw; go_simp <;> try rfl)
            try simp only [Act.put, List.setIfInBounds_toArray, List.set_cons_zero, List.set_cons_succ]
            refine reg_take (i := 6) rfl (by kernel_rfl) (by kernel_rfl) (by kernel_rfl) (fun _ _ _ h => h) (by rfl) hHeld (v := ?v7) ?hy7 ?rest7
            case hy7 => (intro w' hSw; obtain ⟨s0, s1, s2, s3⟩ := id hSw; go_simp <;> try rfl)
            try simp only [Act.put, List.setIfInBounds_toArray, List.set_cons_zero, List.set_cons_succ]
            refine reg_take (i := 7) rfl (by kernel_rfl) (by kernel_rfl) (by kernel_rfl) (fun _ _ _ h => h) (by rfl) hHeld (v := ?v8) ?hy8 ?rest8
            case hy8 => (intro w' hSw; obtain ⟨s0, s1, s2, s3⟩ := id hSw; go_simp <;> try rfl)
            try simp only [Act.put, List.setIfInBounds_toArray, List.set_cons_zero, List.set_cons_succ]
            refine reg_take (i := 8) rfl (by kernel_rfl) (by kernel_rfl) (by kernel_rfl) (fun _ _ _ h => h) (by rfl) hHeld (v := ?v9) ?hy9 ?rest9
            case hy9 => (intro w' hSw; obtain ⟨s0, s1, s2, s3⟩ := id hSw; go_simp <;> try rfl)
            try simp only [Act.put, List.setIfInBounds_toArray, List.set_cons_zero, List.set_cons_succ]
            refine reg_take (i := 9) rfl (by kernel_rfl) (by kernel_rfl) (by kernel_rfl) (fun _ _ _ h => h) (by rfl) hHeld (v := ?v10) ?hy10 ?rest10
            case hy10 => (intro w' hSw; obtain ⟨s0, s1, s2, s3⟩ := id hSw; go_simp <;> try rfl)
            try simp only [Act.put, List.setIfInBounds_toArray, List.set_cons_zero, List.set_cons_succ]
            refine reg_take (i := 10) rfl (by kernel_rfl) (by kernel_rfl) (by kernel_rfl) (fun _ _ _ h => h) (by rfl) hHeld (v := ?v11) ?hy11 ?rest11
            case hy11 => (intro w' hSw; obtain ⟨s0, s1, s2, s3⟩ := id hSw; go_simp <;> try rfl)
            try simp only [Act.put, List.setIfInBounds_toArray, List.set_cons_zero, List.set_cons_succ]
            refine reg_take (i := 11) rfl (by kernel_rfl) (by kernel_rfl) (by kernel_rfl) (fun _ _ _ h => h) (by rfl) hHeld (v := ?v12) ?hy12 ?rest12
            case hy12 => (intro w' hSw; obtain ⟨s0, s1, s2, s3⟩ := id hSw; go_simp <;> try rfl)
            try simp only [Act.put, List.setIfInBounds_toArray, List.set_cons_zero, List.set_cons_succ]
            refine wpAnyH_ready (rs := [12]) (by kernel_rfl) (by simp) ?_
            refine reg_cons rfl (by rfl) (fun K hK => ?_) ?_
            · go_simp
              refine (HG.out _ hBD).mono ?_
              rintro e W1 ⟨rfl, hb1⟩
              have hBW := hBD.trans (hb1.mono hBD.size)
              refine hK.out _ _ (RwS.keep hHeld hb1) (fun hHeld => ?_)
              clear hK K
              try simp only [Act.put, List.setIfInBounds_toArray, List.set_cons_zero, List.set_cons_succ]
              refine reg_take (i := 13) rfl (by kernel_rfl) (by kernel_rfl) (by kernel_rfl) (fun _ _ _ h => h) (by rfl) hHeld (v := ?v13) ?hy13 ?rest13
              case hy13 => (intro w' hSw; obtain ⟨s0, s1, s2, s3⟩ := id hSw; go_simp <;> try rfl)
              try simp only [Act.put, List.setIfInBounds_toArray, List.set_cons_zero, List.set_cons_succ]
              refine wpAnyH_ready (rs := [14]) (by kernel_rfl) (by simp) ?_
              refine reg_cons rfl (by rfl) (fun K hK => ?_) ?_
              · obtain ⟨Z, o, hZ, q0, q1, GZ, hfin⟩ := hend.out _ hBW
                go_simp
                refine hK.out _ _ (hfin.1) (fun hHeld => ?_)
                clear hK K
                try simp only [Act.put, List.setIfInBounds_toArray, List.set_cons_zero, List.set_cons_succ]
                refine wpAnyH_done (by kernel_rfl) ?_ _
                clear hwx hwx2 hwy hwy2 hZ q0 q1 hend HG
                go_wp2_with fail
                go_roundw
                case rel => exact ⟨cc + 1, hc1, by go_num, hfin.2⟩
                case measure => simp [intOf]; omega
              exact AllReadyH.nil
            exact AllReadyH.nil
          · obtain rfl : cc = v := by omega
            have HI2 : Hid (Pix V2.heap.size v2 go u u cc G (fT (shG cc u bs x y) (r + 1) 0) ∧ Below V2.heap.size V2 v2) := ⟨HI.out.1.congr (fun r' c' _ hc' => by
              unfold fT
              by_cases h2 : r' < r ∨ (r' = r ∧ c' < cc)
              · rw [if_pos h2, if_pos (by omega)]
              · rw [if_neg h2, if_neg (by omega)]), HI.out.2⟩
            clear HI
            go_wp2_with fail
            go_roundw
            case rel => exact ⟨r + 1, by omega, by go_num, HI2⟩
            case measure => simp [intOf]; omega
      · obtain rfl : r = u := by omega
        have HF := HCl.out v1 go G (HR.out.1.congr (fun r' c' hr' _ => by unfold fT; rw [if_pos (Or.inl hr')]))
        have HAR2 := HAR.out.kept HR.out.2
        have hBw : Hid (Below w.heap.size w v1) := HB.out.trans (HR.out.2.mono HB.out.size)
        have hs1 : w.heap.size + 1 < v1.heap.size := HAR2.lt
        replace HF := Lib.hid HF
        replace HAR2 := Lib.hid HAR2
        clear HR
        go_wp2_with (go_at_call 44; (with_reducible refine HF.out.mono ?_); rintro e w5 ⟨gc, rfl, O5, B5⟩; obtain ⟨Z, m7, A2, GZ, hZz, q0, q1, q2, q3, q4, q5, r0, r1, r2⟩ := put_img (HAR2.out.kept B5) (.int .i64 (v : Int)) (.int .i64 (r : Int)) (.slice (some ⟨gc, 0, none⟩) M M); have hfin := shift_end hBw.out hs1 O5 B5 GZ; clear O5 B5 A2 GZ hZz)
        refine bodyPost_ret (v := .agg #[.int .i64 (v : Int), .int .i64 (r : Int), .slice (some ⟨gc, 0, none⟩) M M]) (by simp [results, Try.results27, go_sem, r0, r1, r2]) rfl ?_
        exact ⟨gc, rfl, hfin.out.1, hfin.out.2⟩
  · have hg : ∀ r c : Nat, r < u → c < v → shG v u bs x y r c = false := fun r c hr hc => hfar.out r c hr hc hx
    have hgH := Lib.hid hg
    clear hg hfar
    have hcs : (¬ -512 < x) ∨ (-512 < x ∧ ¬ x < 512) ∨ (-512 < x ∧ x < 512 ∧ ¬ -512 < y) ∨ (-512 < x ∧ x < 512 ∧ -512 < y ∧ ¬ y < 512) := by omega
    clear hx
    rcases hcs with c1 | ⟨c1, c2⟩ | ⟨c1, c2, c3⟩ | ⟨c1, c2, c3, c4⟩
    all_goals
      go_enter Try.func27, Try.ntmps27
      go_wp2_with (first
        | (go_at_call 45; (with_reducible refine HBk.out.mono ?_); rintro e w1 ⟨go, G, rfl, P1, B1⟩; have HF := Lib.hid (HCl.out w1 go G (P1.congr (fun r' c' hr' hc' => (hgH.out r' c' hr' hc').symm))); have HAR2 := Lib.hid (HAR.out.kept B1); have hBw : Hid (Below w.heap.size w w1) := HB.out.trans (B1.mono HB.out.size); have hs1 := Lib.hid HAR2.out.lt; clear P1 B1)
        | (go_at_call 44; (with_reducible refine HF.out.mono ?_); rintro e w5 ⟨gc, rfl, O5, B5⟩; obtain ⟨Z, m7, A2, GZ, hZz, q0, q1, q2, q3, q4, q5, r0, r1, r2⟩ := put_img (HAR2.out.kept B5) (.int .i64 (v : Int)) (.int .i64 (u : Int)) (.slice (some ⟨gc, 0, none⟩) M M); have hfin := shift_end hBw.out hs1.out O5 B5 GZ; clear O5 B5 A2 GZ hZz))
      refine bodyPost_ret (v := .agg #[.int .i64 (v : Int), .int .i64 (u : Int), .slice (some ⟨gc, 0, none⟩) M M]) (by simp [results, Try.results27, go_sem, r0, r1, r2]) rfl ?_
      exact ⟨gc, rfl, hfin.out.1, hfin.out.2⟩
end Go.Proofs.Ytpjaljjclkfkmaa
