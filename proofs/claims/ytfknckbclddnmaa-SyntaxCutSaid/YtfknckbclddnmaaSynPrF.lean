/-
  A printer: fields.
-/
import Derived.Test.YtfknckbclddnmaaSynPr
import Derived.Test.YtfknckbclddnmaaSynLs
namespace Go.Proofs.Ytfknckbclddnmaa
open Go.RowKit Lx

namespace Lx
/-- What a printing comes to: y is still to be written behind L. -/
structure StP (F : Bool) (T L y : List UInt8) (ok : Bool) : Prop where
  fit : F = fitB L y ok
  txt : T = L ++ y
theorem StP.no {F : Bool} {T L a y : List UInt8} {p q : Bool} (h : StP F T L (a ++ y) (p && q)) (hf : fitB L a p = false) : F = false := by rw [h.fit, fit_no hf]
theorem StP.yes {F : Bool} {T L a y : List UInt8} {p q : Bool} (h : StP F T L (a ++ y) (p && q)) (hf : fitB L a p = true) : StP F T (L ++ a) y q :=
  ⟨by rw [h.fit, fit_app, hf, Bool.true_and], by rw [h.txt, List.append_assoc]⟩
def sepT : Bool → List UInt8
  | true => [32]
  | false => [44, 32]
/-- The values that are still to be written, and the field's end. -/
def restT : Bool → List (List UInt8) → List UInt8
  | _, [] => [59, 10]
  | b, v :: r => sepT b ++ (valP v ++ restT false r)
theorem valsP_rest : ∀ (v : List UInt8) (r : List (List UInt8)), valsP (v :: r) ++ [59, 10] = restT true (v :: r)
  | v, [] => by
    show (32 :: valP v) ++ [59, 10] = [32] ++ (valP v ++ [59, 10])
    simp
  | v, w :: r => by
    show (32 :: valP v ++ 44 :: valsP (w :: r)) ++ [59, 10] = [32] ++ (valP v ++ ([44, 32] ++ (valP w ++ restT false r)))
    have := valsP_rest w r
    rw [List.append_assoc, List.cons_append, List.cons_append, this]
    show 32 :: (valP v ++ 44 :: ([32] ++ (valP w ++ restT false r))) = _
    simp
theorem fldP_rest {f : Fld} (h : f.vals ≠ []) : fldP f = [32, 32, 32, 32] ++ (f.key ++ restT true f.vals) := by
  obtain ⟨key, vals, line⟩ := f
  cases vals with
  | nil => exact absurd rfl h
  | cons v r =>
    show [32, 32, 32, 32] ++ key ++ valsP (v :: r) ++ [59, 10] = _
    rw [List.append_assoc, valsP_rest, List.append_assoc]
theorem fldOk_rest {f : Fld} (h : f.vals ≠ []) : fldOk f = (true && (wordB f.key && f.vals.all valOk)) := by
  obtain ⟨key, vals, line⟩ := f
  cases vals with
  | nil => exact absurd rfl h
  | cons v r => simp [fldOk]
end Lx
/-- Blocks below B. -/
def lowF (B : Nat) : World → Nat → Prop := fun _ k => k < B
theorem stable_low (B : Nat) : Stable (lowF B) := fun _ _ _ _ _ h => h
theorem keeps_low {B : Nat} {w w' : World} (h : Below B w w') : Keeps (lowF B) w w' := fun k _ hk => h.block k hk
/-- What a method of the printer hands back: F, and if so, T is written. -/
def PrEnd (B g : Nat) (F : Bool) (T : List UInt8) (w w' : World) (e : Ending) : Prop := e = .returned (.bool F) ∧ (F = true → Bld B g T w') ∧ Below B w w' ∧ Kp g w w'
theorem PrEnd.out {B g : Nat} {l x : List UInt8} {ok : Bool} {w w' : World} {e : Ending} (h : PrEnd B g (fitB l x ok) (l ++ x) w w' e) : PrOut B g l x ok w w' e := ⟨_, rfl, h⟩
theorem StrL.ix' {S : World → Nat → Prop} {w : World} {ao : Option Addr} {n c : Nat} {vs : List (List UInt8)} (h : StrL S w ao n c vs) (i : Nat) (hi : i < n) (W : World) :
    (Instr.indexAt 40 (.slice ao n c) (.int .i64 (i : Int))).run Try.prog W = .ok (.pointer (some (pt ao i))) W := by
  have := run_ix Try.underlying40 (show (Try.prog.info? 9).map (·.size) = some 1 by kernel_rfl) h i hi W
  rwa [Nat.mul_one] at this

set_option maxHeartbeats 3200000 in
set_option maxRecDepth 100000 in
theorem prField_c (B g : Nat) (l : List UInt8) (f : Fld) (vo : Option Addr) (vn vc : Nat) (z : Int) (w : World) (h : Bld B g l w) (hB : B ≤ w.heap.size) (SL : StrL (lowF B) w vo vn vc f.vals) (hk : f.key.length ≤ 1000000) (hv : ∀ v ∈ f.vals, v.length ≤ 1000000) :
    Calls Try.prog 63 #[.pointer (some ⟨g, 0, none⟩), .agg #[.string (stg f.key), .slice vo vn vc, .int .i64 z]] w fun e w' => PrEnd B g (fitB l (fldP f) (fldOk f)) (l ++ fldP f) w w' e := by
  obtain ⟨V, e1, AV, BV, hz⟩ := new_box w 42 [.string (stg f.key), .slice vo vn vc, .int .i64 z]
  have hn := SL.len
  have hcap := Row.cap SL
  have hroom := Row.room SL
  have y0 : V.cell? ⟨w.heap.size, 0, none⟩ = some (.string (stg f.key)) := AV.cell 0
  have y1 : V.cell? ⟨w.heap.size, 1, none⟩ = some (.slice vo vn vc) := AV.cell 1
  by_cases h0 : f.vals = []
  · have hF : Hid (fitB l (fldP f) (fldOk f) = false) := by
      show _ = _
      unfold fitB fldOk
      rw [h0]
      simp
    have hn0 : vn = 0 := by rw [← hn, h0]; rfl
    subst hn0
    have HB := Lib.hid (BV.mono hB)
    have HK : Hid (Kp g w V) := Kp.below BV
    obtain ⟨F, hF2⟩ : ∃ F, Hid (fitB l (fldP f) (fldOk f) = F) := ⟨_, rfl⟩
    rw [hF2.out] at hF ⊢
    clear h SL AV BV hz h0 hn
    go_enter Try.func63, Try.ntmps63
    go_wp2_with fail
    go_ret
    refine ⟨by rw [hF.out]; rfl, fun e => ?_, HB.out, HK.out⟩
    rw [hF.out] at e
    cases e
  · have hpos : vn ≠ 0 := by
      intro e
      rw [e] at hn
      exact h0 (List.eq_nil_of_length_eq_zero hn)
    have hpos' : ((vn : Int) == 0) = false := by rw [beq_eq_false_iff_ne]; omega
    obtain ⟨F, hF⟩ : ∃ F, Hid (fitB l (fldP f) (fldOk f) = F) := ⟨_, rfl⟩
    obtain ⟨T, hT⟩ : ∃ T, Hid (l ++ fldP f = T) := ⟨_, rfl⟩
    have hS : StP F T l ([32, 32, 32, 32] ++ (f.key ++ restT true f.vals)) (true && (wordB f.key && f.vals.all valOk)) :=
      ⟨by rw [← hF.out, fldP_rest h0, fldOk_rest h0], by rw [← hT.out, fldP_rest h0]⟩
    rw [hF.out, hT.out]
    have HP := Lib.hid (prPlain_c B g l (stg [32, 32, 32, 32]) V (h.low BV) (by omega) (by decide))
    have HB := Lib.hid (BV.mono hB)
    have HK : Hid (Kp g w V) := Kp.below BV
    have SL := Lib.hid (SL.keep (stable_low B) (keeps_low (BV.mono hB)))
    have hS := Lib.hid hS
    have hBz : Hid (B ≤ V.heap.size) := by show _ ≤ _; omega
    have AV := Lib.hid AV
    obtain ⟨fb, hfb⟩ : ∃ fb, w.heap.size = fb := ⟨_, rfl⟩
    have hfB : Hid (B ≤ fb) := by show _ ≤ _; omega
    rw [hfb] at y0 y1 AV
    have hgfb : Hid (fb ≠ g) := fun e => by have := Bld.lt h; omega
    clear h BV hz h0 hF hT hn hpos
    go_enter Try.func63, Try.ntmps63
    go_wp2_with fail
    refine HP.out.mono ?_
    rintro e w1 ⟨b1, hb1, rfl, h1, B1, K1⟩
    have hS1 := hS.out
    cases b1 with
    | false =>
      have hF : F = false := hS1.no hb1.symm
      subst hF
      have HB := Lib.hid (HB.out.trans B1)
      have HK := Lib.hid (HK.out.trans K1)
      clear hb1 h1 B1 K1 hS1 HP
      go_wp2_with fail
      go_ret
      exact ⟨rfl, fun e => (by cases e), HB.out, HK.out⟩
    | true =>
      have hS := Lib.hid (hS1.yes hb1.symm)
      have h1 := h1 rfl
      have AV := Lib.hid (K1.arr fb _ _ (by decide) hgfb.out AV.out)
      have y0 : w1.cell? ⟨fb, 0, none⟩ = some (.string (stg f.key)) := AV.out.cell 0
      have y1 : w1.cell? ⟨fb, 1, none⟩ = some (.slice vo vn vc) := AV.out.cell 1
      have SL := Lib.hid (SL.out.keep (stable_low B) (keeps_low B1))
      have HB := Lib.hid (HB.out.trans B1)
      have HK := Lib.hid (HK.out.trans K1)
      have hBz : Hid (B ≤ w1.heap.size) := Nat.le_trans hBz.out B1.size
      have HW := prWord_c B g _ (stg f.key) w1 h1 hBz.out (by rw [← bys_len, bys_stg]; exact hk)
      rw [bys_stg] at HW
      have HW := Lib.hid HW
      clear hb1 h1 B1 K1 hS1 HP
      go_wp2_with fail
      refine HW.out.mono ?_
      rintro e w2 ⟨b2, hb2, rfl, h2, B2, K2⟩
      have hS1 := hS.out
      cases b2 with
      | false =>
        have hF : F = false := hS1.no hb2.symm
        subst hF
        have HB := Lib.hid (HB.out.trans B2)
        have HK := Lib.hid (HK.out.trans K2)
        clear hb2 h2 B2 K2 hS1 HW
        go_wp2_with fail
        go_ret
        exact ⟨rfl, fun e => (by cases e), HB.out, HK.out⟩
      | true =>
        have hS := Lib.hid (hS1.yes hb2.symm)
        have h2' := Lib.hid (h2 rfl)
        have AV := Lib.hid (K2.arr fb _ _ (by decide) hgfb.out AV.out)
        have y1 : w2.cell? ⟨fb, 1, none⟩ = some (.slice vo vn vc) := AV.out.cell 1
        have SL := Lib.hid (SL.out.keep (stable_low B) (keeps_low B2))
        have HB := Lib.hid (HB.out.trans B2)
        have HK := Lib.hid (HK.out.trans K2)
        have hBz : Hid (B ≤ w2.heap.size) := Nat.le_trans hBz.out B2.size
        clear hb2 h2 B2 K2 hS1 HW
        go_wp2_with fail
        go_loopw [5, 7, 27] (fun sv _ iv wr => ∃ (j : Nat) (first : Bool) (L : List UInt8), j ≤ vn ∧ iv = .int .i64 (j : Int) ∧ sv = .string (stg (sepT first)) ∧ Bld B g L wr ∧ StP F T L (restT first (f.vals.drop j)) ((f.vals.drop j).all valOk) ∧ StrL (lowF B) wr vo vn vc f.vals ∧ Below B w wr ∧ Kp g w wr ∧ B ≤ wr.heap.size) (fun _ _ iv _ => vn - (intOf iv).toNat)
        case atStart => exact ⟨0, true, _, by omega, rfl, rfl, h2'.out, hS.out, SL.out, HB.out, HK.out, hBz.out⟩
        case round =>
          clear hS h2' AV y1 SL HB HK hBz
          obtain ⟨j, first, L, hj, rfl, rfl, hL, hS, SL, HB, HK, hBz⟩ := hrel
          have hS := Lib.hid hS
          have HB := Lib.hid HB
          have HK := Lib.hid HK
          by_cases hlt : j < vn
          · have hlt' : (j : Int) < (vn : Int) := by omega
            have x1 := SL.ix' j hlt
            obtain ⟨v, hv1⟩ : ∃ v, f.vals[j]? = some v := ⟨_, List.getElem?_eq_getElem (by rw [SL.len]; exact hlt)⟩
            have a1 := SL.at j v hv1
            have hvl : v.length ≤ 1000000 := hv v (List.mem_of_getElem? hv1)
            have hd : f.vals.drop j = v :: f.vals.drop (j + 1) := by
              obtain ⟨hl, he⟩ := List.getElem?_eq_some_iff.1 hv1
              rw [List.drop_eq_getElem_cons hl, he]
            have hS : Hid (StP F T L (sepT first ++ (valP v ++ restT false (f.vals.drop (j + 1)))) (true && (valOk v && (f.vals.drop (j + 1)).all valOk))) := by
              have := hS.out
              rw [hd, List.all_cons] at this
              exact this
            have HP := prPlain_c B g L (stg (sepT first)) wr hL hBz (by cases first <;> decide)
            rw [bys_stg] at HP
            have HP := Lib.hid HP
            have SL := Lib.hid SL
            have hBz := Lib.hid hBz
            obtain ⟨SV, hSV⟩ : ∃ S, Hid (stg v = S) := ⟨_, rfl⟩
            rw [hSV.out] at a1
            clear hL hv1 hd
            go_wp2_with fail
            refine HP.out.mono ?_
            rintro e w3 ⟨b3, hb3, rfl, h3, B3, K3⟩
            have hS1 := hS.out
            cases b3 with
            | false =>
              have hF : F = false := hS1.no hb3.symm
              subst hF
              have HB := Lib.hid (HB.out.trans B3)
              have HK := Lib.hid (HK.out.trans K3)
              clear hb3 h3 B3 K3 hS1 HP
              go_wp2_with fail
              go_ret
              exact ⟨rfl, fun e => (by cases e), HB.out, HK.out⟩
            | true =>
              have hS := Lib.hid (hS1.yes hb3.symm)
              have SL := Lib.hid (SL.out.keep (stable_low B) (keeps_low B3))
              have HB := Lib.hid (HB.out.trans B3)
              have HK := Lib.hid (HK.out.trans K3)
              have hBz : Hid (B ≤ w3.heap.size) := Nat.le_trans hBz.out B3.size
              have HV := prValue_c B g _ SV w3 (h3 rfl) hBz.out (by rw [← hSV.out, ← bys_len, bys_stg]; exact hvl)
              rw [show bys SV = v by rw [← hSV.out, bys_stg]] at HV
              have HV := Lib.hid HV
              clear hb3 h3 B3 K3 hS1 HP
              go_wp2_with fail
              refine HV.out.mono ?_
              rintro e w4 ⟨b4, hb4, rfl, h4, B4, K4⟩
              have hS1 := hS.out
              cases b4 with
              | false =>
                have hF : F = false := hS1.no hb4.symm
                subst hF
                have HB := Lib.hid (HB.out.trans B4)
                have HK := Lib.hid (HK.out.trans K4)
                clear hb4 h4 B4 K4 hS1 HV
                go_wp2_with fail
                go_ret
                exact ⟨rfl, fun e => (by cases e), HB.out, HK.out⟩
              | true =>
                have hS := Lib.hid (hS1.yes hb4.symm)
                have SL := Lib.hid (SL.out.keep (stable_low B) (keeps_low B4))
                have HB := Lib.hid (HB.out.trans B4)
                have HK := Lib.hid (HK.out.trans K4)
                have hBz : Hid (B ≤ w4.heap.size) := Nat.le_trans hBz.out B4.size
                have h4' := Lib.hid (h4 rfl)
                clear hb4 h4 B4 K4 hS1 HV
                go_wp2_with fail
                go_roundw
                case rel => exact ⟨j + 1, false, _, by omega, by go_num, rfl, h4'.out, hS.out, SL.out, HB.out, HK.out, hBz.out⟩
                case measure => simp [intOf]; omega
          · obtain rfl : j = vn := by omega
            have hd : f.vals.drop j = [] := List.drop_of_length_le (by rw [SL.len]; exact Nat.le_refl _)
            have hS : Hid (StP F T L [59, 10] true) := by
              have := hS.out
              rw [hd] at this
              cases first <;> exact this
            have HP := prPlain_c B g L (stg [59, 10]) wr hL hBz (by decide)
            rw [bys_stg] at HP
            have HP := Lib.hid HP
            clear hL hd SL
            go_wp2_with fail
            refine HP.out.mono ?_
            rintro e w3 ⟨b3, hb3, rfl, h3, B3, K3⟩
            have hF : F = b3 := by rw [hb3, hS.out.fit]
            subst hF
            have HB := Lib.hid (HB.out.trans B3)
            have HK := Lib.hid (HK.out.trans K3)
            have h3 := Lib.hid h3
            clear hb3 B3 K3 HP
            go_wp2_with fail
            go_ret
            refine ⟨rfl, fun e => ?_, HB.out, HK.out⟩
            rw [hS.out.txt]
            exact h3.out e
end Go.Proofs.Ytfknckbclddnmaa
