/-
  syntax.Print.
-/
import Derived.Test.YtfknckbclddnmaaSynPrB
namespace Go.Proofs.Ytfknckbclddnmaa
open Go.RowKit Lx

theorem Row.bound {S : World → Nat → Prop} {s n c : Nat} {w : World} {ao : Option Addr} {us : List Value} (h : Row S s w ao n c us) : Row (lowF w.heap.size) s w ao n c us :=
  ⟨h.len, h.cap, h.room, h.isSome, fun i u hu => ⟨(h.cell i u hu).1, World.block_lt_of_cell? w _ (h.cell i u hu).1⟩⟩
theorem FCells.bound {q : Bool} {S : World → Nat → Prop} {w : World} : ∀ {fs : List Fld} {us : List Value}, FCells q S w fs us → FCells q (lowF w.heap.size) w fs us
  | [], _, h => h
  | _ :: _, _, ⟨vo, vn, vc, z, r, h1, h2, h3, h4⟩ => ⟨vo, vn, vc, z, r, h1, Row.bound h2, h3, FCells.bound h4⟩
theorem FldL.bound {q : Bool} {S : World → Nat → Prop} {w : World} {ao : Option Addr} {n c : Nat} {fs : List Fld} (h : FldL q S w ao n c fs) : FldL q (lowF w.heap.size) w ao n c fs := by
  obtain ⟨us, h1, h2⟩ := h
  exact ⟨us, h1.bound, h2.bound⟩
theorem BCells.bound {q : Bool} {S : World → Nat → Prop} {w : World} : ∀ {bs : List Blc} {us : List Value}, BCells q S w bs us → BCells q (lowF w.heap.size) w bs us
  | [], _, h => h
  | _ :: _, _, ⟨vo, vn, vc, z, r, h1, h2, h3, h4⟩ => ⟨vo, vn, vc, z, r, h1, FldL.bound h2, h3, BCells.bound h4⟩
theorem BlkL.bound {q : Bool} {S : World → Nat → Prop} {w : World} {ao : Option Addr} {n c : Nat} {bs : List Blc} (h : BlkL q S w ao n c bs) : BlkL q (lowF w.heap.size) w ao n c bs := by
  obtain ⟨us, h1, h2⟩ := h
  exact ⟨us, h1.bound, h2.bound⟩
theorem low_mono {B B' : Nat} (h : B ≤ B') {w : World} : ∀ k, lowF B w k → lowF B' w k := fun _ hk => Nat.lt_of_lt_of_le hk h
namespace Lx
def blksR (bs : List Blc) : List UInt8 := bs.flatMap blkP ++ [125, 10]
theorem srcP_rest (s : Src) : srcP s = [101, 108, 101, 99, 116, 105, 111, 110, 32] ++ (quoP s.title ++ ([32, 123, 10] ++ blksR s.blks)) := by
  unfold srcP blksR elec
  simp
theorem srcOk_rest (s : Src) : srcOk s = (true && (s.title.all plainB && (true && s.blks.all blkOk))) := by
  unfold srcOk
  simp
end Lx

set_option maxHeartbeats 6400000 in
set_option maxRecDepth 100000 in
theorem prDef_c (q0 : Bool) (B g : Nat) (l : List UInt8) (s : Src) (fo : Option Addr) (fn fc : Nat) (w : World) (h : Bld B g l w) (hB : B ≤ w.heap.size) (FL : BlkL q0 (lowF B) w fo fn fc s.blks) (hsm : smallS s) :
    Calls Try.prog 23 #[.pointer (some ⟨g, 0, none⟩), .agg #[.string (stg s.title), .slice fo fn fc]] w fun e w' => PrEnd B g (fitB l (srcP s) (srcOk s)) (l ++ srcP s) w w' e := by
  obtain ⟨V, e1, AV, BV, hz⟩ := new_box w 24 [.string (stg s.title), .slice fo fn fc]
  obtain ⟨hcap, hroom⟩ := FL.caps
  obtain ⟨hs1, hs3⟩ := hsm
  obtain ⟨F, hF⟩ : ∃ F, Hid (fitB l (srcP s) (srcOk s) = F) := ⟨_, rfl⟩
  obtain ⟨T, hT⟩ : ∃ T, Hid (l ++ srcP s = T) := ⟨_, rfl⟩
  have hS : StP F T l ([101, 108, 101, 99, 116, 105, 111, 110, 32] ++ (quoP s.title ++ ([32, 123, 10] ++ blksR s.blks))) (true && (s.title.all plainB && (true && s.blks.all blkOk))) :=
    ⟨by rw [← hF.out, srcP_rest, srcOk_rest], by rw [← hT.out, srcP_rest]⟩
  rw [hF.out, hT.out]
  have HP := Lib.hid (prPlain_c B g l (stg [101, 108, 101, 99, 116, 105, 111, 110, 32]) V (h.low BV) (by omega) (by decide))
  have HB := Lib.hid (BV.mono hB)
  have HK : Hid (Kp g w V) := Kp.below BV
  have FL := Lib.hid (FL.keep (stable_low B) (keeps_low (BV.mono hB)))
  have hS := Lib.hid hS
  have hBz : Hid (B ≤ V.heap.size) := by show _ ≤ _; omega
  obtain ⟨fb, hfb⟩ : ∃ fb, w.heap.size = fb := ⟨_, rfl⟩
  rw [hfb] at AV
  have AV := Lib.hid AV
  have hgfb : Hid (fb ≠ g) := fun e => by have := Bld.lt h; omega
  clear h BV hz hF hT
  go_enter Try.func23, Try.ntmps23
  go_wp2_with fail
  refine HP.out.mono ?_
  rintro e w1 ⟨b1, hb1, rfl, h1, B1, K1⟩
  have hS1 := hS.out
  cases b1 with
  | false =>
    have hF : F = false := hS1.no hb1.symm
    subst hF
    have HB := Lib.hid (HB.out.trans B1)
    have HK := Lib.hid (HK.out.trans K1)
    clear hb1 h1 B1 K1 hS1 HP
    go_wp2_with fail
    go_ret
    exact ⟨rfl, fun e => (by cases e), HB.out, HK.out⟩
  | true =>
    have hS := Lib.hid (hS1.yes hb1.symm)
    have AV := Lib.hid (K1.arr fb _ _ (by decide) hgfb.out AV.out)
    have y0 : w1.cell? ⟨fb, 0, none⟩ = some (.string (stg s.title)) := AV.out.cell 0
    have FL := Lib.hid (FL.out.keep (stable_low B) (keeps_low B1))
    have HB := Lib.hid (HB.out.trans B1)
    have HK := Lib.hid (HK.out.trans K1)
    have hBz : Hid (B ≤ w1.heap.size) := Nat.le_trans hBz.out B1.size
    have HW := prQuoted_c B g _ (stg s.title) w1 (h1 rfl) hBz.out (by rw [← bys_len, bys_stg]; exact hs1)
    rw [show bys (stg s.title) = s.title from bys_stg _] at HW
    have HW := Lib.hid HW
    clear hb1 h1 B1 K1 hS1 HP
    go_wp2_with fail
    clear y0
    refine HW.out.mono ?_
    rintro e w2 ⟨b2, hb2, rfl, h2, B2, K2⟩
    have hS1 := hS.out
    cases b2 with
    | false =>
      have hF : F = false := hS1.no hb2.symm
      subst hF
      have HB := Lib.hid (HB.out.trans B2)
      have HK := Lib.hid (HK.out.trans K2)
      clear hb2 h2 B2 K2 hS1 HW
      go_wp2_with fail
      go_ret
      exact ⟨rfl, fun e => (by cases e), HB.out, HK.out⟩
    | true =>
      have hS := Lib.hid (hS1.yes hb2.symm)
      have AV := Lib.hid (K2.arr fb _ _ (by decide) hgfb.out AV.out)
      have FL := Lib.hid (FL.out.keep (stable_low B) (keeps_low B2))
      have HB := Lib.hid (HB.out.trans B2)
      have HK := Lib.hid (HK.out.trans K2)
      have hBz : Hid (B ≤ w2.heap.size) := Nat.le_trans hBz.out B2.size
      have HM := prPlain_c B g _ (stg [32, 123, 10]) w2 (h2 rfl) hBz.out (by decide)
      rw [show bys (stg [32, 123, 10]) = [32, 123, 10] from rfl] at HM
      have HM := Lib.hid HM
      clear hb2 h2 B2 K2 hS1 HW
      go_wp2_with fail
      refine HM.out.mono ?_
      rintro e w5 ⟨b5, hb5, rfl, h5, B5, K5⟩
      have hS1 := hS.out
      cases b5 with
      | false =>
        have hF : F = false := hS1.no hb5.symm
        subst hF
        have HB := Lib.hid (HB.out.trans B5)
        have HK := Lib.hid (HK.out.trans K5)
        clear hb5 h5 B5 K5 hS1 HM
        go_wp2_with fail
        go_ret
        exact ⟨rfl, fun e => (by cases e), HB.out, HK.out⟩
      | true =>
        have hS := Lib.hid (hS1.yes hb5.symm)
        have AV := Lib.hid (K5.arr fb _ _ (by decide) hgfb.out AV.out)
        have y2 : w5.cell? ⟨fb, 1, none⟩ = some (.slice fo fn fc) := AV.out.cell 1
        have FL := Lib.hid (FL.out.keep (stable_low B) (keeps_low B5))
        have HB := Lib.hid (HB.out.trans B5)
        have HK := Lib.hid (HK.out.trans K5)
        have hBz : Hid (B ≤ w5.heap.size) := Nat.le_trans hBz.out B5.size
        have h5' := Lib.hid (h5 rfl)
        clear hb5 h5 B5 K5 hS1 HM
        go_wp2_with fail
        clear y2
        go_loopw [6, 25] (fun _ iv wr => ∃ (j : Nat) (L : List UInt8), j ≤ fn ∧ iv = .int .i64 (j : Int) ∧ Bld B g L wr ∧ StP F T L (blksR (s.blks.drop j)) ((s.blks.drop j).all blkOk) ∧ BlkL q0 (lowF B) wr fo fn fc s.blks ∧ Below B w wr ∧ Kp g w wr ∧ B ≤ wr.heap.size) (fun _ iv _ => fn - (intOf iv).toNat)
        case atStart => exact ⟨0, _, by omega, rfl, h5'.out, hS.out, FL.out, HB.out, HK.out, hBz.out⟩
        case round =>
          clear hS h5' AV FL HB HK hBz
          obtain ⟨j, L, hj, rfl, hL, hS, FL, HB, HK, hBz⟩ := hrel
          have hS := Lib.hid hS
          have HB := Lib.hid HB
          have HK := Lib.hid HK
          by_cases hlt : j < fn
          · have hlt' : (j : Int) < (fn : Int) := by omega
            obtain ⟨f, a, vo, vn, vc, z2, hf, x1, a1, a2, a3, a4, SL, _⟩ := FL.get j hlt
            have hd := get_drop hf
            have hS : Hid (StP F T L (blkP f ++ blksR (s.blks.drop (j + 1))) (blkOk f && (s.blks.drop (j + 1)).all blkOk)) := by
              have := hS.out
              rw [hd, List.all_cons] at this
              unfold blksR at this ⊢
              rw [List.flatMap_cons, List.append_assoc] at this
              exact this
            obtain ⟨V1, e2, A1, B1, hz1⟩ := new_box wr 39 [.string (stg f.kind), .string (stg f.name), .slice vo vn vc, .int .i64 z2]
            have B1' := B1.mono hBz
            have p0 : V1.cell? ⟨wr.heap.size, 0, none⟩ = some (.string (stg f.kind)) := A1.cell 0
            have p1 : V1.cell? ⟨wr.heap.size, 1, none⟩ = some (.string (stg f.name)) := A1.cell 1
            have p2 : V1.cell? ⟨wr.heap.size, 2, none⟩ = some (.slice vo vn vc) := A1.cell 2
            have p3 : V1.cell? ⟨wr.heap.size, 3, none⟩ = some (.int .i64 z2) := A1.cell 3
            have HP := Lib.hid (prBlock_c q0 B g L f vo vn vc z2 V1 (hL.low B1) (by omega) (SL.keep (stable_low B) (keeps_low B1')) (hs3 f (List.mem_of_getElem? hf)))
            have FL := Lib.hid (FL.keep (stable_low B) (keeps_low B1'))
            have HB := Lib.hid (HB.out.trans B1')
            have HK := Lib.hid (HK.out.trans (Kp.below B1))
            have hBz : Hid (B ≤ V1.heap.size) := by show _ ≤ _; omega
            clear hL hf hd A1 B1 B1' hz1 SL
            go_wp2_with fail
            clear e2 a1 a2 a3 a4 p0 p1 p2 p3 x1
            refine HP.out.mono ?_
            rintro e w6 ⟨rfl, h6, B6, K6⟩
            obtain ⟨b6, hb6⟩ : ∃ b, fitB L (blkP f) (blkOk f) = b := ⟨_, rfl⟩
            rw [hb6] at h6 ⊢
            have hS1 := hS.out
            cases b6 with
            | false =>
              have hF : F = false := hS1.no hb6
              subst hF
              have HB := Lib.hid (HB.out.trans B6)
              have HK := Lib.hid (HK.out.trans K6)
              clear hb6 h6 B6 K6 hS1 HP
              go_wp2_with fail
              go_ret
              exact ⟨rfl, fun e => (by cases e), HB.out, HK.out⟩
            | true =>
              have hS := Lib.hid (hS1.yes hb6)
              have FL := Lib.hid (FL.out.keep (stable_low B) (keeps_low B6))
              have HB := Lib.hid (HB.out.trans B6)
              have HK := Lib.hid (HK.out.trans K6)
              have hBz : Hid (B ≤ w6.heap.size) := Nat.le_trans hBz.out B6.size
              have h6' := Lib.hid (h6 rfl)
              clear hb6 h6 B6 K6 hS1 HP
              go_wp2_with fail
              go_roundw
              case rel => exact ⟨j + 1, _, by omega, by go_num, h6'.out, hS.out, FL.out, HB.out, HK.out, hBz.out⟩
              case measure => simp [intOf]; omega
          · obtain rfl : j = fn := by omega
            have hd : s.blks.drop j = [] := List.drop_of_length_le (by rw [FL.len]; exact Nat.le_refl _)
            have hS : Hid (StP F T L [125, 10] true) := by
              have := hS.out
              rw [hd] at this
              exact this
            have HP := prPlain_c B g L (stg [125, 10]) wr hL hBz (by decide)
            rw [bys_stg] at HP
            have HP := Lib.hid HP
            clear hL hd FL
            go_wp2_with fail
            refine HP.out.mono ?_
            rintro e w3 ⟨b3, hb3, rfl, h3, B3, K3⟩
            have hF : F = b3 := by rw [hb3, hS.out.fit]
            subst hF
            have HB := Lib.hid (HB.out.trans B3)
            have HK := Lib.hid (HK.out.trans K3)
            have h3 := Lib.hid h3
            clear hb3 B3 K3 HP
            go_wp2_with fail
            go_ret
            refine ⟨rfl, fun e => ?_, HB.out, HK.out⟩
            rw [hS.out.txt]
            exact h3.out e

namespace Lx
/-- Can the definition be printed? -/
def okP (s : Src) : Bool := srcOk s && decide ((srcP s).length ≤ 20000)
theorem fit_okP (s : Src) : fitB [] (srcP s) (srcOk s) = okP s := by
  unfold fitB okP
  simp
theorem srcP_ne (s : Src) : srcP s ≠ [] := by rw [srcP_rest]; simp
end Lx
/-- What Print hands back. -/
def PrintOut (s : Src) (e : Ending) : Prop := e = .returned (.tuple #[.string (if okP s then stg (srcP s) else ⟨#[]⟩), .bool (okP s)])
set_option maxHeartbeats 3200000 in
set_option maxRecDepth 100000 in
theorem pPrint_c (q0 : Bool) (S : World → Nat → Prop) (s : Src) (fo : Option Addr) (fn fc : Nat) (w : World) (FL : BlkL q0 S w fo fn fc s.blks) (hsm : smallS s) :
    Calls Try.prog 14 #[.agg #[.string (stg s.title), .slice fo fn fc]] w fun e w' => PrintOut s e ∧ Below w.heap.size w w' := by
  obtain ⟨V, e1, AV, BV, hz⟩ := new_box w 24 [.string (stg s.title), .slice fo fn fc]
  have hIB := Lib.fresh_isBuilder 65 5 V
  obtain ⟨U, e2, AU, BU, hz2⟩ := new_box V 65 [.pointer none, .slice none 0 0]
  have hbld : Bld V.heap.size V.heap.size [] U := ⟨by rw [← e2]; exact hIB, by decide⟩
  have FLU := (FL.bound.keep (stable_low _) (keeps_low BV)).keep (stable_low w.heap.size) (keeps_below _ BU)
  have AV := AV.kept BU
  obtain ⟨g, hg⟩ : ∃ g, V.heap.size = g := ⟨_, rfl⟩
  rw [hg] at hbld hz2
  have HD := prDef_c q0 g g [] s fo fn fc U hbld (by omega) (FLU.mono (low_mono (by omega))) hsm
  rw [fit_okP, List.nil_append] at HD
  have HD := Lib.hid HD
  have HB : Hid (Below w.heap.size w U) := BV.trans (BU.mono (by omega))
  have y0 : U.cell? ⟨w.heap.size, 0, none⟩ = some (.string (stg s.title)) := AV.cell 0
  have y1 : U.cell? ⟨w.heap.size, 1, none⟩ = some (.slice fo fn fc) := AV.cell 1
  have hle : Hid (w.heap.size ≤ g) := by show _ ≤ _; omega
  unfold PrintOut
  obtain ⟨F, hF⟩ : ∃ F, Hid (okP s = F) := ⟨_, rfl⟩
  rw [hF.out] at HD ⊢
  have hne := Lib.hid (srcP_ne s)
  obtain ⟨T, hT⟩ : ∃ T, Hid (srcP s = T) := ⟨_, rfl⟩
  rw [hT.out] at HD hne ⊢
  clear hIB AU BU BV FL FLU AV hbld hz hz2
  go_enter Try.func14, Try.ntmps14
  go_wp2_with fail
  clear e1 e2 y0 y1
  refine HD.out.mono ?_
  rintro e w1 ⟨rfl, h1, B1, _⟩
  have HB := Lib.hid (HB.out.trans (B1.mono hle.out))
  cases F with
  | false =>
    clear h1 B1 HD
    go_wp2_with fail
    go_ret2
    exact ⟨rfl, HB.out⟩
  | true =>
    have hb := h1 rfl
    have HS := Lib.hid (bldString_c g g T w1 hb.1 hne.out)
    clear h1 B1 HD hb
    go_wp2_with fail
    refine HS.out.mono ?_
    rintro e w2 ⟨rfl, B2⟩
    have HB := Lib.hid (HB.out.trans (B2.mono hle.out))
    clear HS B2
    go_wp2_with fail
    go_ret2
    exact ⟨rfl, HB.out⟩
end Go.Proofs.Ytfknckbclddnmaa
