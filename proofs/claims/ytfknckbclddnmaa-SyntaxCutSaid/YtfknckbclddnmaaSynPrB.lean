/-
  A printer: blocks.
-/
import Derived.Test.YtfknckbclddnmaaSynPrF
namespace Go.Proofs.Ytfknckbclddnmaa
open Go.RowKit Lx

theorem pt_nx (ao : Option Addr) (i k : Nat) : (⟨(pt ao i).block, (pt ao i).off + (k + 1), none⟩ : Addr) = pt ao (i + (k + 1)) := by
  have h : (pt ao i).add (k + 1) = pt ao (i + (k + 1)) := Addr.add_add _ _ _
  rw [← h]
  rfl
/-- Field i of a list, as a walk asks for it: its address, what the index makes of it, its three cells. -/
theorem FldL.get {q : Bool} {S : World → Nat → Prop} {w : World} {ao : Option Addr} {n c : Nat} {fs : List Fld} (h : FldL q S w ao n c fs) (i : Nat) (hi : i < n) : ∃ (f : Fld) (a : Addr) (vo : Option Addr) (vn vc : Nat) (z : Int), fs[i]? = some f ∧
    (∀ W, (Instr.indexAt 37 (.slice ao n c) (.int .i64 (i : Int))).run Try.prog W = .ok (.pointer (some a)) W) ∧
    w.cell? a = some (.string (stg f.key)) ∧ w.cell? ⟨a.block, a.off + 1, none⟩ = some (.slice vo vn vc) ∧ w.cell? ⟨a.block, a.off + 2, none⟩ = some (.int .i64 z) ∧ StrL S w vo vn vc f.vals ∧ (q = true → z = (f.line : Int)) := by
  obtain ⟨f, hf⟩ : ∃ f, fs[i]? = some f := ⟨_, List.getElem?_eq_getElem (by rw [h.len]; exact hi)⟩
  obtain ⟨h1, ⟨vo, vn, vc, h2, h3⟩, z, h4, h5⟩ := h.at i f hf
  obtain ⟨us, hr, _⟩ := h
  exact ⟨f, pt ao (i * 3), vo, vn, vc, z, hf, run_ix Try.underlying37 (show (Try.prog.info? 42).map (·.size) = some 3 by kernel_rfl) hr i hi, h1, by rw [pt_nx ao (i * 3) 0]; exact h2, by rw [pt_nx ao (i * 3) 1]; exact h4, h3, h5⟩
/-- The same for blocks: four cells. -/
theorem BlkL.get {q : Bool} {S : World → Nat → Prop} {w : World} {ao : Option Addr} {n c : Nat} {bs : List Blc} (h : BlkL q S w ao n c bs) (i : Nat) (hi : i < n) : ∃ (b : Blc) (a : Addr) (fo : Option Addr) (fn fc : Nat) (z : Int), bs[i]? = some b ∧
    (∀ W, (Instr.indexAt 22 (.slice ao n c) (.int .i64 (i : Int))).run Try.prog W = .ok (.pointer (some a)) W) ∧
    w.cell? a = some (.string (stg b.kind)) ∧ w.cell? ⟨a.block, a.off + 1, none⟩ = some (.string (stg b.name)) ∧ w.cell? ⟨a.block, a.off + 2, none⟩ = some (.slice fo fn fc) ∧ w.cell? ⟨a.block, a.off + 3, none⟩ = some (.int .i64 z) ∧ FldL q S w fo fn fc b.flds ∧ (q = true → z = (b.line : Int)) := by
  obtain ⟨b, hb⟩ : ∃ f, bs[i]? = some f := ⟨_, List.getElem?_eq_getElem (by rw [h.len]; exact hi)⟩
  obtain ⟨h1, h2, ⟨fo, fn, fc, h3, h4⟩, z, h5, h6⟩ := h.at i b hb
  obtain ⟨us, hr, _⟩ := h
  exact ⟨b, pt ao (i * 4), fo, fn, fc, z, hb, run_ix Try.underlying22 (show (Try.prog.info? 39).map (·.size) = some 4 by kernel_rfl) hr i hi, h1, by rw [pt_nx ao (i * 4) 0]; exact h2, by rw [pt_nx ao (i * 4) 1]; exact h3, by rw [pt_nx ao (i * 4) 2]; exact h5, h4, h6⟩
theorem FldL.caps {q : Bool} {S : World → Nat → Prop} {w : World} {ao : Option Addr} {n c : Nat} {fs : List Fld} (h : FldL q S w ao n c fs) : n ≤ c ∧ c ≤ 9223372036854775807 := by
  obtain ⟨us, hr, _⟩ := h
  exact ⟨hr.cap, hr.room⟩
theorem BlkL.caps {q : Bool} {S : World → Nat → Prop} {w : World} {ao : Option Addr} {n c : Nat} {bs : List Blc} (h : BlkL q S w ao n c bs) : n ≤ c ∧ c ≤ 9223372036854775807 := by
  obtain ⟨us, hr, _⟩ := h
  exact ⟨hr.cap, hr.room⟩
namespace Lx
/-- Texts that are not too long. -/
def smallF (f : Fld) : Prop := f.key.length ≤ 1000000 ∧ ∀ v ∈ f.vals, v.length ≤ 1000000
def smallB (b : Blc) : Prop := b.kind.length ≤ 1000000 ∧ b.name.length ≤ 1000000 ∧ ∀ f ∈ b.flds, smallF f
def smallS (s : Src) : Prop := s.title.length ≤ 1000000 ∧ ∀ b ∈ s.blks, smallB b
theorem get_drop {α : Type} {l : List α} {i : Nat} {a : α} (h : l[i]? = some a) : l.drop i = a :: l.drop (i + 1) := by
  obtain ⟨hl, he⟩ := List.getElem?_eq_some_iff.1 h
  rw [List.drop_eq_getElem_cons hl, he]
def fldsR (fs : List Fld) : List UInt8 := fs.flatMap fldP ++ [32, 32, 125, 10]
theorem blkP_rest (b : Blc) : blkP b = [32, 32] ++ (b.kind ++ (nameP b.name ++ ([32, 123, 10] ++ fldsR b.flds))) := by
  unfold blkP fldsR
  simp only [List.append_assoc]
theorem blkOk_rest (b : Blc) : blkOk b = (true && (wordB b.kind && ((decide (b.name = []) || wordB b.name) && (true && b.flds.all fldOk)))) := by
  unfold blkOk
  simp [Bool.and_assoc]
end Lx

set_option maxHeartbeats 6400000 in
set_option maxRecDepth 100000 in
theorem prBlock_c (q0 : Bool) (B g : Nat) (l : List UInt8) (bl : Blc) (fo : Option Addr) (fn fc : Nat) (z : Int) (w : World) (h : Bld B g l w) (hB : B ≤ w.heap.size) (FL : FldL q0 (lowF B) w fo fn fc bl.flds) (hsm : smallB bl) :
    Calls Try.prog 41 #[.pointer (some ⟨g, 0, none⟩), .agg #[.string (stg bl.kind), .string (stg bl.name), .slice fo fn fc, .int .i64 z]] w fun e w' => PrEnd B g (fitB l (blkP bl) (blkOk bl)) (l ++ blkP bl) w w' e := by
  obtain ⟨V, e1, AV, BV, hz⟩ := new_box w 39 [.string (stg bl.kind), .string (stg bl.name), .slice fo fn fc, .int .i64 z]
  obtain ⟨hcap, hroom⟩ := FL.caps
  obtain ⟨hs1, hs2, hs3⟩ := hsm
  obtain ⟨F, hF⟩ : ∃ F, Hid (fitB l (blkP bl) (blkOk bl) = F) := ⟨_, rfl⟩
  obtain ⟨T, hT⟩ : ∃ T, Hid (l ++ blkP bl = T) := ⟨_, rfl⟩
  have hS : StP F T l ([32, 32] ++ (bl.kind ++ (nameP bl.name ++ ([32, 123, 10] ++ fldsR bl.flds)))) (true && (wordB bl.kind && ((decide (bl.name = []) || wordB bl.name) && (true && bl.flds.all fldOk)))) :=
    ⟨by rw [← hF.out, blkP_rest, blkOk_rest], by rw [← hT.out, blkP_rest]⟩
  rw [hF.out, hT.out]
  have HP := Lib.hid (prPlain_c B g l (stg [32, 32]) V (h.low BV) (by omega) (by decide))
  have HB := Lib.hid (BV.mono hB)
  have HK : Hid (Kp g w V) := Kp.below BV
  have FL := Lib.hid (FL.keep (stable_low B) (keeps_low (BV.mono hB)))
  have hS := Lib.hid hS
  have hBz : Hid (B ≤ V.heap.size) := by show _ ≤ _; omega
  obtain ⟨fb, hfb⟩ : ∃ fb, w.heap.size = fb := ⟨_, rfl⟩
  rw [hfb] at AV
  have AV := Lib.hid AV
  have hgfb : Hid (fb ≠ g) := fun e => by have := Bld.lt h; omega
  clear h BV hz hF hT
  go_enter Try.func41, Try.ntmps41
  go_wp2_with fail
  refine HP.out.mono ?_
  rintro e w1 ⟨b1, hb1, rfl, h1, B1, K1⟩
  have hS1 := hS.out
  cases b1 with
  | false =>
    have hF : F = false := hS1.no hb1.symm
    subst hF
    have HB := Lib.hid (HB.out.trans B1)
    have HK := Lib.hid (HK.out.trans K1)
    clear hb1 h1 B1 K1 hS1 HP
    go_wp2_with fail
    go_ret
    exact ⟨rfl, fun e => (by cases e), HB.out, HK.out⟩
  | true =>
    have hS := Lib.hid (hS1.yes hb1.symm)
    have AV := Lib.hid (K1.arr fb _ _ (by decide) hgfb.out AV.out)
    have y0 : w1.cell? ⟨fb, 0, none⟩ = some (.string (stg bl.kind)) := AV.out.cell 0
    have FL := Lib.hid (FL.out.keep (stable_low B) (keeps_low B1))
    have HB := Lib.hid (HB.out.trans B1)
    have HK := Lib.hid (HK.out.trans K1)
    have hBz : Hid (B ≤ w1.heap.size) := Nat.le_trans hBz.out B1.size
    have HW := prWord_c B g _ (stg bl.kind) w1 (h1 rfl) hBz.out (by rw [← bys_len, bys_stg]; exact hs1)
    rw [bys_stg] at HW
    have HW := Lib.hid HW
    clear hb1 h1 B1 K1 hS1 HP
    go_wp2_with fail
    clear y0
    refine HW.out.mono ?_
    rintro e w2 ⟨b2, hb2, rfl, h2, B2, K2⟩
    have hS1 := hS.out
    cases b2 with
    | false =>
      have hF : F = false := hS1.no hb2.symm
      subst hF
      have HB := Lib.hid (HB.out.trans B2)
      have HK := Lib.hid (HK.out.trans K2)
      clear hb2 h2 B2 K2 hS1 HW
      go_wp2_with fail
      go_ret
      exact ⟨rfl, fun e => (by cases e), HB.out, HK.out⟩
    | true =>
      have hS := Lib.hid (hS1.yes hb2.symm)
      have AV := Lib.hid (K2.arr fb _ _ (by decide) hgfb.out AV.out)
      have y1 : w2.cell? ⟨fb, 1, none⟩ = some (.string (stg bl.name)) := AV.out.cell 1
      have FL := Lib.hid (FL.out.keep (stable_low B) (keeps_low B2))
      have HB := Lib.hid (HB.out.trans B2)
      have HK := Lib.hid (HK.out.trans K2)
      have hBz : Hid (B ≤ w2.heap.size) := Nat.le_trans hBz.out B2.size
      have h2' := Lib.hid (h2 rfl)
      clear hb2 h2 B2 K2 hS1 HW
      -- the name, if there is one
      by_cases h0 : bl.name = []
      · have hn : (stg bl.name) = ⟨#[]⟩ := by rw [h0]; rfl
        rw [hn] at y1
        have hS : Hid (StP F T (l ++ [32, 32] ++ bl.kind) ([32, 123, 10] ++ fldsR bl.flds) (true && bl.flds.all fldOk)) := by
          have := hS.out
          rw [h0] at this
          show StP _ _ _ _ _
          simpa [nameP] using this
        have hL : Bld B g (l ++ [32, 32] ++ bl.kind) w2 := h2'.out
        obtain ⟨wN, hwN⟩ : ∃ x, x = w2 := ⟨_, rfl⟩
        obtain ⟨L0, hL0⟩ : ∃ x : List UInt8, Hid (l ++ [32, 32] ++ bl.kind = x) := ⟨l ++ [32, 32] ++ bl.kind, Lib.hid rfl⟩
        subst hwN
        rw [hL0.out] at hS hL
        clear h0 hn h2'
        have HM := prPlain_c B g L0 (stg [32, 123, 10]) wN hL hBz.out (by decide)
        rw [bys_stg] at HM
        have HM := Lib.hid HM
        clear hL
        go_wp2_with fail
        refine HM.out.mono ?_
        rintro e w5 ⟨b5, hb5, rfl, h5, B5, K5⟩
        have hS1 := hS.out
        cases b5 with
        | false =>
          have hF : F = false := hS1.no hb5.symm
          subst hF
          have HB := Lib.hid (HB.out.trans B5)
          have HK := Lib.hid (HK.out.trans K5)
          clear hb5 h5 B5 K5 hS1 HM
          go_wp2_with fail
          go_ret
          exact ⟨rfl, fun e => (by cases e), HB.out, HK.out⟩
        | true =>
          have hS := Lib.hid (hS1.yes hb5.symm)
          have AV := Lib.hid (K5.arr fb _ _ (by decide) hgfb.out AV.out)
          have y2 : w5.cell? ⟨fb, 2, none⟩ = some (.slice fo fn fc) := AV.out.cell 2
          have FL := Lib.hid (FL.out.keep (stable_low B) (keeps_low B5))
          have HB := Lib.hid (HB.out.trans B5)
          have HK := Lib.hid (HK.out.trans K5)
          have hBz : Hid (B ≤ w5.heap.size) := Nat.le_trans hBz.out B5.size
          have h5' := Lib.hid (h5 rfl)
          clear hb5 h5 B5 K5 hS1 HM
          go_wp2_with fail
          clear y2
          go_loopw [6, 38] (fun _ iv wr => ∃ (j : Nat) (L : List UInt8), j ≤ fn ∧ iv = .int .i64 (j : Int) ∧ Bld B g L wr ∧ StP F T L (fldsR (bl.flds.drop j)) ((bl.flds.drop j).all fldOk) ∧ FldL q0 (lowF B) wr fo fn fc bl.flds ∧ Below B w wr ∧ Kp g w wr ∧ B ≤ wr.heap.size) (fun _ iv _ => fn - (intOf iv).toNat)
          case atStart => exact ⟨0, _, by omega, rfl, h5'.out, hS.out, FL.out, HB.out, HK.out, hBz.out⟩
          case round =>
            clear hS h5' AV FL HB HK hBz
            obtain ⟨j, L, hj, rfl, hL, hS, FL, HB, HK, hBz⟩ := hrel
            have hS := Lib.hid hS
            have HB := Lib.hid HB
            have HK := Lib.hid HK
            by_cases hlt : j < fn
            · have hlt' : (j : Int) < (fn : Int) := by omega
              obtain ⟨f, a, vo, vn, vc, z2, hf, x1, a1, a2, a3, SL, _⟩ := FL.get j hlt
              have hd := get_drop hf
              have hS : Hid (StP F T L (fldP f ++ fldsR (bl.flds.drop (j + 1))) (fldOk f && (bl.flds.drop (j + 1)).all fldOk)) := by
                have := hS.out
                rw [hd, List.all_cons] at this
                unfold fldsR at this ⊢
                rw [List.flatMap_cons, List.append_assoc] at this
                exact this
              obtain ⟨V1, e2, A1, B1, hz1⟩ := new_box wr 42 [.string (stg f.key), .slice vo vn vc, .int .i64 z2]
              have B1' := B1.mono hBz
              have p0 : V1.cell? ⟨wr.heap.size, 0, none⟩ = some (.string (stg f.key)) := A1.cell 0
              have p1 : V1.cell? ⟨wr.heap.size, 1, none⟩ = some (.slice vo vn vc) := A1.cell 1
              have p2 : V1.cell? ⟨wr.heap.size, 2, none⟩ = some (.int .i64 z2) := A1.cell 2
              have HP := Lib.hid (prField_c B g L f vo vn vc z2 V1 (hL.low B1) (by omega) (SL.keep (stable_low B) (keeps_low B1')) (hs3 f (List.mem_of_getElem? hf)).1 (hs3 f (List.mem_of_getElem? hf)).2)
              have FL := Lib.hid (FL.keep (stable_low B) (keeps_low B1'))
              have HB := Lib.hid (HB.out.trans B1')
              have HK := Lib.hid (HK.out.trans (Kp.below B1))
              have hBz : Hid (B ≤ V1.heap.size) := by show _ ≤ _; omega
              clear hL hf hd A1 B1 B1' hz1 SL
              go_wp2_with fail
              clear e2 a1 a2 a3 p0 p1 p2 x1
              refine HP.out.mono ?_
              rintro e w6 ⟨rfl, h6, B6, K6⟩
              obtain ⟨b6, hb6⟩ : ∃ b, fitB L (fldP f) (fldOk f) = b := ⟨_, rfl⟩
              rw [hb6] at h6 ⊢
              have hS1 := hS.out
              cases b6 with
              | false =>
                have hF : F = false := hS1.no hb6
                subst hF
                have HB := Lib.hid (HB.out.trans B6)
                have HK := Lib.hid (HK.out.trans K6)
                clear hb6 h6 B6 K6 hS1 HP
                go_wp2_with fail
                go_ret
                exact ⟨rfl, fun e => (by cases e), HB.out, HK.out⟩
              | true =>
                have hS := Lib.hid (hS1.yes hb6)
                have FL := Lib.hid (FL.out.keep (stable_low B) (keeps_low B6))
                have HB := Lib.hid (HB.out.trans B6)
                have HK := Lib.hid (HK.out.trans K6)
                have hBz : Hid (B ≤ w6.heap.size) := Nat.le_trans hBz.out B6.size
                have h6' := Lib.hid (h6 rfl)
                clear hb6 h6 B6 K6 hS1 HP
                go_wp2_with fail
                go_roundw
                case rel => exact ⟨j + 1, _, by omega, by go_num, h6'.out, hS.out, FL.out, HB.out, HK.out, hBz.out⟩
                case measure => simp [intOf]; omega
            · obtain rfl : j = fn := by omega
              have hd : bl.flds.drop j = [] := List.drop_of_length_le (by rw [FL.len]; exact Nat.le_refl _)
              have hS : Hid (StP F T L [32, 32, 125, 10] true) := by
                have := hS.out
                rw [hd] at this
                exact this
              have HP := prPlain_c B g L (stg [32, 32, 125, 10]) wr hL hBz (by decide)
              rw [bys_stg] at HP
              have HP := Lib.hid HP
              clear hL hd FL
              go_wp2_with fail
              refine HP.out.mono ?_
              rintro e w3 ⟨b3, hb3, rfl, h3, B3, K3⟩
              have hF : F = b3 := by rw [hb3, hS.out.fit]
              subst hF
              have HB := Lib.hid (HB.out.trans B3)
              have HK := Lib.hid (HK.out.trans K3)
              have h3 := Lib.hid h3
              clear hb3 B3 K3 HP
              go_wp2_with fail
              go_ret
              refine ⟨rfl, fun e => ?_, HB.out, HK.out⟩
              rw [hS.out.txt]
              exact h3.out e
      · have hne : ((stg bl.name).toList == []) = false := by
          rw [beq_eq_false_iff_ne, toList_bys, bys_stg]
          exact h0
        have hS : Hid (StP F T (l ++ [32, 32] ++ bl.kind) ([32] ++ (bl.name ++ ([32, 123, 10] ++ fldsR bl.flds))) (true && (wordB bl.name && (true && bl.flds.all fldOk)))) := by
          have := hS.out
          unfold nameP at this
          rw [if_neg h0, decide_eq_false h0, Bool.false_or] at this
          exact this
        have HQ := prPlain_c B g _ (stg [32]) w2 h2'.out hBz.out (by decide)
        rw [bys_stg] at HQ
        have HQ := Lib.hid HQ
        clear h0 h2'
        go_wp2_with fail
        refine HQ.out.mono ?_
        rintro e w3 ⟨b3, hb3, rfl, h3, B3, K3⟩
        have hS1 := hS.out
        cases b3 with
        | false =>
          have hF : F = false := hS1.no hb3.symm
          subst hF
          have HB := Lib.hid (HB.out.trans B3)
          have HK := Lib.hid (HK.out.trans K3)
          clear hb3 h3 B3 K3 hS1 HQ
          go_wp2_with fail
          go_ret
          exact ⟨rfl, fun e => (by cases e), HB.out, HK.out⟩
        | true =>
          have hS := Lib.hid (hS1.yes hb3.symm)
          have AV := Lib.hid (K3.arr fb _ _ (by decide) hgfb.out AV.out)
          have y1 : w3.cell? ⟨fb, 1, none⟩ = some (.string (stg bl.name)) := AV.out.cell 1
          have FL := Lib.hid (FL.out.keep (stable_low B) (keeps_low B3))
          have HB := Lib.hid (HB.out.trans B3)
          have HK := Lib.hid (HK.out.trans K3)
          have hBz : Hid (B ≤ w3.heap.size) := Nat.le_trans hBz.out B3.size
          have HW := prWord_c B g _ (stg bl.name) w3 (h3 rfl) hBz.out (by rw [← bys_len, bys_stg]; exact hs2)
          rw [bys_stg] at HW
          have HW := Lib.hid HW
          clear hb3 h3 B3 K3 hS1 HQ
          go_wp2_with fail
          refine HW.out.mono ?_
          rintro e wN ⟨b4, hb4, rfl, h4, B4, K4⟩
          have hS1 := hS.out
          cases b4 with
          | false =>
            have hF : F = false := hS1.no hb4.symm
            subst hF
            have HB := Lib.hid (HB.out.trans B4)
            have HK := Lib.hid (HK.out.trans K4)
            clear hb4 h4 B4 K4 hS1 HW
            go_wp2_with fail
            go_ret
            exact ⟨rfl, fun e => (by cases e), HB.out, HK.out⟩
          | true =>
            have hS := Lib.hid (hS1.yes hb4.symm)
            have AV := Lib.hid (K4.arr fb _ _ (by decide) hgfb.out AV.out)
            have FL := Lib.hid (FL.out.keep (stable_low B) (keeps_low B4))
            have HB := Lib.hid (HB.out.trans B4)
            have HK := Lib.hid (HK.out.trans K4)
            have hBz : Hid (B ≤ wN.heap.size) := Nat.le_trans hBz.out B4.size
            have hL : Bld B g (l ++ [32, 32] ++ bl.kind ++ [32] ++ bl.name) wN := h4 rfl
            obtain ⟨L0, hL0⟩ : ∃ x : List UInt8, Hid (l ++ [32, 32] ++ bl.kind ++ [32] ++ bl.name = x) := ⟨l ++ [32, 32] ++ bl.kind ++ [32] ++ bl.name, Lib.hid rfl⟩
            rw [hL0.out] at hS hL
            clear hb4 h4 B4 K4 hS1 HW y1
            have HM := prPlain_c B g L0 (stg [32, 123, 10]) wN hL hBz.out (by decide)
            rw [bys_stg] at HM
            have HM := Lib.hid HM
            clear hL
            go_wp2_with fail
            refine HM.out.mono ?_
            rintro e w5 ⟨b5, hb5, rfl, h5, B5, K5⟩
            have hS1 := hS.out
            cases b5 with
            | false =>
              have hF : F = false := hS1.no hb5.symm
              subst hF
              have HB := Lib.hid (HB.out.trans B5)
              have HK := Lib.hid (HK.out.trans K5)
              clear hb5 h5 B5 K5 hS1 HM
              go_wp2_with fail
              go_ret
              exact ⟨rfl, fun e => (by cases e), HB.out, HK.out⟩
            | true =>
              have hS := Lib.hid (hS1.yes hb5.symm)
              have AV := Lib.hid (K5.arr fb _ _ (by decide) hgfb.out AV.out)
              have y2 : w5.cell? ⟨fb, 2, none⟩ = some (.slice fo fn fc) := AV.out.cell 2
              have FL := Lib.hid (FL.out.keep (stable_low B) (keeps_low B5))
              have HB := Lib.hid (HB.out.trans B5)
              have HK := Lib.hid (HK.out.trans K5)
              have hBz : Hid (B ≤ w5.heap.size) := Nat.le_trans hBz.out B5.size
              have h5' := Lib.hid (h5 rfl)
              clear hb5 h5 B5 K5 hS1 HM
              go_wp2_with fail
              clear y2
              go_loopw [6, 38] (fun _ iv wr => ∃ (j : Nat) (L : List UInt8), j ≤ fn ∧ iv = .int .i64 (j : Int) ∧ Bld B g L wr ∧ StP F T L (fldsR (bl.flds.drop j)) ((bl.flds.drop j).all fldOk) ∧ FldL q0 (lowF B) wr fo fn fc bl.flds ∧ Below B w wr ∧ Kp g w wr ∧ B ≤ wr.heap.size) (fun _ iv _ => fn - (intOf iv).toNat)
              case atStart => exact ⟨0, _, by omega, rfl, h5'.out, hS.out, FL.out, HB.out, HK.out, hBz.out⟩
              case round =>
                clear hS h5' AV FL HB HK hBz
                obtain ⟨j, L, hj, rfl, hL, hS, FL, HB, HK, hBz⟩ := hrel
                have hS := Lib.hid hS
                have HB := Lib.hid HB
                have HK := Lib.hid HK
                by_cases hlt : j < fn
                · have hlt' : (j : Int) < (fn : Int) := by omega
                  obtain ⟨f, a, vo, vn, vc, z2, hf, x1, a1, a2, a3, SL, _⟩ := FL.get j hlt
                  have hd := get_drop hf
                  have hS : Hid (StP F T L (fldP f ++ fldsR (bl.flds.drop (j + 1))) (fldOk f && (bl.flds.drop (j + 1)).all fldOk)) := by
                    have := hS.out
                    rw [hd, List.all_cons] at this
                    unfold fldsR at this ⊢
                    rw [List.flatMap_cons, List.append_assoc] at this
                    exact this
                  obtain ⟨V1, e2, A1, B1, hz1⟩ := new_box wr 42 [.string (stg f.key), .slice vo vn vc, .int .i64 z2]
                  have B1' := B1.mono hBz
                  have p0 : V1.cell? ⟨wr.heap.size, 0, none⟩ = some (.string (stg f.key)) := A1.cell 0
                  have p1 : V1.cell? ⟨wr.heap.size, 1, none⟩ = some (.slice vo vn vc) := A1.cell 1
                  have p2 : V1.cell? ⟨wr.heap.size, 2, none⟩ = some (.int .i64 z2) := A1.cell 2
                  have HP := Lib.hid (prField_c B g L f vo vn vc z2 V1 (hL.low B1) (by omega) (SL.keep (stable_low B) (keeps_low B1')) (hs3 f (List.mem_of_getElem? hf)).1 (hs3 f (List.mem_of_getElem? hf)).2)
                  have FL := Lib.hid (FL.keep (stable_low B) (keeps_low B1'))
                  have HB := Lib.hid (HB.out.trans B1')
                  have HK := Lib.hid (HK.out.trans (Kp.below B1))
                  have hBz : Hid (B ≤ V1.heap.size) := by show _ ≤ _; omega
                  clear hL hf hd A1 B1 B1' hz1 SL
                  go_wp2_with fail
                  clear e2 a1 a2 a3 p0 p1 p2 x1
                  refine HP.out.mono ?_
                  rintro e w6 ⟨rfl, h6, B6, K6⟩
                  obtain ⟨b6, hb6⟩ : ∃ b, fitB L (fldP f) (fldOk f) = b := ⟨_, rfl⟩
                  rw [hb6] at h6 ⊢
                  have hS1 := hS.out
                  cases b6 with
                  | false =>
                    have hF : F = false := hS1.no hb6
                    subst hF
                    have HB := Lib.hid (HB.out.trans B6)
                    have HK := Lib.hid (HK.out.trans K6)
                    clear hb6 h6 B6 K6 hS1 HP
                    go_wp2_with fail
                    go_ret
                    exact ⟨rfl, fun e => (by cases e), HB.out, HK.out⟩
                  | true =>
                    have hS := Lib.hid (hS1.yes hb6)
                    have FL := Lib.hid (FL.out.keep (stable_low B) (keeps_low B6))
                    have HB := Lib.hid (HB.out.trans B6)
                    have HK := Lib.hid (HK.out.trans K6)
                    have hBz : Hid (B ≤ w6.heap.size) := Nat.le_trans hBz.out B6.size
                    have h6' := Lib.hid (h6 rfl)
                    clear hb6 h6 B6 K6 hS1 HP
                    go_wp2_with fail
                    go_roundw
                    case rel => exact ⟨j + 1, _, by omega, by go_num, h6'.out, hS.out, FL.out, HB.out, HK.out, hBz.out⟩
                    case measure => simp [intOf]; omega
                · obtain rfl : j = fn := by omega
                  have hd : bl.flds.drop j = [] := List.drop_of_length_le (by rw [FL.len]; exact Nat.le_refl _)
                  have hS : Hid (StP F T L [32, 32, 125, 10] true) := by
                    have := hS.out
                    rw [hd] at this
                    exact this
                  have HP := prPlain_c B g L (stg [32, 32, 125, 10]) wr hL hBz (by decide)
                  rw [bys_stg] at HP
                  have HP := Lib.hid HP
                  clear hL hd FL
                  go_wp2_with fail
                  refine HP.out.mono ?_
                  rintro e w3 ⟨b3, hb3, rfl, h3, B3, K3⟩
                  have hF : F = b3 := by rw [hb3, hS.out.fit]
                  subst hF
                  have HB := Lib.hid (HB.out.trans B3)
                  have HK := Lib.hid (HK.out.trans K3)
                  have h3 := Lib.hid h3
                  clear hb3 B3 K3 HP
                  go_wp2_with fail
                  go_ret
                  refine ⟨rfl, fun e => ?_, HB.out, HK.out⟩
                  rw [hS.out.txt]
                  exact h3.out e
end Go.Proofs.Ytfknckbclddnmaa
