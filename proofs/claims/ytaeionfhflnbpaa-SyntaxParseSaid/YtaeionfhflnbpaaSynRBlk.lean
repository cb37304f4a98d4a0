/-
  The reference's reader: block.
-/
import Derived.Test.YtaeionfhflnbpaaSynRFld
namespace Go.Proofs.Ytaeionfhflnbpaa
open Go.RowKit Lx

theorem untR_step {α : Type} {p : List Tok → PR α} (hlt : ∀ l a r, p l = .ok a r → r.length < l.length) {acc : List α} {l : List Tok} (h : atMark 125 l = false) : untR p acc l = (p l).bind fun a r => untR p (acc ++ [a]) r := by
  cases hv : p l with
  | bad e => rw [untR_bad h hv]; rfl
  | ok v r => rw [untR_ok hlt h hv]; rfl
section
variable {w wr w' : World} {g bb n c : Nat} {kind name ln : Value} {ao : Option Addr} {fs : List Fld}
theorem BSt.setKind (h : BSt w wr g bb kind name ln ao n c fs) (u : Value) : ∃ W, wr.setCell ⟨bb, 0, none⟩ u = W ∧ BSt w W g bb u name ln ao n c fs ∧ Hid (W = wr.setCell ⟨bb, 0, none⟩ u) ∧ wr.cell? ⟨bb, 0, none⟩ = some kind ∧ wr.frozen? ⟨bb, 0, none⟩ = false := by
  have hb := h.box
  obtain ⟨us, h1, h2⟩ := h
  have hf := h1.new
  exact ⟨_, rfl, ⟨us, ⟨ownsRow_set h1.own (row_ne_box h1.own hb (by decide)) _, hb.set 0 u, h1.res.far (by show w.heap.size ≠ bb; omega) _, grown_set h1.grown (by omega) _ _, h1.new, h1.old⟩, h2.keep (stable_own _ _) (keeps_set_kind hb (by decide) _)⟩, rfl, hb.cell 0, hb.frozen 0⟩
theorem BSt.setName (h : BSt w wr g bb kind name ln ao n c fs) (u : Value) : ∃ W, wr.setCell ⟨bb, 1, none⟩ u = W ∧ BSt w W g bb kind u ln ao n c fs ∧ Hid (W = wr.setCell ⟨bb, 1, none⟩ u) ∧ wr.cell? ⟨bb, 1, none⟩ = some name ∧ wr.frozen? ⟨bb, 1, none⟩ = false := by
  have hb := h.box
  obtain ⟨us, h1, h2⟩ := h
  have hf := h1.new
  exact ⟨_, rfl, ⟨us, ⟨ownsRow_set h1.own (row_ne_box h1.own hb (by decide)) _, hb.set 1 u, h1.res.far (by show w.heap.size ≠ bb; omega) _, grown_set h1.grown (by omega) _ _, h1.new, h1.old⟩, h2.keep (stable_own _ _) (keeps_set_kind hb (by decide) _)⟩, rfl, hb.cell 1, hb.frozen 1⟩
end
/-- What the reference's block hands back. -/
def RBlkOut (B : Nat) (w' : World) (g : Nat) (ao : Option Addr) (n c : Nat) (ts : List Tok) (p : PR Blc) (e : Ending) : Prop := ∃ (x : Blc) (fo : Option Addr) (fn fc : Nat), e = .returned (.agg #[.string (stg x.kind), .string (stg x.name), .slice fo fn fc, .int .i64 (x.line : Int)]) ∧ FldL true (ownF B [9, 42]) w' fo fn fc x.flds ∧
  (∀ b r, p = .ok b r → x = b) ∧ RS w' g ao n c ts (p.bind fun _ r => .ok () r)
set_option maxHeartbeats 6400000 in
set_option maxRecDepth 100000 in
theorem rBlock_c (w : World) (g : Nat) (ao : Option Addr) (n c : Nat) (ts l : List Tok) (h : AtS w g ao n c ts l) (he : EndsT ts) (hsz : ∀ t ∈ ts, t.text.length ≤ 500000) (hts : ts.length ≤ 1000000) :
    Calls Try.prog 21 #[.pointer (some ⟨g, 0, none⟩)] w fun e w' => RBlkOut w.heap.size w' g ao n c ts (blockP l) e ∧ w.grownBy w' (some g) := by
  obtain ⟨P, hP⟩ : ∃ P, Hid (blockP l = P) := ⟨_, rfl⟩
  rw [hP.out]
  have HP : Hid (P = (takeK 1 l).bind fun kind r => (nameR r).bind fun name r2 => (takeM 123 r2).bind fun _ r3 => tailB2 kind name (lineP l) (untR fieldP [] r3)) := by show _ = _; rw [← hP.out, blockP_step]
  have hg : g < w.heap.size := RS.lt (p := .ok () l) h
  obtain ⟨V, e1, AV, BV, hz⟩ := new_box w 39 [.string ⟨#[]⟩, .string ⟨#[]⟩, .slice none 0 0, .int .i64 0]
  obtain ⟨b, hb⟩ : ∃ b, w.heap.size = b := ⟨_, rfl⟩
  rw [hb] at AV BV hz hg
  have hA := h.keep (by rw [hb]; exact BV)
  obtain ⟨i, t, r, hR, ht, hl, hr⟩ := AtS.head hA
  have hi : i < n := by rw [← hR.tok.len]; exact drop_at ht
  obtain ⟨gt, hgt, _, a1, a2, a3⟩ := hR.tok.at3 i hi t ht (i * 3) (i * 3 + 1) (i * 3 + 2) (by omega) (by omega) (by omega)
  obtain ⟨Ln, hLn⟩ : ∃ K, Hid (t.line = K) := ⟨_, rfl⟩
  rw [hLn.out] at a3
  have hline : Hid (lineP l = Ln) := by show _ = _; rw [hl]; exact hLn.out
  have y0 : V.cell? ⟨g, 0, none⟩ = some (.slice ao n c) := hR.arr.cell 0
  have y1 : V.cell? ⟨g, 1, none⟩ = some (.int .i64 (i : Int)) := hR.arr.cell 1
  have hold : ∀ (o : Obj) (p : Addr) (v : Value), V.cell? p = some v → (V.alloc o).cell? p = some v := fun o p v hv => (World.cell?_of_block (Below.heap_alloc V o p.block (World.block_lt_of_cell? V _ hv))).trans hv
  have z0 := hold (.cells #[.string ⟨#[]⟩, .string ⟨#[]⟩, .slice none 0 0, .int .i64 0] 39) _ _ y0
  have z1 := hold (.cells #[.string ⟨#[]⟩, .string ⟨#[]⟩, .slice none 0 0, .int .i64 0] 39) _ _ y1
  have z3 := hold (.cells #[.string ⟨#[]⟩, .string ⟨#[]⟩, .slice none 0 0, .int .i64 0] 39) _ _ a3
  obtain ⟨U, hU⟩ : ∃ U, Hid (U = (V.alloc (.cells #[.string ⟨#[]⟩, .string ⟨#[]⟩, .slice none 0 0, .int .i64 (Ln : Int)] 39)).drew) := ⟨_, rfl⟩
  have BU : Below V.heap.size V U := by rw [hU.out]; exact Below.drew ((Below.refl _ _).alloc (Nat.le_refl _) _)
  have AU : Arr U V.heap.size 39 [.string ⟨#[]⟩, .string ⟨#[]⟩, .slice none 0 0, .int .i64 (Ln : Int)] := by rw [hU.out]; exact Arr.new V _ _
  have hAU := hA.keep BU
  have Fh : BSt w U g V.heap.size (.string ⟨#[]⟩) (.string ⟨#[]⟩) (.int .i64 (Ln : Int)) none 0 0 [] :=
    ⟨[], ⟨by rw [hb]; exact World.ownsRow_nil _ _ _ _, AU, by rw [hb]; exact AV.kept BU, grown_on (grown_below (by rw [hb]; exact BV) _) (grown_below BU _), by omega, by omega⟩, rfl⟩
  rw [hz] at Fh
  have HT := Lib.hid (rsTake_c U g ao n c ts (.ok () l) hAU he 1 (by decide))
  have hFS := Lib.hid Fh
  have hg' := Lib.hid hg
  have hgt' : Hid (∀ a, ao = some a → a.block < b) := by
    show ∀ a, ao = some a → a.block < b
    rw [← hb]
    exact RS.tok_lt (p := .ok () l) h
  subst hgt
  have hn0 : Hid (g ≠ b + 1) := by show g ≠ b + 1; omega
  have hn1 : Hid (∀ a, (some ⟨gt, 0, none⟩ : Option Addr) = some a → a.block ≠ b + 1) := fun a ea => by have := hgt'.out a ea; omega
  clear h BV hP Fh hA hAU AU BU AV hR ht hl hr a1 a2 hg hold
  go_enter Try.func21, Try.ntmps21
  go_wp2_with fail
  go_region
  rw [← hU.out]
  clear hU y0 y1 a3 z0 z1 z3 e1
  go_wp2_with fail
  refine HT.out.mono ?_
  rintro e w1 ⟨S, p1, rfl, hR1, hGo, G1⟩
  have HP : Hid (P = p1.bind fun _ r => (nameR r).bind fun name r2 => (takeM 123 r2).bind fun _ r3 => tailB2 S name Ln (untR fieldP [] r3)) := by
    show _ = _
    rw [HP.out, hline.out]
    exact hGo _ (fun kind r => (nameR r).bind fun name r2 => (takeM 123 r2).bind fun _ r3 => tailB2 kind name Ln (untR fieldP [] r3))
  obtain ⟨W1, e2, FS1, hW1, f0, f1⟩ := (hFS.out.call G1).setKind (.string (stg S))
  have hR1 : RS W1 g (some ⟨gt, 0, none⟩) n c ts p1 := by
    rw [hW1.out]
    exact hR1.far hn0.out hn1.out _
  have HV := Lib.hid (rsAtK_c W1 g (some ⟨gt, 0, none⟩) n c ts p1 hR1 1)
  have FS1 := Lib.hid FS1
  clear HT hR1 hGo G1 hFS
  go_wp2_with fail
  clear e2 f0 f1
  refine HV.out.mono ?_
  rintro e w2 ⟨nb, rfl, hR2, hy, hno, G2⟩
  have FS2 := FS1.out.call G2
  cases nb with
  | true =>
    have HT2 := Lib.hid (rsTake_c w2 g (some ⟨gt, 0, none⟩) n c ts p1 hR2 he 1 (by decide))
    have hy1 : Hid (∀ l, p1 = .ok () l → atKind 1 l = true) := fun l e => (hy l e).symm
    have hno1 : Hid (∀ ln, p1 ≠ .bad ln) := fun ln e => by have := hno ln e; cases this
    have FS2 := Lib.hid FS2
    clear HV hR2 hy hno G2 FS1
    go_wp2_with fail
    refine HT2.out.mono ?_
    rintro e w3 ⟨N, pN, rfl, hR3, hGo, G3⟩
    have HPN : Hid (P = pN.bind fun _ r2 => (takeM 123 r2).bind fun _ r3 => tailB2 S N Ln (untR fieldP [] r3)) := by
      show _ = _
      rw [HP.out]
      rw [← hGo Blc (fun name r2 => (takeM 123 r2).bind fun _ r3 => tailB2 S name Ln (untR fieldP [] r3))]
      cases p1 with
      | bad e => rfl
      | ok u l =>
        rw [PR.bind_ok, PR.bind_ok]
        unfold nameR
        rw [hy1.out l rfl, if_pos rfl]
    obtain ⟨wN, e2, FSN, hWN, f0, f1⟩ := (FS2.out.call G3).setName (.string (stg N))
    have hRN : RS wN g (some ⟨gt, 0, none⟩) n c ts pN := by
      rw [hWN.out]
      exact hR3.far hn0.out hn1.out _
    clear HT2 hR3 hGo G3 FS2 HP hy1 hno1
    have HM := Lib.hid (rsMark_c wN g (some ⟨gt, 0, none⟩) n c ts pN hRN he 123)
    have FSN := Lib.hid FSN
    clear hRN
    go_wp2_with fail
    refine HM.out.mono ?_
    rintro e w4 ⟨S4, p4, rfl, hR4, hGo4, G4⟩
    have HP : Hid (P = p4.bind fun _ r3 => tailB2 S N Ln (untR fieldP [] r3)) := by
      show _ = _
      rw [HPN.out]
      exact hGo4 _ (fun r3 => tailB2 S N Ln (untR fieldP [] r3))
    have FS4 := Lib.hid (FSN.out.call G4)
    have hR4 := Lib.hid hR4
    have hlen : Hid (∀ l, p4 = .ok () l → 0 + l.length ≤ ts.length) := by
      intro l e
      have := hR4.out
      rw [e] at this
      have := AtS.sub this
      omega
    clear HM hGo4 G4 FSN HPN
    go_wp2_with fail
    go_loopw [] (fun wr => ∃ (ao : Option Addr) (m d : Nat) (fs : List Fld) (q : PR Unit), RS wr g (some ⟨gt, 0, none⟩) n c ts q ∧ BSt w wr g (b + 1) (.string (stg S)) (.string (stg N)) (.int .i64 (Ln : Int)) ao m d fs ∧ Hid (P = q.bind fun _ r => tailB2 S N Ln (untR fieldP fs r)) ∧ (∀ l, q = .ok () l → m + l.length ≤ ts.length)) (fun wr => rsN g wr)
    case atStart => exact ⟨_, 0, 0, [], p4, hR4.out, FS4.out, HP, hlen.out⟩
    case round =>
      clear hR4 FS4 HP hlen
      obtain ⟨ao, m, d, fs, q, hR, Fh, HP, hlen⟩ := hrel
      have Fh := Lib.hid Fh
      have hend : ∀ (q : PR Unit) (w5 : World), RS w5 g (some ⟨gt, 0, none⟩) n c ts q → Calls Try.prog 19 #[.pointer (some ⟨g, 0, none⟩), .int .i64 4, .string (stg [125])] w5 fun e w' => ∃ S p', e = .returned (.string S) ∧ RS w' g (some ⟨gt, 0, none⟩) n c ts p' ∧ GoesU q (takeM 125) p' ∧ w5.grownBy w' (some g) := fun q w5 h => rsMark_c w5 g (some ⟨gt, 0, none⟩) n c ts q h he 125
      cases q with
      | bad bl =>
        have hRb : BdS wr g (some ⟨gt, 0, none⟩) n c ts bl := hR
        obtain ⟨i2, t2, hRd, _, hb1⟩ := hRb
        have k0 : wr.cell? ⟨g, 2, none⟩ = some (.int .i64 (bl : Int)) := hRd.arr.cell 2
        have k1 : ((bl : Int) == 0) = false := by rw [beq_eq_false_iff_ne]; omega
        have HM := Lib.hid (hend (.bad bl) wr hR)
        have HP : Hid (P = (PR.bad bl : PR Unit).bind fun _ r => (takeM 125 r).bind fun _ r2 => .ok ⟨S, N, fs, Ln⟩ r2) := by
          show _ = _
          rw [HP.out]
          rfl
        clear hR hRd hlen hend
        go_wp2_with fail
        clear k0 k1
        refine HM.out.mono ?_
        rintro e w5 ⟨S5, q5, rfl, hR5, hGo, G5⟩
        have HP : Hid (P = q5.bind fun _ r2 => .ok ⟨S, N, fs, Ln⟩ r2) := by
          show _ = _
          rw [HP.out]
          exact hGo Blc (fun r2 => .ok ⟨S, N, fs, Ln⟩ r2)
        have FS5 := Fh.out.call G5
        have y0 : w5.cell? ⟨b + 1, 0, none⟩ = some (.string (stg S)) := FS5.box.cell 0
        have y1 : w5.cell? ⟨b + 1, 1, none⟩ = some (.string (stg N)) := FS5.box.cell 1
        have y2 : w5.cell? ⟨b + 1, 2, none⟩ = some (.slice ao m d) := FS5.box.cell 2
        have y3 : w5.cell? ⟨b + 1, 3, none⟩ = some (.int .i64 (Ln : Int)) := FS5.box.cell 3
        have hR2 := FS5.res
        rw [hb] at hR2
        obtain ⟨Y, e6, hY, AY, f0, f1, f2, f3, f4, f5, f6, f7⟩ := put_box4 hR2 (.string (stg S)) (.string (stg N)) (.slice ao m d) (.int .i64 (Ln : Int))
        have r0 : Y.cell? ⟨b, 0, none⟩ = some (.string (stg S)) := AY.cell 0
        have r1 : Y.cell? ⟨b, 1, none⟩ = some (.string (stg N)) := AY.cell 1
        have r2 : Y.cell? ⟨b, 2, none⟩ = some (.slice ao m d) := AY.cell 2
        have r3 : Y.cell? ⟨b, 3, none⟩ = some (.int .i64 (Ln : Int)) := AY.cell 3
        have GY : Hid (w.grownBy Y (some g)) := by show World.grownBy _ _ _; rw [hY.out]; exact grown_put4 FS5.grown (by omega) _ _ _ _
        have RY : Hid (RS Y g (some ⟨gt, 0, none⟩) n c ts q5) := by
          show RS _ _ _ _ _ _ _
          rw [hY.out]
          have hn0 : g ≠ b := by have := hg'.out; omega
          have hn1 : ∀ a, (some ⟨gt, 0, none⟩ : Option Addr) = some a → a.block ≠ b := fun a ea => by have := hgt'.out a ea; omega
          exact (((hR5.far (q := ⟨b, 0, none⟩) hn0 hn1 _).far (q := ⟨b, 1, none⟩) hn0 hn1 _).far (q := ⟨b, 2, none⟩) hn0 hn1 _).far (q := ⟨b, 3, none⟩) hn0 hn1 _
        have SL : Hid (FldL true (ownF w.heap.size [9, 42]) Y ao m d fs) := by
          show FldL _ _ _ _ _ _ _
          rw [hY.out]
          exact FS5.flds.keep (stable_own _ _) (keeps_put4 hR2 (by decide) _ _ _ _)
        clear HM Fh FS5 hR2 AY hR5 G5 hGo
        go_wp2_with fail
        refine bodyPost_ret (v := .agg #[.string (stg S), .string (stg N), .slice ao m d, .int .i64 (Ln : Int)]) (by simp [results, Try.results21, go_sem, r0, r1, r2, r3]) rfl ?_
        refine ⟨⟨⟨S, N, fs, Ln⟩, ao, m, d, rfl, SL.out, fun f r e => ?_, ?_⟩, GY.out⟩
        · rw [HP.out] at e
          cases q5 with
          | bad x => cases e
          | ok u l =>
            rw [PR.bind_ok] at e
            injection e with e _
        · have h1 := RY.out
          rw [HP.out]
          cases q5 <;> exact h1
      | ok u l =>
        have hRl : AtS wr g (some ⟨gt, 0, none⟩) n c ts l := hR
        have hme := Lib.hid (AtS.rsN hRl)
        obtain ⟨i2, t2, r2, hRd, _, _, _⟩ := AtS.head hRl
        have k0 : wr.cell? ⟨g, 2, none⟩ = some (.int .i64 0) := hRd.arr.cell 2
        have HA := Lib.hid (rsAt_c wr g (some ⟨gt, 0, none⟩) n c ts (.ok () l) hR 125)
        have hml := hlen l rfl
        clear hR hRl hRd hlen
        go_wp2_with fail
        clear k0
        refine HA.out.mono ?_
        rintro e w5 ⟨bb, rfl, hR5, hy, hno, G5⟩
        have Fh := Lib.hid (Fh.out.call G5)
        cases bb with
        | true =>
          obtain ⟨l', e, hm⟩ := hy rfl
          injection e with _ e
          subst e
          have HM := Lib.hid (hend (.ok () l) w5 hR5)
          have HP : Hid (P = (PR.ok () l : PR Unit).bind fun _ r => (takeM 125 r).bind fun _ r2 => .ok ⟨S, N, fs, Ln⟩ r2) := by
            show _ = _
            rw [HP.out, PR.bind_ok, PR.bind_ok, untR_end hm]
            rfl
          clear HA hy hno hR5 G5 hm hend
          go_wp2_with fail
          refine HM.out.mono ?_
          rintro e w5 ⟨S5, q5, rfl, hR5, hGo, G5⟩
          have HP : Hid (P = q5.bind fun _ r2 => .ok ⟨S, N, fs, Ln⟩ r2) := by
            show _ = _
            rw [HP.out]
            exact hGo Blc (fun r2 => .ok ⟨S, N, fs, Ln⟩ r2)
          have FS5 := Fh.out.call G5
          have y0 : w5.cell? ⟨b + 1, 0, none⟩ = some (.string (stg S)) := FS5.box.cell 0
          have y1 : w5.cell? ⟨b + 1, 1, none⟩ = some (.string (stg N)) := FS5.box.cell 1
          have y2 : w5.cell? ⟨b + 1, 2, none⟩ = some (.slice ao m d) := FS5.box.cell 2
          have y3 : w5.cell? ⟨b + 1, 3, none⟩ = some (.int .i64 (Ln : Int)) := FS5.box.cell 3
          have hR2 := FS5.res
          rw [hb] at hR2
          obtain ⟨Y, e6, hY, AY, f0, f1, f2, f3, f4, f5, f6, f7⟩ := put_box4 hR2 (.string (stg S)) (.string (stg N)) (.slice ao m d) (.int .i64 (Ln : Int))
          have r0 : Y.cell? ⟨b, 0, none⟩ = some (.string (stg S)) := AY.cell 0
          have r1 : Y.cell? ⟨b, 1, none⟩ = some (.string (stg N)) := AY.cell 1
          have r2 : Y.cell? ⟨b, 2, none⟩ = some (.slice ao m d) := AY.cell 2
          have r3 : Y.cell? ⟨b, 3, none⟩ = some (.int .i64 (Ln : Int)) := AY.cell 3
          have GY : Hid (w.grownBy Y (some g)) := by show World.grownBy _ _ _; rw [hY.out]; exact grown_put4 FS5.grown (by omega) _ _ _ _
          have RY : Hid (RS Y g (some ⟨gt, 0, none⟩) n c ts q5) := by
            show RS _ _ _ _ _ _ _
            rw [hY.out]
            have hn0 : g ≠ b := by have := hg'.out; omega
            have hn1 : ∀ a, (some ⟨gt, 0, none⟩ : Option Addr) = some a → a.block ≠ b := fun a ea => by have := hgt'.out a ea; omega
            exact (((hR5.far (q := ⟨b, 0, none⟩) hn0 hn1 _).far (q := ⟨b, 1, none⟩) hn0 hn1 _).far (q := ⟨b, 2, none⟩) hn0 hn1 _).far (q := ⟨b, 3, none⟩) hn0 hn1 _
          have SL : Hid (FldL true (ownF w.heap.size [9, 42]) Y ao m d fs) := by
            show FldL _ _ _ _ _ _ _
            rw [hY.out]
            exact FS5.flds.keep (stable_own _ _) (keeps_put4 hR2 (by decide) _ _ _ _)
          clear HM Fh FS5 hR2 AY hR5 G5 hGo
          go_wp2_with fail
          refine bodyPost_ret (v := .agg #[.string (stg S), .string (stg N), .slice ao m d, .int .i64 (Ln : Int)]) (by simp [results, Try.results21, go_sem, r0, r1, r2, r3]) rfl ?_
          refine ⟨⟨⟨S, N, fs, Ln⟩, ao, m, d, rfl, SL.out, fun f r e => ?_, ?_⟩, GY.out⟩
          · rw [HP.out] at e
            cases q5 with
            | bad x => cases e
            | ok u l =>
              rw [PR.bind_ok] at e
              injection e with e _
          · have h1 := RY.out
            rw [HP.out]
            cases q5 <;> exact h1
        | false =>
          have hm := hno rfl l rfl
          have hA6 := AtS.keep hR5 (Below.drew (Below.refl _ _))
          have FS6 := Fh.out.keep (Below.drew (Below.refl _ _))
          obtain ⟨V6, e6⟩ : ∃ V6, w5.drew = V6 := ⟨_, rfl⟩
          rw [e6] at hA6 FS6
          have HV := Lib.hid (rField_c V6 g (some ⟨gt, 0, none⟩) n c ts l hA6 he hsz hts)
          have HP : Hid (P = (fieldP l).bind fun f r => tailB2 S N Ln (untR fieldP (fs ++ [f]) r)) := by
            show _ = _
            rw [HP.out, PR.bind_ok, untR_step (fun _ _ _ h => field_lt h) hm]
            cases fieldP l <;> rfl
          have hw6 : Hid (w.heap.size ≤ V6.heap.size) := FS6.grown.size
          have hbV : Hid (b < V6.heap.size) := by show _ < _; have := FS6.res.lt; omega
          have y1 : V6.cell? ⟨b + 1, 2, none⟩ = some (.slice ao m d) := FS6.box.cell 2
          have FS6 := Lib.hid FS6
          clear HA hy hno hR5 G5 Fh hA6 hm hend
          go_wp2_with fail
          go_region_law (first
            | (refine step_appR (vs := [.string (stg x.key), .slice vo vn vc, .int .i64 (x.line : Int)]) Try.underlying37 infoF rfl (by decide) (by decide) _ _ rfl rfl e7 LS.own (by omega) (by omega) rfl (by intro u hu; simp at hu; rcases hu with rfl | rfl | rfl <;> rfl) rfl rfl ?_; intro ao3 d3 w8 O3 G3 B3; obtain ⟨Y, e8, LS7, hY, g0, g1, K3⟩ := LS.push (Es := [9]) (by decide) (by decide) (by decide) O3 G3 B3; have g0 : w8.cell? ⟨b + 1, 2, none⟩ = some (.slice ao m d) := g0; have g1 : w8.frozen? ⟨b + 1, 2, none⟩ = false := g1; have e8 : w8.setCell ⟨b + 1, 2, none⟩ (.slice ao3 (m + 1) d3) = Y := e8)
            | (go_simp; go_at_call 38; refine HV.out.mono ?_; rintro e w7 ⟨⟨x, vo, vn, vc, rfl, hSL, hx, hR7⟩, G7⟩; have FS7 := FS6.out.call G7; have y2 : w7.cell? ⟨b + 1, 2, none⟩ = some (.slice ao m d) := FS7.box.cell 2; obtain ⟨X, e7, _, BX, _⟩ := new_box w7 42 [.string (stg x.key), .slice vo vn vc, .int .i64 (x.line : Int)]; have y3 : X.cell? ⟨b + 1, 2, none⟩ = some (.slice ao m d) := (FS7.keep BX).box.cell 2; have hs7 : b ≤ w7.heap.size := (by have := FS7.res.lt; omega); obtain ⟨us, LS, FC⟩ := FS7))
          all_goals
            have hSL2 : StrL (ownF w.heap.size [9]) w7 vo vn vc x.vals := Row.mono hSL (own_mono hw6.out (by simp))
            have BS8 : Hid (BSt w Y g (b + 1) (.string (stg S)) (.string (stg N)) (.int .i64 (Ln : Int)) ao3 (m + 1) d3 (fs ++ [x])) :=
              ⟨_, LS7, FCells.append (FC.keep (stable_own _ _) K3) ⟨vo, vn, vc, _, [], rfl, Row.keep hSL2 (stable_own _ _) K3, fun _ => rfl, rfl⟩⟩
            have hR8 : Hid (RS Y g (some ⟨gt, 0, none⟩) n c ts ((fieldP l).bind fun _ r => .ok () r)) := by
              show RS _ _ _ _ _ _ _
              rw [hY.out]
              exact (hR7.low B3 (by rw [hb]; exact hg'.out) (by rw [hb]; exact hgt'.out)).far hn0.out hn1.out _
            have hx := Lib.hid hx
            clear hR7 FC LS LS7 O3 G3 B3 BX hY K3 hSL hSL2
            go_wp2_with fail
            go_roundw
            case rel =>
              refine ⟨ao3, m + 1, d3, fs ++ [x], _, hR8.out, BS8.out, ?_, fun l' e => ?_⟩
              · show _ = _
                rw [HP.out]
                cases hf : fieldP l with
                | bad e => rfl
                | ok f r =>
                  rw [PR.bind_ok, PR.bind_ok, PR.bind_ok, hx.out f r hf]
              · cases hf : fieldP l with
                | bad e2 => rw [hf] at e; cases e
                | ok f r =>
                  rw [hf, PR.bind_ok] at e
                  injection e with _ e
                  subst e
                  have := field_lt hf
                  omega
            case measure =>
              rw [hme.out]
              have h3 := hR8.out
              cases hf : fieldP l with
              | bad e =>
                rw [hf] at h3
                rw [BdS.rsN h3]
                omega
              | ok f r =>
                rw [hf] at h3
                have := field_lt hf
                rw [AtS.rsN h3]
                omega
  | false =>
    have HPN : Hid (P = p1.bind fun _ r2 => (takeM 123 r2).bind fun _ r3 => tailB2 S [] Ln (untR fieldP [] r3)) := by
      show _ = _
      rw [HP.out]
      cases p1 with
      | bad e => rfl
      | ok u l =>
        rw [PR.bind_ok, PR.bind_ok]
        unfold nameR
        rw [← hy l rfl, if_neg (by decide)]
        rfl
    obtain ⟨N, hN⟩ : ∃ N : List UInt8, N = [] := ⟨[], rfl⟩
    obtain ⟨wN, hwN⟩ : ∃ x, x = w2 := ⟨_, rfl⟩
    obtain ⟨pN, hpN⟩ : ∃ x, x = p1 := ⟨_, rfl⟩
    have FSN : BSt w wN g (b + 1) (.string (stg S)) (.string (stg N)) (.int .i64 (Ln : Int)) none 0 0 [] := by rw [hwN, hN]; exact FS2
    have hRN : RS wN g (some ⟨gt, 0, none⟩) n c ts pN := by rw [hwN, hpN]; exact hR2
    rw [← hpN, ← hN] at HPN
    rw [← hwN]
    clear HV hR2 hy hno G2 FS1 FS2 HP hN hwN hpN
    have HM := Lib.hid (rsMark_c wN g (some ⟨gt, 0, none⟩) n c ts pN hRN he 123)
    have FSN := Lib.hid FSN
    clear hRN
    go_wp2_with fail
    refine HM.out.mono ?_
    rintro e w4 ⟨S4, p4, rfl, hR4, hGo4, G4⟩
    have HP : Hid (P = p4.bind fun _ r3 => tailB2 S N Ln (untR fieldP [] r3)) := by
      show _ = _
      rw [HPN.out]
      exact hGo4 _ (fun r3 => tailB2 S N Ln (untR fieldP [] r3))
    have FS4 := Lib.hid (FSN.out.call G4)
    have hR4 := Lib.hid hR4
    have hlen : Hid (∀ l, p4 = .ok () l → 0 + l.length ≤ ts.length) := by
      intro l e
      have := hR4.out
      rw [e] at this
      have := AtS.sub this
      omega
    clear HM hGo4 G4 FSN HPN
    go_wp2_with fail
    go_loopw [] (fun wr => ∃ (ao : Option Addr) (m d : Nat) (fs : List Fld) (q : PR Unit), RS wr g (some ⟨gt, 0, none⟩) n c ts q ∧ BSt w wr g (b + 1) (.string (stg S)) (.string (stg N)) (.int .i64 (Ln : Int)) ao m d fs ∧ Hid (P = q.bind fun _ r => tailB2 S N Ln (untR fieldP fs r)) ∧ (∀ l, q = .ok () l → m + l.length ≤ ts.length)) (fun wr => rsN g wr)
    case atStart => exact ⟨_, 0, 0, [], p4, hR4.out, FS4.out, HP, hlen.out⟩
    case round =>
      clear hR4 FS4 HP hlen
      obtain ⟨ao, m, d, fs, q, hR, Fh, HP, hlen⟩ := hrel
      have Fh := Lib.hid Fh
      have hend : ∀ (q : PR Unit) (w5 : World), RS w5 g (some ⟨gt, 0, none⟩) n c ts q → Calls Try.prog 19 #[.pointer (some ⟨g, 0, none⟩), .int .i64 4, .string (stg [125])] w5 fun e w' => ∃ S p', e = .returned (.string S) ∧ RS w' g (some ⟨gt, 0, none⟩) n c ts p' ∧ GoesU q (takeM 125) p' ∧ w5.grownBy w' (some g) := fun q w5 h => rsMark_c w5 g (some ⟨gt, 0, none⟩) n c ts q h he 125
      cases q with
      | bad bl =>
        have hRb : BdS wr g (some ⟨gt, 0, none⟩) n c ts bl := hR
        obtain ⟨i2, t2, hRd, _, hb1⟩ := hRb
        have k0 : wr.cell? ⟨g, 2, none⟩ = some (.int .i64 (bl : Int)) := hRd.arr.cell 2
        have k1 : ((bl : Int) == 0) = false := by rw [beq_eq_false_iff_ne]; omega
        have HM := Lib.hid (hend (.bad bl) wr hR)
        have HP : Hid (P = (PR.bad bl : PR Unit).bind fun _ r => (takeM 125 r).bind fun _ r2 => .ok ⟨S, N, fs, Ln⟩ r2) := by
          show _ = _
          rw [HP.out]
          rfl
        clear hR hRd hlen hend
        go_wp2_with fail
        clear k0 k1
        refine HM.out.mono ?_
        rintro e w5 ⟨S5, q5, rfl, hR5, hGo, G5⟩
        have HP : Hid (P = q5.bind fun _ r2 => .ok ⟨S, N, fs, Ln⟩ r2) := by
          show _ = _
          rw [HP.out]
          exact hGo Blc (fun r2 => .ok ⟨S, N, fs, Ln⟩ r2)
        have FS5 := Fh.out.call G5
        have y0 : w5.cell? ⟨b + 1, 0, none⟩ = some (.string (stg S)) := FS5.box.cell 0
        have y1 : w5.cell? ⟨b + 1, 1, none⟩ = some (.string (stg N)) := FS5.box.cell 1
        have y2 : w5.cell? ⟨b + 1, 2, none⟩ = some (.slice ao m d) := FS5.box.cell 2
        have y3 : w5.cell? ⟨b + 1, 3, none⟩ = some (.int .i64 (Ln : Int)) := FS5.box.cell 3
        have hR2 := FS5.res
        rw [hb] at hR2
        obtain ⟨Y, e6, hY, AY, f0, f1, f2, f3, f4, f5, f6, f7⟩ := put_box4 hR2 (.string (stg S)) (.string (stg N)) (.slice ao m d) (.int .i64 (Ln : Int))
        have r0 : Y.cell? ⟨b, 0, none⟩ = some (.string (stg S)) := AY.cell 0
        have r1 : Y.cell? ⟨b, 1, none⟩ = some (.string (stg N)) := AY.cell 1
        have r2 : Y.cell? ⟨b, 2, none⟩ = some (.slice ao m d) := AY.cell 2
        have r3 : Y.cell? ⟨b, 3, none⟩ = some (.int .i64 (Ln : Int)) := AY.cell 3
        have GY : Hid (w.grownBy Y (some g)) := by show World.grownBy _ _ _; rw [hY.out]; exact grown_put4 FS5.grown (by omega) _ _ _ _
        have RY : Hid (RS Y g (some ⟨gt, 0, none⟩) n c ts q5) := by
          show RS _ _ _ _ _ _ _
          rw [hY.out]
          have hn0 : g ≠ b := by have := hg'.out; omega
          have hn1 : ∀ a, (some ⟨gt, 0, none⟩ : Option Addr) = some a → a.block ≠ b := fun a ea => by have := hgt'.out a ea; omega
          exact (((hR5.far (q := ⟨b, 0, none⟩) hn0 hn1 _).far (q := ⟨b, 1, none⟩) hn0 hn1 _).far (q := ⟨b, 2, none⟩) hn0 hn1 _).far (q := ⟨b, 3, none⟩) hn0 hn1 _
        have SL : Hid (FldL true (ownF w.heap.size [9, 42]) Y ao m d fs) := by
          show FldL _ _ _ _ _ _ _
          rw [hY.out]
          exact FS5.flds.keep (stable_own _ _) (keeps_put4 hR2 (by decide) _ _ _ _)
        clear HM Fh FS5 hR2 AY hR5 G5 hGo
        go_wp2_with fail
        refine bodyPost_ret (v := .agg #[.string (stg S), .string (stg N), .slice ao m d, .int .i64 (Ln : Int)]) (by simp [results, Try.results21, go_sem, r0, r1, r2, r3]) rfl ?_
        refine ⟨⟨⟨S, N, fs, Ln⟩, ao, m, d, rfl, SL.out, fun f r e => ?_, ?_⟩, GY.out⟩
        · rw [HP.out] at e
          cases q5 with
          | bad x => cases e
          | ok u l =>
            rw [PR.bind_ok] at e
            injection e with e _
        · have h1 := RY.out
          rw [HP.out]
          cases q5 <;> exact h1
      | ok u l =>
        have hRl : AtS wr g (some ⟨gt, 0, none⟩) n c ts l := hR
        have hme := Lib.hid (AtS.rsN hRl)
        obtain ⟨i2, t2, r2, hRd, _, _, _⟩ := AtS.head hRl
        have k0 : wr.cell? ⟨g, 2, none⟩ = some (.int .i64 0) := hRd.arr.cell 2
        have HA := Lib.hid (rsAt_c wr g (some ⟨gt, 0, none⟩) n c ts (.ok () l) hR 125)
        have hml := hlen l rfl
        clear hR hRl hRd hlen
        go_wp2_with fail
        clear k0
        refine HA.out.mono ?_
        rintro e w5 ⟨bb, rfl, hR5, hy, hno, G5⟩
        have Fh := Lib.hid (Fh.out.call G5)
        cases bb with
        | true =>
          obtain ⟨l', e, hm⟩ := hy rfl
          injection e with _ e
          subst e
          have HM := Lib.hid (hend (.ok () l) w5 hR5)
          have HP : Hid (P = (PR.ok () l : PR Unit).bind fun _ r => (takeM 125 r).bind fun _ r2 => .ok ⟨S, N, fs, Ln⟩ r2) := by
            show _ = _
            rw [HP.out, PR.bind_ok, PR.bind_ok, untR_end hm]
            rfl
          clear HA hy hno hR5 G5 hm hend
          go_wp2_with fail
          refine HM.out.mono ?_
          rintro e w5 ⟨S5, q5, rfl, hR5, hGo, G5⟩
          have HP : Hid (P = q5.bind fun _ r2 => .ok ⟨S, N, fs, Ln⟩ r2) := by
            show _ = _
            rw [HP.out]
            exact hGo Blc (fun r2 => .ok ⟨S, N, fs, Ln⟩ r2)
          have FS5 := Fh.out.call G5
          have y0 : w5.cell? ⟨b + 1, 0, none⟩ = some (.string (stg S)) := FS5.box.cell 0
          have y1 : w5.cell? ⟨b + 1, 1, none⟩ = some (.string (stg N)) := FS5.box.cell 1
          have y2 : w5.cell? ⟨b + 1, 2, none⟩ = some (.slice ao m d) := FS5.box.cell 2
          have y3 : w5.cell? ⟨b + 1, 3, none⟩ = some (.int .i64 (Ln : Int)) := FS5.box.cell 3
          have hR2 := FS5.res
          rw [hb] at hR2
          obtain ⟨Y, e6, hY, AY, f0, f1, f2, f3, f4, f5, f6, f7⟩ := put_box4 hR2 (.string (stg S)) (.string (stg N)) (.slice ao m d) (.int .i64 (Ln : Int))
          have r0 : Y.cell? ⟨b, 0, none⟩ = some (.string (stg S)) := AY.cell 0
          have r1 : Y.cell? ⟨b, 1, none⟩ = some (.string (stg N)) := AY.cell 1
          have r2 : Y.cell? ⟨b, 2, none⟩ = some (.slice ao m d) := AY.cell 2
          have r3 : Y.cell? ⟨b, 3, none⟩ = some (.int .i64 (Ln : Int)) := AY.cell 3
          have GY : Hid (w.grownBy Y (some g)) := by show World.grownBy _ _ _; rw [hY.out]; exact grown_put4 FS5.grown (by omega) _ _ _ _
          have RY : Hid (RS Y g (some ⟨gt, 0, none⟩) n c ts q5) := by
            show RS _ _ _ _ _ _ _
            rw [hY.out]
            have hn0 : g ≠ b := by have := hg'.out; omega
            have hn1 : ∀ a, (some ⟨gt, 0, none⟩ : Option Addr) = some a → a.block ≠ b := fun a ea => by have := hgt'.out a ea; omega
            exact (((hR5.far (q := ⟨b, 0, none⟩) hn0 hn1 _).far (q := ⟨b, 1, none⟩) hn0 hn1 _).far (q := ⟨b, 2, none⟩) hn0 hn1 _).far (q := ⟨b, 3, none⟩) hn0 hn1 _
          have SL : Hid (FldL true (ownF w.heap.size [9, 42]) Y ao m d fs) := by
            show FldL _ _ _ _ _ _ _
            rw [hY.out]
            exact FS5.flds.keep (stable_own _ _) (keeps_put4 hR2 (by decide) _ _ _ _)
          clear HM Fh FS5 hR2 AY hR5 G5 hGo
          go_wp2_with fail
          refine bodyPost_ret (v := .agg #[.string (stg S), .string (stg N), .slice ao m d, .int .i64 (Ln : Int)]) (by simp [results, Try.results21, go_sem, r0, r1, r2, r3]) rfl ?_
          refine ⟨⟨⟨S, N, fs, Ln⟩, ao, m, d, rfl, SL.out, fun f r e => ?_, ?_⟩, GY.out⟩
          · rw [HP.out] at e
            cases q5 with
            | bad x => cases e
            | ok u l =>
              rw [PR.bind_ok] at e
              injection e with e _
          · have h1 := RY.out
            rw [HP.out]
            cases q5 <;> exact h1
        | false =>
          have hm := hno rfl l rfl
          have hA6 := AtS.keep hR5 (Below.drew (Below.refl _ _))
          have FS6 := Fh.out.keep (Below.drew (Below.refl _ _))
          obtain ⟨V6, e6⟩ : ∃ V6, w5.drew = V6 := ⟨_, rfl⟩
          rw [e6] at hA6 FS6
          have HV := Lib.hid (rField_c V6 g (some ⟨gt, 0, none⟩) n c ts l hA6 he hsz hts)
          have HP : Hid (P = (fieldP l).bind fun f r => tailB2 S N Ln (untR fieldP (fs ++ [f]) r)) := by
            show _ = _
            rw [HP.out, PR.bind_ok, untR_step (fun _ _ _ h => field_lt h) hm]
            cases fieldP l <;> rfl
          have hw6 : Hid (w.heap.size ≤ V6.heap.size) := FS6.grown.size
          have hbV : Hid (b < V6.heap.size) := by show _ < _; have := FS6.res.lt; omega
          have y1 : V6.cell? ⟨b + 1, 2, none⟩ = some (.slice ao m d) := FS6.box.cell 2
          have FS6 := Lib.hid FS6
          clear HA hy hno hR5 G5 Fh hA6 hm hend
          go_wp2_with fail
          go_region_law (first
            | (refine step_appR (vs := [.string (stg x.key), .slice vo vn vc, .int .i64 (x.line : Int)]) Try.underlying37 infoF rfl (by decide) (by decide) _ _ rfl rfl e7 LS.own (by omega) (by omega) rfl (by intro u hu; simp at hu; rcases hu with rfl | rfl | rfl <;> rfl) rfl rfl ?_; intro ao3 d3 w8 O3 G3 B3; obtain ⟨Y, e8, LS7, hY, g0, g1, K3⟩ := LS.push (Es := [9]) (by decide) (by decide) (by decide) O3 G3 B3; have g0 : w8.cell? ⟨b + 1, 2, none⟩ = some (.slice ao m d) := g0; have g1 : w8.frozen? ⟨b + 1, 2, none⟩ = false := g1; have e8 : w8.setCell ⟨b + 1, 2, none⟩ (.slice ao3 (m + 1) d3) = Y := e8)
            | (go_simp; go_at_call 38; refine HV.out.mono ?_; rintro e w7 ⟨⟨x, vo, vn, vc, rfl, hSL, hx, hR7⟩, G7⟩; have FS7 := FS6.out.call G7; have y2 : w7.cell? ⟨b + 1, 2, none⟩ = some (.slice ao m d) := FS7.box.cell 2; obtain ⟨X, e7, _, BX, _⟩ := new_box w7 42 [.string (stg x.key), .slice vo vn vc, .int .i64 (x.line : Int)]; have y3 : X.cell? ⟨b + 1, 2, none⟩ = some (.slice ao m d) := (FS7.keep BX).box.cell 2; have hs7 : b ≤ w7.heap.size := (by have := FS7.res.lt; omega); obtain ⟨us, LS, FC⟩ := FS7))
          all_goals
            have hSL2 : StrL (ownF w.heap.size [9]) w7 vo vn vc x.vals := Row.mono hSL (own_mono hw6.out (by simp))
            have BS8 : Hid (BSt w Y g (b + 1) (.string (stg S)) (.string (stg N)) (.int .i64 (Ln : Int)) ao3 (m + 1) d3 (fs ++ [x])) :=
              ⟨_, LS7, FCells.append (FC.keep (stable_own _ _) K3) ⟨vo, vn, vc, _, [], rfl, Row.keep hSL2 (stable_own _ _) K3, fun _ => rfl, rfl⟩⟩
            have hR8 : Hid (RS Y g (some ⟨gt, 0, none⟩) n c ts ((fieldP l).bind fun _ r => .ok () r)) := by
              show RS _ _ _ _ _ _ _
              rw [hY.out]
              exact (hR7.low B3 (by rw [hb]; exact hg'.out) (by rw [hb]; exact hgt'.out)).far hn0.out hn1.out _
            have hx := Lib.hid hx
            clear hR7 FC LS LS7 O3 G3 B3 BX hY K3 hSL hSL2
            go_wp2_with fail
            go_roundw
            case rel =>
              refine ⟨ao3, m + 1, d3, fs ++ [x], _, hR8.out, BS8.out, ?_, fun l' e => ?_⟩
              · show _ = _
                rw [HP.out]
                cases hf : fieldP l with
                | bad e => rfl
                | ok f r =>
                  rw [PR.bind_ok, PR.bind_ok, PR.bind_ok, hx.out f r hf]
              · cases hf : fieldP l with
                | bad e2 => rw [hf] at e; cases e
                | ok f r =>
                  rw [hf, PR.bind_ok] at e
                  injection e with _ e
                  subst e
                  have := field_lt hf
                  omega
            case measure =>
              rw [hme.out]
              have h3 := hR8.out
              cases hf : fieldP l with
              | bad e =>
                rw [hf] at h3
                rw [BdS.rsN h3]
                omega
              | ok f r =>
                rw [hf] at h3
                have := field_lt hf
                rw [AtS.rsN h3]
                omega
end Go.Proofs.Ytaeionfhflnbpaa
