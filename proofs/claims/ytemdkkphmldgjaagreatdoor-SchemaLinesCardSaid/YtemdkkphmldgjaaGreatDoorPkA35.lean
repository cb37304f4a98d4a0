/-
  Texts of the proof, put together: SynPBlk SynPDef.
-/
import Derived.Test.YtemdkkphmldgjaaGreatDoorPkA5
import Derived.Test.YtemdkkphmldgjaaGreatDoorPkA34
set_option maxRecDepth 100000
set_option maxHeartbeats 6400000
namespace Go.Proofs.YtemdkkphmldgjaaGreatDoor
open Go.RowKit Lx
def PBlkOut (B : Nat) (w' : World) (g gt n c : Nat) (ts : List Tok) (p : PR Blc) (e : Ending) : Prop := match p with
 | .ok f r => (∃ ao m d, e = .returned (.tuple #[.agg #[.string (stg f.kind), .string (stg f.name), .slice ao m d, .int .i64 (f.line : Int)], .bool true]) /\ FldL true (ownF B [9, 63]) w' ao m d f.flds) /\ AtP w' g gt n c ts r
 | .bad ln => (∃ S S2 ao m d z, e = .returned (.tuple #[.agg #[.string S, .string S2, .slice ao m d, .int .i64 z], .bool false])) /\ BadP w' g gt n c ts ln
theorem pName_c (w : World) (g gt n c : Nat) (ts l : List Tok) (h : AtP w g gt n c ts l) (he : EndsT ts) :
    Calls Tryz.prog 80 #[.pointer (some ⟨g, 0, none⟩), .int .i64 1] w fun e w' =>
     ∃ (K L : Int) (b : Bool) (name : List UInt8) (r : List Tok), nameR l = .ok name r /\ e = .returned (.tuple #[.agg #[.int .i64 K, .string (stg name), .int .i64 L], .bool b]) /\ AtP w' g gt n c ts r /\ w.grownBy w' (some g) := by
 obtain ⟨i, t, r, hP, ht, rfl, hr⟩ := h.head
 by_cases k1 : t.kind = 1
 . refine (pTake_yes w g gt n c ts r t h he 1 k1 (by decide)).mono fun e w' ⟨a, b, d⟩ => ⟨_, _, true, t.text, r, ?_, a, b, d⟩
   unfold nameR
   rw [show atKind 1 (t :: r) = true from decide_eq_true k1, if_pos rfl]
   exact if_pos k1
 . refine (pTake_not w g gt n c ts r t h 1 k1).mono fun e w' ⟨a, b, d⟩ => ⟨0, 0, false, [], t :: r, ?_, a, b, d⟩
   unfold nameR
   rw [show atKind 1 (t :: r) = false from decide_eq_false k1, if_neg (by decide)]
theorem pBlock_c (w : World) (g gt n c : Nat) (ts l : List Tok) (h : AtP w g gt n c ts l) (he : EndsT ts) (hsz : ∀ t ∈ ts, t.text.length <= 500000) (hts : ts.length <= 1000000) :
    Calls Tryz.prog 82 #[.pointer (some ⟨g, 0, none⟩)] w fun e w' => PBlkOut w.heap.size w' g gt n c ts (blockP l) e /\ w.grownBy w' (some g) := by
 obtain ⟨i, t, r, hP, ht, rfl, hr⟩ := h.head
 obtain ⟨hg, hgt⟩ := h.sizes
 clear hP ht hr
 obtain ⟨V, e1, AV, BV, hz⟩ := new_box w 55 [.string ⟨#[]⟩, .string ⟨#[]⟩, .slice none 0 0, .int .i64 0]
 have hA := h.keep BV
 have hG := Lib.hid (grown_below BV (some g))
 obtain ⟨b, hb⟩ : ∃ b, w.heap.size = b := ⟨_, rfl⟩
 rw [hb] at AV BV hz hg hgt
 obtain ⟨P, hP⟩ : ∃ P, Hid (blockP (t :: r) = P) := ⟨_, rfl⟩
 rw [hP.out]
 clear h BV
 by_cases k1 : t.kind = 1
 . have HT := Lib.hid (pTake_yes V g gt n c ts r t hA he 1 k1 (by decide))
   have HV : Hid (P = (nameR r).bind fun name r2 => (takeM 123 r2).bind fun _ r3 => tailB2 t.text name t.line (untR fieldP [] r3)) := by
    show _ = _
    rw [<- hP.out, blockP_step, show takeK 1 (t :: r) = .ok t.text r from if_pos k1]
    rfl
   have AV := Lib.hid AV
   have hg' := Lib.hid hg
   have hgt' := Lib.hid hgt
   clear hA k1 hP hg hgt
   go_enter Tryz.func82, Tryz.ntmps82
   go_wp2_with fail
   refine HT.out.mono ?_
   rintro e w1 ⟨rfl, hA, hG1⟩
   obtain ⟨U0, U, e2, e3, AU, BU, hz2, f0, f1, f2, f3, f4, f5⟩ := new_put3 w1 87 (.int .i64 0) (.string ⟨#[]⟩) (.int .i64 0) (.int .i64 (t.kind : Int)) (.string (stg t.text)) (.int .i64 (t.line : Int))
   have hA := hA.keep BU
   have GW := Lib.hid (grown_on hG.out (grown_on hG1 (grown_below BU _)))
   have RX := Lib.hid ((AV.out.grown hG1 (by have := hg'.out; omega)).kept BU)
   have hs1 : Hid (V.heap.size <= w1.heap.size) := hG1.size
   have HN := Lib.hid (pName_c U g gt n c ts r hA he)
   have AU := Lib.hid AU
   have hgw1 : Hid (w1.heap.size ≠ g) := fun e => by have := hg'.out; have := hs1.out; omega
   clear HT BU hG1 hA
   go_wp2_with fail
   clear e1 e2 e3 f0 f1 f2 f3 f4 f5
   refine HN.out.mono ?_
   rintro e w2 ⟨K, L, nb, name, l2, hn, rfl, hA, hG2⟩
   obtain ⟨X0, X, e2, e3, AX, BX, hz3, f0, f1, f2, f3, f4, f5⟩ := new_put3 w2 87 (.int .i64 0) (.string ⟨#[]⟩) (.int .i64 0) (.int .i64 K) (.string (stg name)) (.int .i64 L)
   have hA := hA.keep BX
   have GW := Lib.hid (grown_on GW.out (grown_on hG2 (grown_below BX _)))
   have RX := Lib.hid ((RX.out.grown hG2 (by have := hg'.out; omega)).kept BX)
   have AU := Lib.hid ((AU.out.grown hG2 hgw1.out).kept BX)
   have hs2 : Hid (U.heap.size <= w2.heap.size) := hG2.size
   have HM := pMark_c X g gt n c ts l2 hA he 123
   have HV : Hid (P = (takeM 123 l2).bind fun _ r3 => tailB2 t.text name t.line (untR fieldP [] r3)) := by show _ = _; rw [HV.out, hn]; rfl
   have AX := Lib.hid AX
   have hgw2 : Hid (w2.heap.size ≠ g) := fun e => by have := hg'.out; have := hs1.out; have := hs2.out; omega
   cases hm : atMark 123 l2 with
   | false =>
    rw [hm, if_neg (by decide)] at HM
    have HM := Lib.hid HM
    have HV : Hid (P = .bad (lineP l2)) := by
     show _ = _
     rw [HV.out, takeM_at, hm]
     rfl
    clear HN BX hG2 hA hn hm
    go_wp2_with fail
    clear e2 e3 f0 f1 f2 f3 f4 f5
    refine HM.out.mono ?_
    rintro e w3 ⟨rfl, hA, hG3⟩
    have RX := RX.out.grown hG3 (by have := hg'.out; omega)
    obtain ⟨Y, e6, hY, AY, f0, f1, f2, f3, f4, f5, f6, f7⟩ := put_box4 RX (.string ⟨#[]⟩) (.string ⟨#[]⟩) (.slice none 0 0) (.int .i64 0)
    have q0 : Y.cell? ⟨b, 0, none⟩ = some (.string ⟨#[]⟩) := AY.cell 0
    have q1 : Y.cell? ⟨b, 1, none⟩ = some (.string ⟨#[]⟩) := AY.cell 1
    have q2 : Y.cell? ⟨b, 2, none⟩ = some (.slice none 0 0) := AY.cell 2
    have q3 : Y.cell? ⟨b, 3, none⟩ = some (.int .i64 0) := AY.cell 3
    have GY : Hid (w.grownBy Y (some g)) := by show World.grownBy _ _ _; rw [hY.out]; exact grown_put4 (grown_on GW.out hG3) (by omega) _ _ _ _
    have BY : Hid (BadP Y g gt n c ts (lineP l2)) := ⟨l2, by rw [hY.out]; exact hA.put4 (by have := hg'.out; omega) (by have := hgt'.out; omega) _ _ _ _, rfl⟩
    clear HM RX AY hA hG3
    go_wp2_with fail
    refine bodyPost_ret (v := .tuple #[.agg #[.string ⟨#[]⟩, .string ⟨#[]⟩, .slice none 0 0, .int .i64 0], .bool false]) (by simp [results, Tryz.results82, go_sem, q0, q1, q2, q3]) rfl ?_
    refine ⟨?_, GY.out⟩
    rw [HV.out]
    exact ⟨⟨_, _, _, _, _, _, rfl⟩, BY.out⟩
   | true =>
    rw [hm, if_pos rfl] at HM
    have HM := Lib.hid HM
    have HV : Hid (P = tailB2 t.text name t.line (untR fieldP [] (l2.drop 1))) := by
     show _ = _
     rw [HV.out, takeM_at, hm]
     rfl
    clear HN BX hG2 hA hn hm
    go_wp2_with fail
    clear e2 e3 f0 f1 f2 f3 f4 f5
    refine HM.out.mono ?_
    rintro e w3 ⟨rfl, hA, hG3⟩
    have RX := RX.out.grown hG3 (by have := hg'.out; omega)
    have AU := AU.out.grown hG3 hgw1.out
    have AX := AX.out.grown hG3 hgw2.out
    obtain ⟨Z0, Z, e4, e5, AZ, BZ, hz4, f0, f1, f2, f3, f4, f5, f6, f7⟩ := new_put4 w3 55 (.string ⟨#[]⟩) (.string ⟨#[]⟩) (.slice none 0 0) (.int .i64 0) (.string (stg t.text)) (.string (stg name)) (.slice none 0 0) (.int .i64 (t.line : Int))
    have q1 : w3.cell? ⟨w1.heap.size, 1, none⟩ = some (.string (stg t.text)) := AU.cell 1
    have q2 : w3.cell? ⟨w1.heap.size, 2, none⟩ = some (.int .i64 (t.line : Int)) := AU.cell 2
    have q3 : w3.cell? ⟨w2.heap.size, 1, none⟩ = some (.string (stg name)) := AX.cell 1
    have hA := Lib.hid (hA.keep BZ)
    have BS : Hid (BSt w Z g w3.heap.size (.string (stg t.text)) (.string (stg name)) (.int .i64 (t.line : Int)) none 0 0 []) := by
     refine ⟨[], ⟨by rw [hb]; exact World.ownsRow_nil _ _ _ _, AZ, by rw [hb]; exact RX.kept BZ, grown_on GW.out (grown_on hG3 (grown_below BZ _)), ?_, by have := hg'.out; omega⟩, rfl⟩
     have := RX.lt
     omega
    obtain ⟨bb, hbb⟩ : ∃ bb, w3.heap.size = bb := ⟨_, rfl⟩
    rw [hbb] at BS e5 f0 f1 f2 f3 f4 f5 f6 f7
    have hlen : Hid (0 + (l2.drop 1).length <= ts.length) := by show _ <= _; have := hA.out.sub; omega
    clear HM RX AU AX AZ BZ hG3 GW hz4
    go_wp2_with fail
    clear e4 e5 f0 f1 f2 f3 f4 f5 f6 f7 q1 q2 q3
    go_loopw [9, 10] (fun _ _ wr => ∃ (ao : Option Addr) (m d : Nat) (l : List Tok) (fs : List Fld), AtP wr g gt n c ts l /\ BSt w wr g bb (.string (stg t.text)) (.string (stg name)) (.int .i64 (t.line : Int)) ao m d fs /\ Hid (P = tailB2 t.text name t.line (untR fieldP fs l)) /\ m + l.length <= ts.length) (fun _ _ wr => psN g wr)
    case atStart => exact ⟨none, 0, 0, _, [], hA.out, BS.out, HV, hlen.out⟩
    case round =>
     clear hA BS HV hlen
     obtain ⟨ao, m, d, l, fs, hA, BS, hR, hm⟩ := hrel
     have hme := Lib.hid hA.psN
     have HM := pMark_c wr g gt n c ts l hA he 125
     have BS := Lib.hid BS
     cases hq : atMark 125 l with
     | true =>
      rw [hq, if_pos rfl] at HM
      have HM := Lib.hid HM
      have hR : Hid (P = .ok ⟨t.text, name, fs, t.line⟩ (l.drop 1)) := by
       show _ = _
       rw [hR.out, untR_end hq]
       unfold tailB2
       rw [PR.bind_ok, takeM_at, hq]
       rfl
      clear hA hq
      go_wp2_with fail
      refine HM.out.mono ?_
      rintro e w4 ⟨rfl, hA, hG4⟩
      have BS := BS.out.call hG4
      have hR2 := BS.res
      rw [hb] at hR2
      have y0 : w4.cell? ⟨bb, 0, none⟩ = some (.string (stg t.text)) := BS.box.cell 0
      have y1 : w4.cell? ⟨bb, 1, none⟩ = some (.string (stg name)) := BS.box.cell 1
      have y2 : w4.cell? ⟨bb, 2, none⟩ = some (.slice ao m d) := BS.box.cell 2
      have y3 : w4.cell? ⟨bb, 3, none⟩ = some (.int .i64 (t.line : Int)) := BS.box.cell 3
      obtain ⟨Y, e6, hY, AY, f0, f1, f2, f3, f4, f5, f6, f7⟩ := put_box4 hR2 (.string (stg t.text)) (.string (stg name)) (.slice ao m d) (.int .i64 (t.line : Int))
      have q0 : Y.cell? ⟨b, 0, none⟩ = some (.string (stg t.text)) := AY.cell 0
      have q1 : Y.cell? ⟨b, 1, none⟩ = some (.string (stg name)) := AY.cell 1
      have q2 : Y.cell? ⟨b, 2, none⟩ = some (.slice ao m d) := AY.cell 2
      have q3 : Y.cell? ⟨b, 3, none⟩ = some (.int .i64 (t.line : Int)) := AY.cell 3
      have GY : Hid (w.grownBy Y (some g)) := by show World.grownBy _ _ _; rw [hY.out]; exact grown_put4 BS.grown (by omega) _ _ _ _
      have AT : Hid (AtP Y g gt n c ts (l.drop 1)) := by show AtP _ _ _ _ _ _ _; rw [hY.out]; exact hA.put4 (by have := hg'.out; omega) (by have := hgt'.out; omega) _ _ _ _
      have FL : Hid (FldL true (ownF w.heap.size [9, 63]) Y ao m d fs) := by
       show FldL _ _ _ _ _ _ _
       rw [hY.out]
       exact BS.flds.keep (stable_own _ _) (keeps_put4 hR2 (by decide) _ _ _ _)
      clear HM BS hR2 AY hA hG4
      go_wp2_with fail
      refine bodyPost_ret (v := .tuple #[.agg #[.string (stg t.text), .string (stg name), .slice ao m d, .int .i64 (t.line : Int)], .bool true]) (by simp [results, Tryz.results82, go_sem, q0, q1, q2, q3]) rfl ?_
      refine ⟨?_, GY.out⟩
      rw [hR.out]
      exact ⟨⟨ao, m, d, rfl, FL.out⟩, AT.out⟩
     | false =>
      rw [hq, if_neg (by decide)] at HM
      have HM := Lib.hid HM
      have hq := Lib.hid hq
      clear hA
      go_wp2_with fail
      refine HM.out.mono ?_
      rintro e w4 ⟨rfl, hA, hG4⟩
      have BS := Lib.hid (BS.out.call hG4)
      have hw4 : Hid (w.heap.size <= w4.heap.size) := BS.out.grown.size
      have HF := pField_c w4 g gt n c ts l hA he hsz hts
      cases hv : fieldP l with
      | bad ln =>
       rw [hv] at HF
       have HF := Lib.hid HF
       have hR : Hid (P = .bad ln) := by show _ = _; rw [hR.out, untR_bad hq.out hv]; rfl
       clear HM hA hG4 hv
       go_wp2_with fail
       refine HF.out.mono ?_
       rintro e w5 ⟨⟨⟨S, ao2, m2, d2, z, rfl⟩, hB⟩, hG5⟩
       obtain ⟨X0, X, e2, e3, AX, BX, hz3, f0, f1, f2, f3, f4, f5⟩ := new_put3 w5 63 (.string ⟨#[]⟩) (.slice none 0 0) (.int .i64 0) (.string S) (.slice ao2 m2 d2) (.int .i64 z)
       have BS := (BS.out.call hG5).keep BX
       have hR2 := BS.res
       rw [hb] at hR2
       obtain ⟨Y, e6, hY, AY, k0, k1, k2, k3, k4, k5, k6, k7⟩ := put_box4 hR2 (.string ⟨#[]⟩) (.string ⟨#[]⟩) (.slice none 0 0) (.int .i64 0)
       have q0 : Y.cell? ⟨b, 0, none⟩ = some (.string ⟨#[]⟩) := AY.cell 0
       have q1 : Y.cell? ⟨b, 1, none⟩ = some (.string ⟨#[]⟩) := AY.cell 1
       have q2 : Y.cell? ⟨b, 2, none⟩ = some (.slice none 0 0) := AY.cell 2
       have q3 : Y.cell? ⟨b, 3, none⟩ = some (.int .i64 0) := AY.cell 3
       have GY : Hid (w.grownBy Y (some g)) := by show World.grownBy _ _ _; rw [hY.out]; exact grown_put4 BS.grown (by omega) _ _ _ _
       have BY : Hid (BadP Y g gt n c ts ln) := by
        obtain ⟨l', h1, h2⟩ := hB
        exact ⟨l', by rw [hY.out]; exact (h1.keep BX).put4 (by have := hg'.out; omega) (by have := hgt'.out; omega) _ _ _ _, h2⟩
       clear HF AX BX BS hR2 AY hB hG5
       go_wp2_with fail
       refine bodyPost_ret (v := .tuple #[.agg #[.string ⟨#[]⟩, .string ⟨#[]⟩, .slice none 0 0, .int .i64 0], .bool false]) (by simp [results, Tryz.results82, go_sem, q0, q1, q2, q3]) rfl ?_
       refine ⟨?_, GY.out⟩
       rw [hR.out]
       exact ⟨⟨_, _, _, _, _, _, rfl⟩, BY.out⟩
      | ok f r2 =>
       rw [hv] at HF
       have HF := Lib.hid HF
       have hR : Hid (P = tailB2 t.text name t.line (untR fieldP (fs ++ [f]) r2)) := by show _ = _; rw [hR.out, untR_ok (fun _ _ _ h => field_lt h) hq.out hv]
       have hlt := field_lt hv
       clear HM hA hv
       go_wp2_with fail
       refine HF.out.mono ?_
       rintro e w5 ⟨⟨⟨ao2, m2, d2, rfl, hSL⟩, hA⟩, hG5⟩
       obtain ⟨X0, X, e2, e3, AX, BX, hz3, f0, f1, f2, f3, f4, f5⟩ := new_put3 w5 63 (.string ⟨#[]⟩) (.slice none 0 0) (.int .i64 0) (.string (stg f.key)) (.slice ao2 m2 d2) (.int .i64 (f.line : Int))
       have BS := (BS.out.call hG5).keep BX
       have hA := hA.keep BX
       obtain ⟨us, LS, FC⟩ := BS
       have hSL : StrL (ownF w.heap.size [9]) X ao2 m2 d2 f.vals := (Row.keep hSL (stable_own _ _) (keeps_below _ BX)).mono (own_mono hw4.out (by simp))
       have p0 : X.cell? ⟨w5.heap.size, 0, none⟩ = some (.string (stg f.key)) := AX.cell 0
       have p1 : X.cell? ⟨w5.heap.size, 1, none⟩ = some (.slice ao2 m2 d2) := AX.cell 1
       have p2 : X.cell? ⟨w5.heap.size, 2, none⟩ = some (.int .i64 (f.line : Int)) := AX.cell 2
       have y2 : X.cell? ⟨bb, 2, none⟩ = some (.slice ao m d) := LS.box.cell 2
       have hsX : b <= X.heap.size := by have := LS.size; omega
       have LS := Lib.hid LS
       have FC := Lib.hid FC
       have hA := Lib.hid hA
       have hSL := Lib.hid hSL
       clear HF AX BX hG5 hz3
       go_wp2_with (at_builtin; refine wpList_appR (vs := [.string (stg f.key), .slice ao2 m2 d2, .int .i64 (f.line : Int)]) Tryz.underlying53 infoF rfl (by decide) (by decide) LS.out.own (by omega) (by omega) rfl (by intro u hu; simp at hu; rcases hu with rfl | rfl | rfl <;> rfl) rfl rfl ?_)
       intro ao3 d3 w6 O3 G3 B3
       obtain ⟨Y, e6, LS3, hY, k0, k1, K3⟩ := LS.out.push (Es := [9]) (by decide) (by decide) (by decide) O3 G3 B3
       have BS3 : Hid (BSt w Y g bb (.string (stg t.text)) (.string (stg name)) (.int .i64 (t.line : Int)) ao3 (m + 1) d3 (fs ++ [f])) :=
        ⟨_, LS3, FCells.append (FC.out.keep (stable_own _ _) K3) ⟨ao2, m2, d2, _, [], rfl, Row.keep hSL.out (stable_own _ _) K3, fun _ => rfl, rfl⟩⟩
       have hA3 : Hid (AtP Y g gt n c ts r2) := by
        show AtP _ _ _ _ _ _ _
        rw [hY.out]
        exact (hA.out.low B3 (by rw [hb]; exact hg'.out) (by rw [hb]; exact hgt'.out)).far (by show g ≠ bb; have := LS3.new; have := hg'.out; omega) (by show gt ≠ bb; have := LS3.new; have := hgt'.out; omega) _
       clear e2 e3 f0 f1 f2 f3 f4 f5 LS FC hA hSL O3 G3 B3 LS3 K3 p0 p1 p2
       have k0 : w6.cell? ⟨bb, 2, none⟩ = some (.slice ao m d) := k0
       have k1 : w6.frozen? ⟨bb, 2, none⟩ = false := k1
       have e6 : w6.setCell ⟨bb, 2, none⟩ (.slice ao3 (m + 1) d3) = Y := e6
       go_wp2_with fail
       go_roundw
       case rel => exact ⟨ao3, m + 1, d3, r2, fs ++ [f], hA3.out, BS3.out, hR, by omega⟩
       case measure => rw [hA3.out.psN, hme.out]; omega
 . have HT := Lib.hid (pTake_not V g gt n c ts r t hA 1 k1)
   have HV : Hid (P = .bad t.line) := by
    show _ = _
    rw [<- hP.out, blockP_step, show takeK 1 (t :: r) = .bad t.line from if_neg k1]
    rfl
   have AV := Lib.hid AV
   have hg' := Lib.hid hg
   have hgt' := Lib.hid hgt
   clear hA k1 hP hg hgt
   go_enter Tryz.func82, Tryz.ntmps82
   go_wp2_with fail
   refine HT.out.mono ?_
   rintro e w1 ⟨rfl, hA, hG1⟩
   obtain ⟨U0, U, e2, e3, AU, BU, hz2, f0, f1, f2, f3, f4, f5⟩ := new_put3 w1 87 (.int .i64 0) (.string ⟨#[]⟩) (.int .i64 0) (.int .i64 0) (.string ⟨#[]⟩) (.int .i64 0)
   have hA := hA.keep BU
   have GW := grown_on hG.out (grown_on hG1 (grown_below BU _))
   have RX : Arr U b 55 [.string ⟨#[]⟩, .string ⟨#[]⟩, .slice none 0 0, .int .i64 0] := (AV.out.grown hG1 (by have := hg'.out; omega)).kept BU
   obtain ⟨Y, e6, hY, AY, d0, d1, d2, d3, d4, d5, d6, d7⟩ := put_box4 RX (.string ⟨#[]⟩) (.string ⟨#[]⟩) (.slice none 0 0) (.int .i64 0)
   have q0 : Y.cell? ⟨b, 0, none⟩ = some (.string ⟨#[]⟩) := AY.cell 0
   have q1 : Y.cell? ⟨b, 1, none⟩ = some (.string ⟨#[]⟩) := AY.cell 1
   have q2 : Y.cell? ⟨b, 2, none⟩ = some (.slice none 0 0) := AY.cell 2
   have q3 : Y.cell? ⟨b, 3, none⟩ = some (.int .i64 0) := AY.cell 3
   have GY : Hid (w.grownBy Y (some g)) := by show World.grownBy _ _ _; rw [hY.out]; exact grown_put4 GW (by omega) _ _ _ _
   have BY : Hid (BadP Y g gt n c ts t.line) := ⟨t :: r, by rw [hY.out]; exact hA.put4 (by have := hg'.out; omega) (by have := hgt'.out; omega) _ _ _ _, rfl⟩
   clear HT AU BU hG1 GW RX AY hA
   go_wp2_with fail
   refine bodyPost_ret (v := .tuple #[.agg #[.string ⟨#[]⟩, .string ⟨#[]⟩, .slice none 0 0, .int .i64 0], .bool false]) (by simp [results, Tryz.results82, go_sem, q0, q1, q2, q3]) rfl ?_
   refine ⟨?_, GY.out⟩
   rw [HV.out]
   exact ⟨⟨_, _, _, _, _, _, rfl⟩, BY.out⟩
end Go.Proofs.YtemdkkphmldgjaaGreatDoor
namespace Go.Proofs.YtemdkkphmldgjaaGreatDoor
open Go.RowKit Lx
def PDefOut (B : Nat) (w' : World) (g gt n c : Nat) (ts : List Tok) (p : PR Src) (e : Ending) : Prop := match p with
 | .ok s _ => ∃ ao m d, e = .returned (.tuple #[.agg #[.string (stg s.title), .slice ao m d], .bool true]) /\ BlkL true (ownF B [9, 63, 55]) w' ao m d s.blks
 | .bad ln => (∃ S ao m d, e = .returned (.tuple #[.agg #[.string S, .slice ao m d], .bool false])) /\ BadP w' g gt n c ts ln
theorem takeE_at (l : List Tok) (t : Tok) (r : List Tok) (h : l = t :: r) (b : Bool) (hb : b = (decide (t.kind = 1) && decide (t.text = elec))) : takeE l = if b then .ok () (l.drop 1) else .bad (lineP l) := by
 subst h hb
 show (if t.kind = 1 /\ t.text = elec then _ else _) = _
 by_cases h : t.kind = 1 /\ t.text = elec
 . rw [if_pos h, if_pos (by rw [decide_eq_true h.1, decide_eq_true h.2]; rfl)]; rfl
 . rw [if_neg h, if_neg]
   . rfl
   . intro e
     rw [Bool.and_eq_true, decide_eq_true_eq, decide_eq_true_eq] at e
     exact h e
theorem pDef_c (w : World) (g gt n c : Nat) (ts l : List Tok) (h : AtP w g gt n c ts l) (he : EndsT ts) (hsz : ∀ t ∈ ts, t.text.length <= 500000) (hts : ts.length <= 1000000) :
    Calls Tryz.prog 39 #[.pointer (some ⟨g, 0, none⟩)] w fun e w' => PDefOut w.heap.size w' g gt n c ts (sourceP l) e /\ w.grownBy w' (some g) := by
 obtain ⟨hg, hgt⟩ := h.sizes
 obtain ⟨V, e1, AV, BV, hz⟩ := new_box w 24 [.string ⟨#[]⟩, .slice none 0 0]
 have hA := h.keep BV
 have hG := Lib.hid (grown_below BV (some g))
 obtain ⟨b, hb⟩ : ∃ b, w.heap.size = b := ⟨_, rfl⟩
 rw [hb] at AV BV hz hg hgt
 obtain ⟨P, hP⟩ : ∃ P, Hid (sourceP l = P) := ⟨_, rfl⟩
 rw [hP.out]
 obtain ⟨i, t, r, _, _, hl, _⟩ := h.head
 clear h BV
 have HT := Lib.hid (pTok_c V g gt n c ts l hA he 1 (by decide) elec)
 have AV := Lib.hid AV
 have hg' := Lib.hid hg
 have hgt' := Lib.hid hgt
 have hl := Lib.hid hl
 clear hA hg hgt
 go_enter Tryz.func39, Tryz.ntmps39
 go_wp2_with fail
 refine HT.out.mono ?_
 rintro e w1 ⟨tb, rfl, htb, hA, hG1⟩
 have hE := takeE_at l t r hl.out tb (htb t r hl.out)
 have hsp := sourceP_step l
 rw [hP.out, hE] at hsp
 cases tb with
 | false =>
  rw [if_neg (by decide)] at hA hsp
  have HV : Hid (P = .bad (lineP l)) := hsp
  have RX := AV.out.grown hG1 (by have := hg'.out; omega)
  obtain ⟨Y, e6, hY, AY, f0, f1, f2, f3⟩ := put_box2 RX (.string ⟨#[]⟩) (.slice none 0 0)
  have q0 : Y.cell? ⟨b, 0, none⟩ = some (.string ⟨#[]⟩) := AY.cell 0
  have q1 : Y.cell? ⟨b, 1, none⟩ = some (.slice none 0 0) := AY.cell 1
  have GY : Hid (w.grownBy Y (some g)) := by show World.grownBy _ _ _; rw [hY.out]; exact grown_put2 (grown_on hG.out hG1) (by omega) _ _
  have BY : Hid (BadP Y g gt n c ts (lineP l)) := ⟨l, by rw [hY.out]; exact hA.put2 (by have := hg'.out; omega) (by have := hgt'.out; omega) _ _, rfl⟩
  clear HT RX AY hA hG1 hE hsp htb e1
  go_wp2_with fail
  refine bodyPost_ret (v := .tuple #[.agg #[.string ⟨#[]⟩, .slice none 0 0], .bool false]) (by simp [results, Tryz.results39, go_sem, q0, q1]) rfl ?_
  refine ⟨?_, GY.out⟩
  rw [HV.out]
  exact ⟨⟨_, _, _, _, rfl⟩, BY.out⟩
 | true =>
  rw [if_pos rfl] at hA hsp
  rw [PR.bind_ok] at hsp
  have RX := Lib.hid (AV.out.grown hG1 (by have := hg'.out; omega))
  have hG := Lib.hid (grown_on hG.out hG1)
  obtain ⟨i2, u, r2, _, _, hl2, _⟩ := hA.head
  have hs1 : Hid (V.heap.size <= w1.heap.size) := hG1.size
  rw [hl2] at hA hsp
  by_cases k3 : u.kind = 3
  . have HT3 := Lib.hid (pTake_yes w1 g gt n c ts r2 u hA he 3 k3 (by decide))
    have HV : Hid (P = (takeM 123 r2).bind fun _ r3 => tailS u.text (untR blockP [] r3)) := by
     show _ = _
     rw [hsp, show takeK 3 (u :: r2) = .ok u.text r2 from if_pos k3]
     rfl
    clear HT hA hG1 hE hsp htb hl2 k3 e1
    go_wp2_with fail
    refine HT3.out.mono ?_
    rintro e w2 ⟨rfl, hA, hG2⟩
    obtain ⟨X0, X, e2, e3, AX, BX, hz3, f0, f1, f2, f3, f4, f5⟩ := new_put3 w2 87 (.int .i64 0) (.string ⟨#[]⟩) (.int .i64 0) (.int .i64 (u.kind : Int)) (.string (stg u.text)) (.int .i64 (u.line : Int))
    have hA := hA.keep BX
    have GW := Lib.hid (grown_on hG.out (grown_on hG2 (grown_below BX _)))
    have RX := Lib.hid ((RX.out.grown hG2 (by have := hg'.out; omega)).kept BX)
    have hs2 : Hid (w1.heap.size <= w2.heap.size) := hG2.size
    have hgw2 : Hid (w2.heap.size ≠ g) := fun e => by have := hg'.out; have := hs1.out; have := hs2.out; omega
    have HM := pMark_c X g gt n c ts r2 hA he 123
    have AX := Lib.hid AX
    cases hm : atMark 123 r2 with
    | false =>
     rw [hm, if_neg (by decide)] at HM
     have HM := Lib.hid HM
     have HV : Hid (P = .bad (lineP r2)) := by
      show _ = _
      rw [HV.out, takeM_at, hm]
      rfl
     clear HT3 BX hG2 hA hm
     go_wp2_with fail
     clear e2 e3 f0 f1 f2 f3 f4 f5
     refine HM.out.mono ?_
     rintro e w3 ⟨rfl, hA, hG3⟩
     have RX := RX.out.grown hG3 (by have := hg'.out; omega)
     obtain ⟨Y, e6, hY, AY, f0, f1, f2, f3⟩ := put_box2 RX (.string ⟨#[]⟩) (.slice none 0 0)
     have q0 : Y.cell? ⟨b, 0, none⟩ = some (.string ⟨#[]⟩) := AY.cell 0
     have q1 : Y.cell? ⟨b, 1, none⟩ = some (.slice none 0 0) := AY.cell 1
     have GY : Hid (w.grownBy Y (some g)) := by show World.grownBy _ _ _; rw [hY.out]; exact grown_put2 (grown_on GW.out hG3) (by omega) _ _
     have BY : Hid (BadP Y g gt n c ts (lineP r2)) := ⟨r2, by rw [hY.out]; exact hA.put2 (by have := hg'.out; omega) (by have := hgt'.out; omega) _ _, rfl⟩
     clear HM RX AY hA hG3
     go_wp2_with fail
     refine bodyPost_ret (v := .tuple #[.agg #[.string ⟨#[]⟩, .slice none 0 0], .bool false]) (by simp [results, Tryz.results39, go_sem, q0, q1]) rfl ?_
     refine ⟨?_, GY.out⟩
     rw [HV.out]
     exact ⟨⟨_, _, _, _, rfl⟩, BY.out⟩
    | true =>
     rw [hm, if_pos rfl] at HM
     have HM := Lib.hid HM
     have HV : Hid (P = tailS u.text (untR blockP [] (r2.drop 1))) := by
      show _ = _
      rw [HV.out, takeM_at, hm]
      rfl
     clear HT3 BX hG2 hA hm
     go_wp2_with fail
     clear e2 e3 f0 f1 f2 f3 f4 f5
     refine HM.out.mono ?_
     rintro e w3 ⟨rfl, hA, hG3⟩
     have RX := RX.out.grown hG3 (by have := hg'.out; omega)
     have AX := AX.out.grown hG3 hgw2.out
     obtain ⟨Z0, Z, e4, e5, AZ, BZ, hz4, f0, f1, f2, f3⟩ := new_put2 w3 24 (.string ⟨#[]⟩) (.slice none 0 0) (.string (stg u.text)) (.slice none 0 0)
     have q1 : w3.cell? ⟨w2.heap.size, 1, none⟩ = some (.string (stg u.text)) := AX.cell 1
     have hA := Lib.hid (hA.keep BZ)
     have SS : Hid (SSt w Z g w3.heap.size (.string (stg u.text)) none 0 0 []) := by
      refine ⟨[], ⟨by rw [hb]; exact World.ownsRow_nil _ _ _ _, AZ, by rw [hb]; exact RX.kept BZ, grown_on GW.out (grown_on hG3 (grown_below BZ _)), ?_, by have := hg'.out; omega⟩, rfl⟩
      have := RX.lt
      omega
     obtain ⟨sb, hsb⟩ : ∃ bb, w3.heap.size = bb := ⟨_, rfl⟩
     rw [hsb] at SS e5 f0 f1 f2 f3
     have hlen : Hid (0 + (r2.drop 1).length <= ts.length) := by show _ <= _; have := hA.out.sub; omega
     clear HM RX AX AZ BZ hG3 GW hz4
     go_wp2_with fail
     clear e4 e5 f0 f1 f2 f3 q1
     go_loopw [7, 8] (fun _ _ wr => ∃ (ao : Option Addr) (m d : Nat) (l : List Tok) (bs : List Blc), AtP wr g gt n c ts l /\ SSt w wr g sb (.string (stg u.text)) ao m d bs /\ Hid (P = tailS u.text (untR blockP bs l)) /\ m + l.length <= ts.length) (fun _ _ wr => psN g wr)
     case atStart => exact ⟨none, 0, 0, _, [], hA.out, SS.out, HV, hlen.out⟩
     case round =>
      clear hA SS HV hlen
      obtain ⟨ao, m, d, l, bs, hA, SS, hR, hm⟩ := hrel
      have hme := Lib.hid hA.psN
      have HM := pMark_c wr g gt n c ts l hA he 125
      have SS := Lib.hid SS
      cases hq : atMark 125 l with
      | true =>
       rw [hq, if_pos rfl] at HM
       have HM := Lib.hid HM
       have hR : Hid (P = (takeK 5 (l.drop 1)).bind fun _ r3 => .ok ⟨u.text, bs⟩ r3) := by
        show _ = _
        rw [hR.out, untR_end hq]
        unfold tailS
        rw [PR.bind_ok, takeM_at, hq]
        rfl
       clear hA hq
       go_wp2_with fail
       refine HM.out.mono ?_
       rintro e w4 ⟨rfl, hA, hG4⟩
       have SS := (SS.out.call hG4).keep (Below.drew (Below.refl _ _))
       have hA := hA.keep (Below.drew (Below.refl _ _))
       obtain ⟨W, hW⟩ : ∃ W, w4.drew = W := ⟨_, rfl⟩
       rw [hW] at SS hA
       obtain ⟨i3, v, r3, hPs, hv, hl3, _⟩ := hA.head
       have HN := Lib.hid (next_c W g gt n c ts i3 hPs v hv 5)
       have hR : Hid (P = (if v.kind = 5 then .ok ⟨u.text, bs⟩ r3 else .bad v.line)) := by
        show _ = _
        rw [hR.out, hl3]
        show (if v.kind = 5 then _ else _ : PR _).bind _ = _
        by_cases h5 : v.kind = 5
        . rw [if_pos h5, if_pos h5]; rfl
        . rw [if_neg h5, if_neg h5]; rfl
       obtain ⟨nb, hnb⟩ : ∃ nb, Hid (decide (v.kind = 5) = nb) := ⟨_, rfl⟩
       rw [hnb.out] at HN
       have y0 : W.cell? ⟨sb, 0, none⟩ = some (.string (stg u.text)) := SS.box.cell 0
       have y1 : W.cell? ⟨sb, 1, none⟩ = some (.slice ao m d) := SS.box.cell 1
       have hR2 := SS.res
       rw [hb] at hR2
       obtain ⟨Y, e6, hY, AY, f0, f1, f2, f3⟩ := put_box2 hR2 (.string (stg u.text)) (.slice ao m d)
       have EY := SS.box.off2 (b := b) (by have := SS.new; omega) (.string (stg u.text)) (.slice ao m d)
       rw [<- hY.out] at EY
       have p0 : Y.cell? ⟨sb, 0, none⟩ = some (.string (stg u.text)) := EY.cell 0
       have p1 : Y.cell? ⟨sb, 1, none⟩ = some (.slice ao m d) := EY.cell 1
       have q0 : Y.cell? ⟨b, 0, none⟩ = some (.string (stg u.text)) := AY.cell 0
       have q1 : Y.cell? ⟨b, 1, none⟩ = some (.slice ao m d) := AY.cell 1
       have GY : Hid (w.grownBy Y (some g)) := by show World.grownBy _ _ _; rw [hY.out]; exact grown_put2 SS.grown (by omega) _ _
       have AT : Hid (AtP Y g gt n c ts (v :: r3)) := by show AtP _ _ _ _ _ _ _; rw [hY.out, <- hl3]; exact hA.put2 (by have := hg'.out; omega) (by have := hgt'.out; omega) _ _
       have BL : Hid (BlkL true (ownF w.heap.size [9, 63, 55]) Y ao m d bs) := by
        show BlkL _ _ _ _ _ _ _
        rw [hY.out]
        exact SS.blks.keep (stable_own _ _) (keeps_put2 hR2 (by decide) _ _)
       clear HM SS hA hG4 hR2 hPs hv hl3 EY AY
       go_wp2_with fail
       go_region_held3 (fun w' => w'.cell? ⟨sb, 0, none⟩ = some (.string (stg u.text)) /\ w'.cell? ⟨sb, 1, none⟩ = some (.slice ao m d)) (go_keep) (first
         | (go_at_call 83; refine HN.out.mono ?_; rintro e w5 ⟨rfl, rfl⟩)
         | fail)
       all_goals
         go_wp2_with fail
         refine bodyPost_ret (v := .tuple #[.agg #[.string (stg u.text), .slice ao m d], .bool nb]) (by simp [results, Tryz.results39, go_sem, q0, q1]) rfl ?_
         refine ⟨?_, GY.out⟩
         rw [hR.out]
         cases nb with
         | true =>
          rw [if_pos (of_decide_eq_true hnb.out)]
          exact ⟨ao, m, d, rfl, BL.out⟩
         | false =>
          rw [if_neg (of_decide_eq_false hnb.out)]
          exact ⟨⟨_, _, _, _, rfl⟩, v :: r3, AT.out, rfl⟩
      | false =>
       rw [hq, if_neg (by decide)] at HM
       have HM := Lib.hid HM
       have hq := Lib.hid hq
       clear hA
       go_wp2_with fail
       refine HM.out.mono ?_
       rintro e w4 ⟨rfl, hA, hG4⟩
       have SS := Lib.hid (SS.out.call hG4)
       have hw4 : Hid (w.heap.size <= w4.heap.size) := SS.out.grown.size
       have HF := pBlock_c w4 g gt n c ts l hA he hsz hts
       cases hv : blockP l with
       | bad ln =>
        rw [hv] at HF
        have HF := Lib.hid HF
        have hR : Hid (P = .bad ln) := by show _ = _; rw [hR.out, untR_bad hq.out hv]; rfl
        clear HM hA hG4 hv
        go_wp2_with fail
        refine HF.out.mono ?_
        rintro e w5 ⟨⟨⟨S, S2, ao2, m2, d2, z, rfl⟩, hB⟩, hG5⟩
        obtain ⟨X0, X, e2, e3, AX, BX, hz3, f0, f1, f2, f3, f4, f5, f6, f7⟩ := new_put4 w5 55 (.string ⟨#[]⟩) (.string ⟨#[]⟩) (.slice none 0 0) (.int .i64 0) (.string S) (.string S2) (.slice ao2 m2 d2) (.int .i64 z)
        have SS := (SS.out.call hG5).keep BX
        have hR2 := SS.res
        rw [hb] at hR2
        obtain ⟨Y, e6, hY, AY, k0, k1, k2, k3⟩ := put_box2 hR2 (.string ⟨#[]⟩) (.slice none 0 0)
        have q0 : Y.cell? ⟨b, 0, none⟩ = some (.string ⟨#[]⟩) := AY.cell 0
        have q1 : Y.cell? ⟨b, 1, none⟩ = some (.slice none 0 0) := AY.cell 1
        have GY : Hid (w.grownBy Y (some g)) := by show World.grownBy _ _ _; rw [hY.out]; exact grown_put2 SS.grown (by omega) _ _
        have BY : Hid (BadP Y g gt n c ts ln) := by
         obtain ⟨l', h1, h2⟩ := hB
         exact ⟨l', by rw [hY.out]; exact (h1.keep BX).put2 (by have := hg'.out; omega) (by have := hgt'.out; omega) _ _, h2⟩
        clear HF AX BX SS hR2 AY hB hG5
        go_wp2_with fail
        refine bodyPost_ret (v := .tuple #[.agg #[.string ⟨#[]⟩, .slice none 0 0], .bool false]) (by simp [results, Tryz.results39, go_sem, q0, q1]) rfl ?_
        refine ⟨?_, GY.out⟩
        rw [hR.out]
        exact ⟨⟨_, _, _, _, rfl⟩, BY.out⟩
       | ok f r3 =>
        rw [hv] at HF
        have HF := Lib.hid HF
        have hR : Hid (P = tailS u.text (untR blockP (bs ++ [f]) r3)) := by show _ = _; rw [hR.out, untR_ok (fun _ _ _ h => block_lt h) hq.out hv]
        have hlt := block_lt hv
        clear HM hA hv
        go_wp2_with fail
        refine HF.out.mono ?_
        rintro e w5 ⟨⟨⟨ao2, m2, d2, rfl, hFL⟩, hA⟩, hG5⟩
        obtain ⟨X0, X, e2, e3, AX, BX, hz3, f0, f1, f2, f3, f4, f5, f6, f7⟩ := new_put4 w5 55 (.string ⟨#[]⟩) (.string ⟨#[]⟩) (.slice none 0 0) (.int .i64 0) (.string (stg f.kind)) (.string (stg f.name)) (.slice ao2 m2 d2) (.int .i64 (f.line : Int))
        have SS := (SS.out.call hG5).keep BX
        have hA := hA.keep BX
        obtain ⟨us, LS, FC⟩ := SS
        have hFL : FldL true (ownF w.heap.size [9, 63]) X ao2 m2 d2 f.flds := (FldL.keep hFL (stable_own _ _) (keeps_below _ BX)).mono (own_mono hw4.out (by simp))
        have p0 : X.cell? ⟨w5.heap.size, 0, none⟩ = some (.string (stg f.kind)) := AX.cell 0
        have p1 : X.cell? ⟨w5.heap.size, 1, none⟩ = some (.string (stg f.name)) := AX.cell 1
        have p2 : X.cell? ⟨w5.heap.size, 2, none⟩ = some (.slice ao2 m2 d2) := AX.cell 2
        have p3 : X.cell? ⟨w5.heap.size, 3, none⟩ = some (.int .i64 (f.line : Int)) := AX.cell 3
        have y2 : X.cell? ⟨sb, 1, none⟩ = some (.slice ao m d) := LS.box.cell 1
        have hsX : b <= X.heap.size := by have := LS.size; omega
        have LS := Lib.hid LS
        have FC := Lib.hid FC
        have hA := Lib.hid hA
        have hFL := Lib.hid hFL
        clear HF AX BX hG5 hz3
        go_wp2_with (at_builtin; refine wpList_appR (vs := [.string (stg f.kind), .string (stg f.name), .slice ao2 m2 d2, .int .i64 (f.line : Int)]) Tryz.underlying22 infoB rfl (by decide) (by decide) LS.out.own (by omega) (by omega) rfl (by intro u hu; simp at hu; rcases hu with rfl | rfl | rfl | rfl <;> rfl) rfl rfl ?_)
        intro ao3 d3 w6 O3 G3 B3
        obtain ⟨Y, e6, LS3, hY, k0, k1, K3⟩ := LS.out.push (Es := [9, 63]) (by decide) (by decide) (by decide) O3 G3 B3
        have SS3 : Hid (SSt w Y g sb (.string (stg u.text)) ao3 (m + 1) d3 (bs ++ [f])) :=
         ⟨_, LS3, BCells.append (FC.out.keep (stable_own _ _) K3) ⟨ao2, m2, d2, _, [], rfl, FldL.keep hFL.out (stable_own _ _) K3, fun _ => rfl, rfl⟩⟩
        have hA3 : Hid (AtP Y g gt n c ts r3) := by
         show AtP _ _ _ _ _ _ _
         rw [hY.out]
         exact (hA.out.low B3 (by rw [hb]; exact hg'.out) (by rw [hb]; exact hgt'.out)).far (by show g ≠ sb; have := LS3.new; have := hg'.out; omega) (by show gt ≠ sb; have := LS3.new; have := hgt'.out; omega) _
        have k0 : w6.cell? ⟨sb, 1, none⟩ = some (.slice ao m d) := k0
        have k1 : w6.frozen? ⟨sb, 1, none⟩ = false := k1
        have e6 : w6.setCell ⟨sb, 1, none⟩ (.slice ao3 (m + 1) d3) = Y := e6
        clear e2 e3 f0 f1 f2 f3 f4 f5 f6 f7 LS FC hA hFL O3 G3 B3 LS3 K3 p0 p1 p2 p3
        go_wp2_with fail
        go_roundw
        case rel => exact ⟨ao3, m + 1, d3, r3, bs ++ [f], hA3.out, SS3.out, hR, by omega⟩
        case measure => rw [hA3.out.psN, hme.out]; omega
  . have HT3 := Lib.hid (pTake_not w1 g gt n c ts r2 u hA 3 k3)
    have HV : Hid (P = .bad u.line) := by
     show _ = _
     rw [hsp, show takeK 3 (u :: r2) = .bad u.line from if_neg k3]
     rfl
    clear HT hA hG1 hE hsp htb hl2 k3 e1
    go_wp2_with fail
    refine HT3.out.mono ?_
    rintro e w2 ⟨rfl, hA, hG2⟩
    obtain ⟨X0, X, e2, e3, AX, BX, hz3, f0, f1, f2, f3, f4, f5⟩ := new_put3 w2 87 (.int .i64 0) (.string ⟨#[]⟩) (.int .i64 0) (.int .i64 0) (.string ⟨#[]⟩) (.int .i64 0)
    have hA := hA.keep BX
    have GW := grown_on hG.out (grown_on hG2 (grown_below BX _))
    have RX := (RX.out.grown hG2 (by have := hg'.out; omega)).kept BX
    obtain ⟨Y, e6, hY, AY, d0, d1, d2, d3⟩ := put_box2 RX (.string ⟨#[]⟩) (.slice none 0 0)
    have q0 : Y.cell? ⟨b, 0, none⟩ = some (.string ⟨#[]⟩) := AY.cell 0
    have q1 : Y.cell? ⟨b, 1, none⟩ = some (.slice none 0 0) := AY.cell 1
    have GY : Hid (w.grownBy Y (some g)) := by show World.grownBy _ _ _; rw [hY.out]; exact grown_put2 GW (by omega) _ _
    have BY : Hid (BadP Y g gt n c ts u.line) := ⟨u :: r2, by rw [hY.out]; exact hA.put2 (by have := hg'.out; omega) (by have := hgt'.out; omega) _ _, rfl⟩
    clear HT3 AX BX RX AY hA hG2 GW
    go_wp2_with fail
    refine bodyPost_ret (v := .tuple #[.agg #[.string ⟨#[]⟩, .slice none 0 0], .bool false]) (by simp [results, Tryz.results39, go_sem, q0, q1]) rfl ?_
    refine ⟨?_, GY.out⟩
    rw [HV.out]
    exact ⟨⟨_, _, _, _, rfl⟩, BY.out⟩
end Go.Proofs.YtemdkkphmldgjaaGreatDoor
