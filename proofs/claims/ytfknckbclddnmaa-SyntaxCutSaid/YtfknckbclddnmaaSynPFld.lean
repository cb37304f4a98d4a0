/-
  The program's reader of tokens: field.
-/
import Derived.Test.YtfknckbclddnmaaSynPVal
import Derived.Test.YtfknckbclddnmaaSynStep
import Derived.Test.YtfknckbclddnmaaSynFs
import Derived.Deep.RegionHeld3
namespace Go.Proofs.Ytfknckbclddnmaa
open Go.RowKit Lx

theorem infoS : (Try.prog.info? 9).map (fun i => (i.zero, i.size, i.bytes)) = some (some (.string ⟨#[]⟩), 1, 16) := by kernel_rfl
/-- What field hands back. -/
def PFldOut (B : Nat) (w' : World) (g gt n c : Nat) (ts : List Tok) (p : PR Fld) (e : Ending) : Prop := match p with
  | .ok f r => (∃ ao m d, e = .returned (.tuple #[.agg #[.string (stg f.key), .slice ao m d, .int .i64 (f.line : Int)], .bool true]) ∧ StrL (ownF B [9]) w' ao m d f.vals) ∧ AtP w' g gt n c ts r
  | .bad ln => (∃ S ao m d z, e = .returned (.tuple #[.agg #[.string S, .slice ao m d, .int .i64 z], .bool false])) ∧ BadP w' g gt n c ts ln
set_option maxHeartbeats 6400000 in
set_option maxRecDepth 100000 in
theorem pField_c (w : World) (g gt n c : Nat) (ts l : List Tok) (h : AtP w g gt n c ts l) (he : EndsT ts) (hsz : ∀ t ∈ ts, t.text.length ≤ 500000) (hts : ts.length ≤ 1000000) :
    Calls Try.prog 57 #[.pointer (some ⟨g, 0, none⟩)] w fun e w' => PFldOut w.heap.size w' g gt n c ts (fieldP l) e ∧ w.grownBy w' (some g) := by
  obtain ⟨i, t, r, hP, ht, rfl, hr⟩ := h.head
  obtain ⟨hg, hgt⟩ := h.sizes
  clear hP ht hr
  obtain ⟨V, e1, AV, BV, hz⟩ := new_box w 42 [.string ⟨#[]⟩, .slice none 0 0, .int .i64 0]
  have hA := h.keep BV
  have hG := Lib.hid (grown_below BV (some g))
  obtain ⟨b, hb⟩ : ∃ b, w.heap.size = b := ⟨_, rfl⟩
  rw [hb] at AV BV hz hg hgt
  obtain ⟨P, hP⟩ : ∃ P, Hid (fieldP (t :: r) = P) := ⟨_, rfl⟩
  rw [hP.out]
  clear h BV
  by_cases k1 : t.kind = 1
  · have HT := Lib.hid (pTake_yes V g gt n c ts r t hA he 1 k1 (by decide))
    have HV : Hid (P = tailF t.text t.line ((valueP r).bind fun v r2 => morR [v] r2)) := by
      show _ = _
      rw [← hP.out, fieldP_step, show takeK 1 (t :: r) = .ok t.text r from if_pos k1]
      rfl
    have AV := Lib.hid AV
    have hg' := Lib.hid hg
    have hgt' := Lib.hid hgt
    clear hA k1 hP hg hgt
    go_enter Try.func57, Try.ntmps57
    go_wp2_with fail
    refine HT.out.mono ?_
    rintro e w1 ⟨rfl, hA, hG1⟩
    obtain ⟨U0, U, e2, e3, AU, BU, hz2, f0, f1, f2, f3, f4, f5⟩ := new_put3 w1 47 (.int .i64 0) (.string ⟨#[]⟩) (.int .i64 0) (.int .i64 (t.kind : Int)) (.string (stg t.text)) (.int .i64 (t.line : Int))
    obtain ⟨X0, X, e4, e5, AX, BX, hz3, d0, d1, d2, d3, d4, d5⟩ := new_put3 U 42 (.string ⟨#[]⟩) (.slice none 0 0) (.int .i64 0) (.string (stg t.text)) (.slice none 0 0) (.int .i64 (t.line : Int))
    have hA := (hA.keep BU).keep BX
    have GW := grown_on hG.out (grown_on hG1 (grown_on (grown_below BU _) (grown_below BX _)))
    have RX : Arr X b 42 [.string ⟨#[]⟩, .slice none 0 0, .int .i64 0] := ((AV.out.grown hG1 (by have := hg'.out; omega)).kept BU).kept BX
    have hs1 : V.heap.size ≤ w1.heap.size := hG1.size
    have q1 : U.cell? ⟨w1.heap.size, 1, none⟩ = some (.string (stg t.text)) := AU.cell 1
    have q2 : U.cell? ⟨w1.heap.size, 2, none⟩ = some (.int .i64 (t.line : Int)) := AU.cell 2
    have Fh : Hid (FSt w X g U.heap.size (.string (stg t.text)) (.int .i64 (t.line : Int)) none 0 0 []) := by
      refine ⟨by rw [hb]; exact World.ownsRow_nil _ _ _ _, AX, by rw [hb]; exact RX, GW, by omega, by have := hg'.out; omega⟩
    obtain ⟨fb, hfb⟩ : ∃ fb, U.heap.size = fb := ⟨_, rfl⟩
    rw [hfb] at Fh e5 d0 d1 d2 d3 d4 d5
    have hlen : 0 + r.length ≤ ts.length := by have := hA.sub; omega
    have hA0 := Lib.hid hA
    clear HT AU BU AX BX hG1 GW RX hs1 hA hz2
    go_wp2_with fail
    clear e2 e3 e4 e5 f0 f1 f2 f3 f4 f5 d0 d1 d2 d3 d4 d5 q1 q2
    go_loopw [7, 8] (fun _ _ wr => ∃ (ao : Option Addr) (m d : Nat) (l : List Tok) (vs : List (List UInt8)), AtP wr g gt n c ts l ∧ FSt w wr g fb (.string (stg t.text)) (.int .i64 (t.line : Int)) ao m d vs ∧ Hid (P = tailF t.text t.line ((valueP l).bind fun v r2 => morR (vs ++ [v]) r2)) ∧ m + l.length ≤ ts.length) (fun _ _ wr => psN g wr)
    case atStart => exact ⟨none, 0, 0, r, [], hA0.out, Fh.out, HV, hlen⟩
    case round =>
      clear hA0 Fh HV hlen
      obtain ⟨ao, m, d, l, vs, hA, Fh, hR, hm⟩ := hrel
      have hme := Lib.hid hA.psN
      have HVv := pValue_c wr g gt n c ts l hA he hsz
      cases hv : valueP l with
      | bad ln =>
        rw [hv] at HVv hR
        have HVv := Lib.hid HVv
        have Fh := Lib.hid Fh
        have hR : Hid (P = .bad ln) := hR.out
        clear hA hv
        go_wp2_with fail
        refine HVv.out.mono ?_
        rintro e w2 ⟨⟨⟨S, rfl⟩, hB⟩, G2⟩
        have FS2 := Fh.out.call G2
        have hR2 := FS2.res
        rw [hb] at hR2
        obtain ⟨Y, e6, hY, AY, f0, f1, f2, f3, f4, f5⟩ := put_box3 hR2 (.string ⟨#[]⟩) (.slice none 0 0) (.int .i64 0)
        have q0 : Y.cell? ⟨b, 0, none⟩ = some (.string ⟨#[]⟩) := AY.cell 0
        have q1 : Y.cell? ⟨b, 1, none⟩ = some (.slice none 0 0) := AY.cell 1
        have q2 : Y.cell? ⟨b, 2, none⟩ = some (.int .i64 0) := AY.cell 2
        have GY : Hid (w.grownBy Y (some g)) := by show World.grownBy _ _ _; rw [hY.out]; exact grown_put3 FS2.grown (by omega) _ _ _
        have BY : Hid (BadP Y g gt n c ts ln) := by
          obtain ⟨l', h1, h2⟩ := hB
          exact ⟨l', by rw [hY.out]; exact h1.put3 (by have := hg'.out; omega) (by have := hgt'.out; omega) _ _ _, h2⟩
        clear HVv Fh FS2 hR2 AY hB G2
        go_wp2_with fail
        refine bodyPost_ret (v := .tuple #[.agg #[.string ⟨#[]⟩, .slice none 0 0, .int .i64 0], .bool false]) (by simp [results, Try.results57, go_sem, q0, q1, q2]) rfl ?_
        refine ⟨?_, GY.out⟩
        rw [hR.out]
        exact ⟨⟨_, _, _, _, _, rfl⟩, BY.out⟩
      | ok v r2 =>
        rw [hv] at HVv hR
        have HVv := Lib.hid HVv
        have hR : Hid (P = tailF t.text t.line (morR (vs ++ [v]) r2)) := hR.out
        have hlt := value_lt hv
        have Fh := Lib.hid Fh
        clear hA hv
        go_wp2_with fail
        refine HVv.out.mono ?_
        rintro e w2 ⟨⟨rfl, hA2⟩, G2⟩
        have FS2 := Fh.out.call G2
        have y1 : w2.cell? ⟨fb, 1, none⟩ = some (.slice ao m d) := FS2.box.cell 1
        have hs2 : b ≤ w2.heap.size := by have := FS2.res.lt; omega
        have O2 := Lib.hid FS2.own
        have hA2 := Lib.hid hA2
        have FS2 := Lib.hid FS2
        clear HVv Fh G2
        go_wp2_with (at_builtin; refine wpList_appR (vs := [.string (stg v)]) Try.underlying40 infoS rfl (by decide) (by decide) O2.out (by omega) (by omega) rfl (by intro u hu; simp at hu; subst hu; rfl) rfl rfl ?_)
        intro ao3 d3 w3 O3 G3 B3
        obtain ⟨Y, e6, FS3, hY, f0, f1⟩ := FS2.out.push O3 G3 B3
        have hA3 : AtP Y g gt n c ts r2 := by
          rw [hY.out]
          exact (hA2.out.low B3 (by rw [hb]; exact hg'.out) (by rw [hb]; exact hgt'.out)).far (by show g ≠ fb; have := FS3.new; have := hg'.out; omega) (by show gt ≠ fb; have := FS3.new; have := hgt'.out; omega) _
        have HM := pMark_c Y g gt n c ts r2 hA3 he 44
        cases hm2 : atMark 44 r2 with
        | true =>
          rw [hm2] at HM
          rw [if_pos rfl] at HM
          have HM := Lib.hid HM
          have hm2 := Lib.hid hm2
          have FS3 := Lib.hid FS3
          clear hA3 O3 G3 B3 hA2 O2 FS2
          go_wp2_with fail
          clear e6 f0 f1 y1
          refine HM.out.mono ?_
          rintro e w4 ⟨rfl, hA4, G4⟩
          have hA4 := Lib.hid hA4
          have FS4 := Lib.hid (FS3.out.call G4)
          clear HM FS3 G4
          go_wp2_with fail
          go_roundw
          case rel =>
            refine ⟨ao3, m + 1, d3, r2.drop 1, vs ++ [v], hA4.out, FS4.out, ?_, by rw [List.length_drop]; omega⟩
            show _ = _
            rw [hR.out]
            congr 1
            cases hv2 : valueP (r2.drop 1) with
            | bad e => rw [morR_bad hm2.out hv2]; rfl
            | ok v2 r3 => rw [morR_ok hm2.out hv2]; rfl
          case measure => rw [hA4.out.psN, hme.out, List.length_drop]; omega
        | false =>
          rw [hm2] at HM
          rw [if_neg (by decide)] at HM
          have HM := Lib.hid HM
          have hR : Hid (P = tailF t.text t.line (.ok (vs ++ [v]) r2)) := by show _ = _; rw [hR.out, morR_end hm2]
          have FS3 := Lib.hid FS3
          clear hA3 O3 G3 B3 hA2 O2 FS2 hm2
          go_wp2_with fail
          clear e6 f0 f1 y1
          refine HM.out.mono ?_
          rintro e w4 ⟨rfl, hA4, G4⟩
          have FS4 := FS3.out.call G4
          have hA5 := hA4.keep (Below.drew (Below.refl _ _))
          have FS5 := FS4.keep (Below.drew (Below.refl _ _))
          have HM2 := Lib.hid (pMark_c w4.drew g gt n c ts r2 hA5 he 59)
          have q0 : w4.drew.cell? ⟨fb, 0, none⟩ = some (.string (stg t.text)) := FS5.box.cell 0
          have q1 : w4.drew.cell? ⟨fb, 1, none⟩ = some (.slice ao3 (m + 1) d3) := FS5.box.cell 1
          have q2 : w4.drew.cell? ⟨fb, 2, none⟩ = some (.int .i64 (t.line : Int)) := FS5.box.cell 2
          have FS5 := Lib.hid FS5
          have hA5 := Lib.hid hA5
          clear HM FS3 FS4 hA4 G4
          go_wp2_with fail
          go_region_held3 (fun w' => w'.cell? ⟨fb, 0, none⟩ = some (.string (stg t.text)) ∧ w'.cell? ⟨fb, 1, none⟩ = some (.slice ao3 (m + 1) d3) ∧ w'.cell? ⟨fb, 2, none⟩ = some (.int .i64 (t.line : Int))) (go_keep) (first
            | (go_at_call 35; refine HM2.out.mono ?_; rintro e w5 ⟨rfl, hA6, G5⟩; have FS6 := FS5.out.call G5; have z0 : w5.cell? ⟨fb, 0, none⟩ = some (.string (stg t.text)) := FS6.box.cell 0; have z1 : w5.cell? ⟨fb, 1, none⟩ = some (.slice ao3 (m + 1) d3) := FS6.box.cell 1; have z2 : w5.cell? ⟨fb, 2, none⟩ = some (.int .i64 (t.line : Int)) := FS6.box.cell 2; have hR2 := FS6.res; rw [hb] at hR2; obtain ⟨Y5, e6, hY, AY, f0, f1, f2, f3, f4, f5⟩ := put_box3 hR2 (.string (stg t.text)) (.slice ao3 (m + 1) d3) (.int .i64 (t.line : Int)); have EY := FS6.box.off3 (b := b) (by have := FS6.new; omega) (.string (stg t.text)) (.slice ao3 (m + 1) d3) (.int .i64 (t.line : Int)); rw [← hY.out] at EY; have p0 : Y5.cell? ⟨fb, 0, none⟩ = some (.string (stg t.text)) := EY.cell 0; have p1 : Y5.cell? ⟨fb, 1, none⟩ = some (.slice ao3 (m + 1) d3) := EY.cell 1; have p2 : Y5.cell? ⟨fb, 2, none⟩ = some (.int .i64 (t.line : Int)) := EY.cell 2; have FS6 := Lib.hid FS6; have hA6 := Lib.hid hA6; have AY := Lib.hid AY; clear hR2 G5 EY)
            | fail)
          all_goals
            go_wp2_with fail
            have r0 : Y5.cell? ⟨b, 0, none⟩ = some (.string (stg t.text)) := AY.out.cell 0
            have r1 : Y5.cell? ⟨b, 1, none⟩ = some (.slice ao3 (m + 1) d3) := AY.out.cell 1
            have r2' : Y5.cell? ⟨b, 2, none⟩ = some (.int .i64 (t.line : Int)) := AY.out.cell 2
            have GY : Hid (w.grownBy Y5 (some g)) := by show World.grownBy _ _ _; rw [hY.out]; exact grown_put3 FS6.out.grown (by omega) _ _ _
            have AT : Hid (AtP Y5 g gt n c ts (if atMark 59 r2 = true then r2.drop 1 else r2)) := by show AtP _ _ _ _ _ _ _; rw [hY.out]; exact hA6.out.put3 (by have := hg'.out; omega) (by have := hgt'.out; omega) _ _ _
            have SL : Hid (StrL (ownF w.heap.size [9]) Y5 ao3 (m + 1) d3 (vs ++ [v])) := by
              show StrL _ _ _ _ _ _
              have hk : Keeps (ownF w.heap.size [9]) w5 Y5 := by
                rw [hY.out]
                have k1 := keeps_set_kind (lo := w.heap.size) (Es := [9]) (i := 0) FS6.out.res (by decide) (.string (stg t.text))
                have k2 := keeps_set_kind (lo := w.heap.size) (Es := [9]) (i := 1) (FS6.out.res.set 0 (.string (stg t.text))) (by decide) (.slice ao3 (m + 1) d3)
                have k3 := keeps_set_kind (lo := w.heap.size) (Es := [9]) (i := 2) ((FS6.out.res.set 0 (.string (stg t.text))).set 1 (.slice ao3 (m + 1) d3)) (by decide) (.int .i64 (t.line : Int))
                rw [hb] at k1 k2 k3
                rw [hb]
                exact (k1.trans (stable_own _ _) (by simp [World.setCell]) k2).trans (stable_own _ _) (by simp [World.setCell]) k3
              exact FS6.out.strs.keep (stable_own _ _) hk
            refine bodyPost_ret (v := .tuple #[.agg #[.string (stg t.text), .slice ao3 (m + 1) d3, .int .i64 (t.line : Int)], .bool (atMark 59 r2)]) (by simp [results, Try.results57, go_sem, r0, r1, r2']) rfl ?_
            refine ⟨?_, GY.out⟩
            have AT := AT.out
            rw [hR.out]
            unfold tailF
            rw [PR.bind_ok, takeM_at]
            cases hm9 : atMark 59 r2 with
            | true =>
              rw [hm9, if_pos rfl] at AT
              exact ⟨⟨ao3, m + 1, d3, rfl, SL.out⟩, AT⟩
            | false =>
              rw [hm9, if_neg (by decide)] at AT
              exact ⟨⟨_, _, _, _, _, rfl⟩, r2, AT, rfl⟩
  · have HT := Lib.hid (pTake_not V g gt n c ts r t hA 1 k1)
    have HV : Hid (P = .bad t.line) := by
      show _ = _
      rw [← hP.out, fieldP_step, show takeK 1 (t :: r) = .bad t.line from if_neg k1]
      rfl
    have AV := Lib.hid AV
    have hg' := Lib.hid hg
    have hgt' := Lib.hid hgt
    clear hA k1 hP hg hgt
    go_enter Try.func57, Try.ntmps57
    go_wp2_with fail
    refine HT.out.mono ?_
    rintro e w1 ⟨rfl, hA, hG1⟩
    obtain ⟨U0, U, e2, e3, AU, BU, hz2, f0, f1, f2, f3, f4, f5⟩ := new_put3 w1 47 (.int .i64 0) (.string ⟨#[]⟩) (.int .i64 0) (.int .i64 0) (.string ⟨#[]⟩) (.int .i64 0)
    have hA := hA.keep BU
    have GW := grown_on hG.out (grown_on hG1 (grown_below BU _))
    have RX : Arr U b 42 [.string ⟨#[]⟩, .slice none 0 0, .int .i64 0] := (AV.out.grown hG1 (by have := hg'.out; omega)).kept BU
    obtain ⟨Y, e6, hY, AY, d0, d1, d2, d3, d4, d5⟩ := put_box3 RX (.string ⟨#[]⟩) (.slice none 0 0) (.int .i64 0)
    have q0 : Y.cell? ⟨b, 0, none⟩ = some (.string ⟨#[]⟩) := AY.cell 0
    have q1 : Y.cell? ⟨b, 1, none⟩ = some (.slice none 0 0) := AY.cell 1
    have q2 : Y.cell? ⟨b, 2, none⟩ = some (.int .i64 0) := AY.cell 2
    have GY : Hid (w.grownBy Y (some g)) := by show World.grownBy _ _ _; rw [hY.out]; exact grown_put3 GW (by omega) _ _ _
    have BY : Hid (BadP Y g gt n c ts t.line) := ⟨t :: r, by rw [hY.out]; exact hA.put3 (by have := hg'.out; omega) (by have := hgt'.out; omega) _ _ _, rfl⟩
    clear HT AU BU hG1 GW RX AY hA
    go_wp2_with fail
    refine bodyPost_ret (v := .tuple #[.agg #[.string ⟨#[]⟩, .slice none 0 0, .int .i64 0], .bool false]) (by simp [results, Try.results57, go_sem, q0, q1, q2]) rfl ?_
    refine ⟨?_, GY.out⟩
    rw [HV.out]
    exact ⟨⟨_, _, _, _, _, rfl⟩, BY.out⟩
end Go.Proofs.Ytfknckbclddnmaa
