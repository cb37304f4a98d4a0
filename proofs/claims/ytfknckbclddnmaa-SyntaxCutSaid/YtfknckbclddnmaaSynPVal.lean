/-
  The program's reader of tokens: value.
-/
import Derived.Test.YtfknckbclddnmaaSynPs
import Derived.Test.YtfknckbclddnmaaSynVal
namespace Go.Proofs.Ytfknckbclddnmaa
open Go.RowKit Lx

/-- The parser stands before a token of line ln that it could not take. -/
def BadP (w : World) (g gt n c : Nat) (ts : List Tok) (ln : Nat) : Prop := ∃ l, AtP w g gt n c ts l ∧ lineP l = ln
theorem BadP.keep {w w' : World} {g gt n c ln : Nat} {ts : List Tok} (h : BadP w g gt n c ts ln) (hb : Below w.heap.size w w') : BadP w' g gt n c ts ln := by
  obtain ⟨l, h1, h2⟩ := h
  exact ⟨l, h1.keep hb, h2⟩
/-- What value hands back. -/
def PValOut (w' : World) (g gt n c : Nat) (ts : List Tok) (p : PR (List UInt8)) (e : Ending) : Prop := match p with
  | .ok a r => e = .returned (.tuple #[.string (stg a), .bool true]) ∧ AtP w' g gt n c ts r
  | .bad ln => (∃ S, e = .returned (.tuple #[.string S, .bool false])) ∧ BadP w' g gt n c ts ln
set_option maxHeartbeats 3200000 in
set_option maxRecDepth 100000 in
theorem pValue_c (w : World) (g gt n c : Nat) (ts l : List Tok) (h : AtP w g gt n c ts l) (he : EndsT ts) (hsz : ∀ t ∈ ts, t.text.length ≤ 500000) :
    Calls Try.prog 74 #[.pointer (some ⟨g, 0, none⟩)] w fun e w' => PValOut w' g gt n c ts (valueP l) e ∧ w.grownBy w' (some g) := by
  obtain ⟨i, t, r, hP, ht, rfl, hr⟩ := h.head
  have hts : t.text.length ≤ 500000 := hsz t (List.mem_of_getElem? ht)
  have hts' : (stg t.text).size ≤ 500000 := by rw [← bys_len, bys_stg]; exact hts
  clear hP ht hr
  by_cases k1 : t.kind = 1
  · have HV : Hid (valueP (t :: r) = .ok t.text r) := by
      show _ = _
      rw [valueP_def]
      simp only [show atKind 1 (t :: r) = true from decide_eq_true k1]
      exact if_pos k1
    have HT := Lib.hid (pTake_yes w g gt n c ts r t h he 1 k1 (by decide))
    clear h k1
    obtain ⟨P, hP⟩ : ∃ P, Hid (valueP (t :: r) = P) := ⟨_, rfl⟩
    rw [hP.out]
    go_enter Try.func74, Try.ntmps74
    go_wp2_with fail
    refine HT.out.mono ?_
    rintro e w1 ⟨rfl, hA, hG⟩
    obtain ⟨V0, V, e1, e2, AV, BV, hz, f0, f1, f2, f3, f4, f5⟩ := new_put3 w1 47 (.int .i64 0) (.string ⟨#[]⟩) (.int .i64 0) (.int .i64 (t.kind : Int)) (.string (stg t.text)) (.int .i64 (t.line : Int))
    have hA := Lib.hid (hA.keep BV)
    have hG := Lib.hid (grown_on hG (grown_below BV _))
    have q1 : V.cell? ⟨w1.heap.size, 1, none⟩ = some (.string (stg t.text)) := AV.cell 1
    clear HT AV BV
    go_wp2_with fail
    go_ret2
    refine ⟨?_, hG.out⟩
    rw [← hP.out, HV.out]
    exact ⟨rfl, hA.out⟩
  · have HT := Lib.hid (pTake_not w g gt n c ts r t h 1 k1)
    clear h
    obtain ⟨P, hP⟩ : ∃ P, Hid (valueP (t :: r) = P) := ⟨_, rfl⟩
    rw [hP.out]
    by_cases k3 : t.kind = 3
    · have HV : Hid (valueP (t :: r) = .ok t.text r) := by
        show _ = _
        rw [valueP_def]
        simp only [show atKind 1 (t :: r) = false from decide_eq_false k1, show atKind 3 (t :: r) = true from decide_eq_true k3]
        exact if_pos k3
      have k1' := Lib.hid k1
      have k3' := Lib.hid k3
      clear k1 k3
      go_enter Try.func74, Try.ntmps74
      go_wp2_with fail
      refine HT.out.mono ?_
      rintro e w1 ⟨rfl, hA, hG⟩
      obtain ⟨V0, V, e1, e2, AV, BV, hz, f0, f1, f2, f3, f4, f5⟩ := new_put3 w1 47 (.int .i64 0) (.string ⟨#[]⟩) (.int .i64 0) (.int .i64 0) (.string ⟨#[]⟩) (.int .i64 0)
      have HT2 := Lib.hid (pTake_yes V g gt n c ts r t (hA.keep BV) he 3 k3'.out (by decide))
      have hG := Lib.hid (grown_on hG (grown_below BV _))
      clear HT AV BV hA
      go_wp2_with fail
      clear e1 e2 f0 f1 f2 f3 f4 f5 hz
      refine HT2.out.mono ?_
      rintro e w2 ⟨rfl, hA, hG2⟩
      obtain ⟨U0, U, e1, e2, AV, BV, hz, f0, f1, f2, f3, f4, f5⟩ := new_put3 w2 47 (.int .i64 0) (.string ⟨#[]⟩) (.int .i64 0) (.int .i64 (t.kind : Int)) (.string (stg t.text)) (.int .i64 (t.line : Int))
      have hA := Lib.hid (hA.keep BV)
      have hG := Lib.hid (grown_on hG.out (grown_on hG2 (grown_below BV _)))
      have q1 : U.cell? ⟨w2.heap.size, 1, none⟩ = some (.string (stg t.text)) := AV.cell 1
      clear HT2 AV BV hG2
      go_wp2_with fail
      go_ret2
      refine ⟨?_, hG.out⟩
      rw [← hP.out, HV.out]
      exact ⟨rfl, hA.out⟩
    · have HV : Hid (valueP (t :: r) = (takeK 2 (t :: r)).bind fracP) := by
        show _ = _
        rw [valueP_def]
        simp only [show atKind 1 (t :: r) = false from decide_eq_false k1, show atKind 3 (t :: r) = false from decide_eq_false k3]
        rfl
      have k1' := Lib.hid k1
      have k3' := Lib.hid k3
      clear k1 k3
      go_enter Try.func74, Try.ntmps74
      go_wp2_with fail
      refine HT.out.mono ?_
      rintro e w1 ⟨rfl, hA, hG⟩
      obtain ⟨V0, V, e1, e2, AV, BV, hz, f0, f1, f2, f3, f4, f5⟩ := new_put3 w1 47 (.int .i64 0) (.string ⟨#[]⟩) (.int .i64 0) (.int .i64 0) (.string ⟨#[]⟩) (.int .i64 0)
      have HT2 := Lib.hid (pTake_not V g gt n c ts r t (hA.keep BV) 3 k3'.out)
      have hG := Lib.hid (grown_on hG (grown_below BV _))
      clear HT AV BV hA
      go_wp2_with fail
      clear e1 e2 f0 f1 f2 f3 f4 f5 hz
      refine HT2.out.mono ?_
      rintro e w2 ⟨rfl, hA, hG2⟩
      obtain ⟨U0, U, e1, e2, AV, BV, hz, f0, f1, f2, f3, f4, f5⟩ := new_put3 w2 47 (.int .i64 0) (.string ⟨#[]⟩) (.int .i64 0) (.int .i64 0) (.string ⟨#[]⟩) (.int .i64 0)
      have hG := Lib.hid (grown_on hG.out (grown_on hG2 (grown_below BV _)))
      have hA := hA.keep BV
      clear HT2 AV BV hG2
      by_cases k2 : t.kind = 2
      · have HT3 := Lib.hid (pTake_yes U g gt n c ts r t hA he 2 k2 (by decide))
        have HV : Hid (P = fracP t.text r) := by
          show _ = _
          rw [← hP.out, HV.out, show takeK 2 (t :: r) = .ok t.text r from if_pos k2]
          rfl
        clear hA k2
        go_wp2_with fail
        clear e1 e2 f0 f1 f2 f3 f4 f5 hz
        refine HT3.out.mono ?_
        rintro e w3 ⟨rfl, hA, hG3⟩
        obtain ⟨W0, W, e1, e2, AV, BV, hz, f0, f1, f2, f3, f4, f5⟩ := new_put3 w3 47 (.int .i64 0) (.string ⟨#[]⟩) (.int .i64 0) (.int .i64 (t.kind : Int)) (.string (stg t.text)) (.int .i64 (t.line : Int))
        have hne3 : Hid (w3.heap.size ≠ g) := fun e => by have := hA.sizes.1; omega
        have hA := hA.keep BV
        have hG := Lib.hid (grown_on hG.out (grown_on hG3 (grown_below BV _)))
        have q1 : W.cell? ⟨w3.heap.size, 1, none⟩ = some (.string (stg t.text)) := AV.cell 1
        have HM := pMark_c W g gt n c ts r hA he 47
        cases hm : atMark 47 r with
        | false =>
          rw [hm] at HM
          have HV : Hid (P = .ok t.text r) := by show _ = _; rw [HV.out]; unfold fracP; rw [hm]; rfl
          rw [if_neg (by decide)] at HM
          have HM := Lib.hid HM
          have AW := Lib.hid AV
          clear HT3 AV BV hA hm hG3
          go_wp2_with fail
          clear e1 e2 f0 f1 f2 f3 f4 f5 hz
          refine HM.out.mono ?_
          rintro e w4 ⟨rfl, hA, hG4⟩
          have q2 : w4.cell? ⟨w3.heap.size, 1, none⟩ = some (.string (stg t.text)) := (AW.out.grown hG4 hne3.out).cell 1
          have hA := Lib.hid hA
          have hG := Lib.hid (grown_on hG.out hG4)
          clear HM hG4
          go_wp2_with fail
          go_ret2
          refine ⟨?_, hG.out⟩
          rw [HV.out]
          exact ⟨rfl, hA.out⟩
        | true =>
          rw [hm] at HM
          have hdr := hm
          obtain ⟨u, r2, rfl⟩ : ∃ u r2, r = u :: r2 := by
            cases r with
            | nil => cases hm
            | cons u r2 => exact ⟨u, r2, rfl⟩
          rw [if_pos rfl] at HM
          have HV : Hid (P = (takeK 2 r2).bind (fun b r3 => .ok (t.text ++ 47 :: b) r3)) := by show _ = _; rw [HV.out]; unfold fracP; rw [hm, if_pos rfl]; rfl
          have HM := Lib.hid HM
          have AW := Lib.hid AV
          clear HT3 AV BV hA hm hG3 hdr
          go_wp2_with fail
          clear e1 e2 f0 f1 f2 f3 f4 f5 hz
          refine HM.out.mono ?_
          rintro e w4 ⟨rfl, hA, hG4⟩
          have AW := Lib.hid (AW.out.grown hG4 hne3.out)
          have hG := Lib.hid (grown_on hG.out hG4)
          clear HM hG4 q1
          have hA' : AtP w4 g gt n c ts r2 := hA
          obtain ⟨i2, v, r3, _, hv2, rfl, _⟩ := hA'.head
          have hvs : (stg v.text).size ≤ 500000 := by rw [← bys_len, bys_stg]; exact hsz v (List.mem_of_getElem? hv2)
          by_cases k4 : v.kind = 2
          · have HT4 := Lib.hid (pTake_yes w4 g gt n c ts r3 v hA' he 2 k4 (by decide))
            have HV : Hid (P = .ok (t.text ++ 47 :: v.text) r3) := by
              show _ = _
              rw [HV.out, show takeK 2 (v :: r3) = .ok v.text r3 from if_pos k4]
              rfl
            clear hA hA' hv2 k4
            go_wp2_with fail
            refine HT4.out.mono ?_
            rintro e w5 ⟨rfl, hA, hG5⟩
            have hne5 : w3.heap.size ≠ w5.heap.size := fun e => by have := AW.out.lt; have := hG5.size; omega
            have A5 := AW.out.grown hG5 hne3.out
            obtain ⟨X0, X, e1, e2, AV, BV, hz, f0, f1, f2, f3, f4, f5⟩ := new_put3 w5 47 (.int .i64 0) (.string ⟨#[]⟩) (.int .i64 0) (.int .i64 (v.kind : Int)) (.string (stg v.text)) (.int .i64 (v.line : Int))
            have hA := Lib.hid (hA.keep BV)
            have hG := Lib.hid (grown_on hG.out (grown_on hG5 (grown_below BV _)))
            have q1 : X.cell? ⟨w5.heap.size, 1, none⟩ = some (.string (stg v.text)) := AV.cell 1
            have q2 : X.cell? ⟨w3.heap.size, 1, none⟩ = some (.string (stg t.text)) := (A5.kept BV).cell 1
            have hcat : Hid (stg t.text ++ (⟨#[47]⟩ : ByteArray) ++ stg v.text = stg (t.text ++ 47 :: v.text)) := by
              show _ = _
              apply bys_inj
              rw [bys_append, bys_append, bys_stg, bys_stg, bys_stg]
              show t.text ++ [47] ++ v.text = _
              simp
            have m1 : (⟨#[47]⟩ : ByteArray).size = 1 := rfl
            obtain ⟨SA, hSA⟩ : ∃ S, Hid (stg t.text = S) := ⟨_, rfl⟩
            obtain ⟨SB, hSB⟩ : ∃ S, Hid (stg v.text = S) := ⟨_, rfl⟩
            rw [hSA.out] at q2 hts' hcat
            rw [hSB.out] at q1 hvs hcat e2 f4 f5 ⊢
            clear HT4 AV BV hG5 A5 AW
            go_wp2_with fail
            go_ret2
            refine ⟨?_, hG.out⟩
            rw [HV.out]
            refine ⟨?_, hA.out⟩
            rw [← hcat.out]
            rfl
          · have HT4 := Lib.hid (pTake_not w4 g gt n c ts r3 v hA' 2 k4)
            have HV : Hid (P = .bad v.line) := by
              show _ = _
              rw [HV.out, show takeK 2 (v :: r3) = .bad v.line from if_neg k4]
              rfl
            clear hA hA' hv2 k4
            go_wp2_with fail
            refine HT4.out.mono ?_
            rintro e w5 ⟨rfl, hA, hG5⟩
            have A5 := AW.out.grown hG5 hne3.out
            obtain ⟨X0, X, e1, e2, AV, BV, hz, f0, f1, f2, f3, f4, f5⟩ := new_put3 w5 47 (.int .i64 0) (.string ⟨#[]⟩) (.int .i64 0) (.int .i64 0) (.string ⟨#[]⟩) (.int .i64 0)
            have hA := Lib.hid (hA.keep BV)
            have hG := Lib.hid (grown_on hG.out (grown_on hG5 (grown_below BV _)))
            have q1 : X.cell? ⟨w5.heap.size, 1, none⟩ = some (.string ⟨#[]⟩) := AV.cell 1
            have q2 : X.cell? ⟨w3.heap.size, 1, none⟩ = some (.string (stg t.text)) := (A5.kept BV).cell 1
            have m1 : (⟨#[47]⟩ : ByteArray).size = 1 := rfl
            obtain ⟨SA, hSA⟩ : ∃ S, Hid (stg t.text = S) := ⟨_, rfl⟩
            rw [hSA.out] at q2 hts'
            clear HT4 AV BV hG5 A5 AW
            go_wp2_with fail
            go_ret2
            refine ⟨?_, hG.out⟩
            rw [HV.out]
            exact ⟨⟨_, rfl⟩, _, hA.out, rfl⟩
      · have HT3 := Lib.hid (pTake_not U g gt n c ts r t hA 2 k2)
        have HV : Hid (P = .bad t.line) := by
          show _ = _
          rw [← hP.out, HV.out, show takeK 2 (t :: r) = .bad t.line from if_neg k2]
          rfl
        clear hA k2
        go_wp2_with fail
        clear e1 e2 f0 f1 f2 f3 f4 f5 hz
        refine HT3.out.mono ?_
        rintro e w3 ⟨rfl, hA, hG3⟩
        obtain ⟨W0, W, e1, e2, AV, BV, hz, f0, f1, f2, f3, f4, f5⟩ := new_put3 w3 47 (.int .i64 0) (.string ⟨#[]⟩) (.int .i64 0) (.int .i64 0) (.string ⟨#[]⟩) (.int .i64 0)
        have hA := Lib.hid (hA.keep BV)
        have hG := Lib.hid (grown_on hG.out (grown_on hG3 (grown_below BV _)))
        have q1 : W.cell? ⟨w3.heap.size, 1, none⟩ = some (.string ⟨#[]⟩) := AV.cell 1
        clear HT3 AV BV hG3
        go_wp2_with fail
        go_ret2
        refine ⟨?_, hG.out⟩
        rw [HV.out]
        exact ⟨⟨_, rfl⟩, _, hA.out, rfl⟩
end Go.Proofs.Ytfknckbclddnmaa
