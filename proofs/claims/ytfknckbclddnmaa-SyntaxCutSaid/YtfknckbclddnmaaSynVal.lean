/-
  The reference's reader of tokens: value.
-/
import Derived.Test.YtfknckbclddnmaaSynTake
namespace Go.Proofs.Ytfknckbclddnmaa
open Go.RowKit Lx

/-- What value hands back. -/
def ValOut (w' : World) (g : Nat) (ao : Option Addr) (n c : Nat) (ts : List Tok) (p : PR (List UInt8)) (e : Ending) : Prop := match p with
  | .ok a r => e = .returned (.string (stg a)) ∧ AtS w' g ao n c ts r
  | .bad ln => (∃ S, e = .returned (.string S)) ∧ BdS w' g ao n c ts ln

set_option maxHeartbeats 3200000 in
set_option maxRecDepth 100000 in
theorem value_stay (w : World) (g : Nat) (ao : Option Addr) (n c : Nat) (ts : List Tok) (b : Nat) (h : BdS w g ao n c ts b) :
    Calls Try.prog 58 #[.pointer (some ⟨g, 0, none⟩)] w fun e w' => (∃ S, e = .returned (.string S)) ∧ BdS w' g ao n c ts b ∧ w.grownBy w' (some g) := by
  have H1 := Lib.hid (at_stay w g ao n c ts b h 1 ⟨#[]⟩)
  clear h
  go_enter Try.func58, Try.ntmps58
  go_wp2_with fail
  refine H1.out.mono ?_
  rintro e w1 ⟨rfl, hB1, G1⟩
  have H2 := Lib.hid (at_stay w1 g ao n c ts b hB1 3 ⟨#[]⟩)
  have G1 := Lib.hid G1
  clear H1 hB1
  go_wp2_with fail
  refine H2.out.mono ?_
  rintro e w2 ⟨rfl, hB2, G2⟩
  have H3 := Lib.hid (take_stay w2 g ao n c ts b hB2 2 ⟨#[]⟩)
  have G2 := Lib.hid (grown_trans G1.out G2)
  clear H2 hB2 G1
  go_wp2_with fail
  refine H3.out.mono ?_
  rintro e w3 ⟨rfl, hB3, G3⟩
  have H4 := Lib.hid (at_stay w3 g ao n c ts b hB3 4 ⟨#[47]⟩)
  have G3 := Lib.hid (grown_trans G2.out G3)
  clear H3 hB3 G2
  go_wp2_with fail
  refine H4.out.mono ?_
  rintro e w4 ⟨rfl, hB4, G4⟩
  have G4 := Lib.hid (grown_trans G3.out G4)
  have hB4 := Lib.hid hB4
  clear H4 G3
  go_wp2_with fail
  go_ret
  exact ⟨⟨_, rfl⟩, hB4.out, G4.out⟩

/-- A place that moves on behind a token that is not the end. -/
theorem AtS.next {w : World} {g n c : Nat} {ao : Option Addr} {ts l : List Tok} (h : AtS w g ao n c ts l) (he : EndsT ts) : ∃ i t r, Rd w g ao n c ts i 0 ∧ ts[i]? = some t ∧ l = t :: r ∧ (t.kind ≠ 5 → AtS (w.setCell ⟨g, 1, none⟩ (.int .i64 ((i + 1 : Nat) : Int))) g ao n c ts r) := by
  obtain ⟨i, t, r, hR, ht, hl, hr⟩ := h.head
  exact ⟨i, t, r, hR, ht, hl, fun hk => ⟨i + 1, hR.setI (i + 1), hr, he.next ht hk⟩⟩

set_option maxHeartbeats 3200000 in
set_option maxRecDepth 100000 in
theorem value_c (w : World) (g : Nat) (ao : Option Addr) (n c : Nat) (ts l : List Tok) (h : AtS w g ao n c ts l) (he : EndsT ts) (hsz : ∀ t ∈ ts, t.text.length ≤ 500000) :
    Calls Try.prog 58 #[.pointer (some ⟨g, 0, none⟩)] w fun e w' => ValOut w' g ao n c ts (valueP l) e ∧ w.grownBy w' (some g) := by
  have H1 := atK_c w g ao n c ts l h 1
  obtain ⟨P, hP⟩ : ∃ P, Hid (valueP l = P) := ⟨_, rfl⟩
  rw [hP.out]
  have hhead := Lib.hid h.head
  cases h1 : atKind 1 l with
  | true =>
    have hPe : Hid (takeK 1 l = P) := by show _ = _; rw [← hP.out]; unfold valueP; rw [h1, if_pos rfl]
    rw [h1] at H1
    have H1 := Lib.hid H1
    clear h h1 hP
    go_enter Try.func58, Try.ntmps58
    go_wp2_with fail
    refine H1.out.mono ?_
    rintro e w1 ⟨rfl, hA1, G1⟩
    have H2 := takeK_c w1 g ao n c ts l hA1 he 1 (by decide)
    rw [hPe.out] at H2
    have H2 := Lib.hid H2
    have G1 := Lib.hid G1
    clear H1 hA1
    go_wp2_with fail
    refine H2.out.mono ?_
    rintro e w2 ⟨hO, G2⟩
    have G2 := Lib.hid (grown_trans G1.out G2)
    clear H2 G1
    cases P with
    | ok a r =>
      obtain ⟨rfl, hA⟩ := hO
      have hA := Lib.hid hA
      go_wp2_with fail
      go_ret
      exact ⟨⟨rfl, hA.out⟩, G2.out⟩
    | bad ln =>
      obtain ⟨rfl, hA⟩ := hO
      have hA := Lib.hid hA
      go_wp2_with fail
      go_ret
      exact ⟨⟨⟨_, rfl⟩, hA.out⟩, G2.out⟩
  | false =>
    rw [h1] at H1
    have H1 := Lib.hid H1
    cases h3 : atKind 3 l with
    | true =>
      have hPe : Hid (takeK 3 l = P) := by show _ = _; rw [← hP.out, valueP_def]; simp only [h1, h3]; rfl
      have h3 := Lib.hid h3
      clear h h1 hP
      go_enter Try.func58, Try.ntmps58
      go_wp2_with fail
      refine H1.out.mono ?_
      rintro e w1 ⟨rfl, hA1, G1⟩
      have H3 := atK_c w1 g ao n c ts l hA1 3
      rw [h3.out] at H3
      have H3 := Lib.hid H3
      have G1 := Lib.hid G1
      clear H1 hA1
      go_wp2_with fail
      refine H3.out.mono ?_
      rintro e w2 ⟨rfl, hA2, G2⟩
      have G2 := Lib.hid (grown_trans G1.out G2)
      obtain ⟨i, t, r, hR, ht, rfl, hnx⟩ := hA2.next he
      have hk3 : t.kind = 3 := of_decide_eq_true h3.out
      have hA3 := Lib.hid (hnx (by rw [hk3]; decide))
      have hin : i < n := by rw [← hR.tok.len]; exact drop_at ht
      have hcm := hR.tok.cases
      have hmx : n ≤ 9223372036854775807 := by
        rcases hcm with ⟨_, h0, _⟩ | ⟨_, _, _, _, h3, h4⟩
        · omega
        · unfold maxLen at h4; omega
      have y1 : w2.cell? ⟨g, 1, none⟩ = some (.int .i64 (i : Int)) := hR.arr.cell 1
      have f1 : w2.frozen? ⟨g, 1, none⟩ = false := hR.arr.frozen 1
      have ej : ((i + 1 : Nat) : Int) = (i : Int) + 1 := by omega
      have e2 : IntKind.i64.wrap ((i : Int) + 1 - 1) = (i : Int) := by rw [IntWalk.i64_in _ (by omega)]; omega
      have e3 : (i : Int) + 1 - 1 = (i : Int) := by omega
      have RV := hR.setI (i + 1)
      rw [ej] at RV hA3
      obtain ⟨V, hV⟩ : ∃ V, Hid (V = w2.setCell ⟨g, 1, none⟩ (.int .i64 ((i : Int) + 1))) := ⟨_, rfl⟩
      rw [← hV.out] at RV hA3
      have z0 : V.cell? ⟨g, 0, none⟩ = some (.slice ao n c) := RV.arr.cell 0
      have z1 : V.cell? ⟨g, 1, none⟩ = some (.int .i64 ((i : Int) + 1)) := by rw [← ej]; exact RV.arr.cell 1
      obtain ⟨gt, hgt, _, a1, a2, a3⟩ := RV.tok.at3 i hin t ht (i * 3) (i * 3 + 1) (i * 3 + 2) (by omega) (by omega) (by omega)
      have hG : Hid (w.grownBy V (some g)) := by show World.grownBy _ _ _; rw [hV.out]; exact grown_trans G2.out (set_grown _ _ _ _)
      have hPv : Hid (PR.ok t.text r = P) := by show _ = _; rw [← hPe.out]; exact (if_pos hk3).symm
      subst hgt
      clear H3 hA2 G1 hR hnx hcm RV a1 a3 h3 ej
      go_wp2_with fail
      rw [← hV.out]
      go_quiet (fail)
      go_wp2_with fail
      go_ret
      rw [← hPv.out]
      exact ⟨⟨rfl, hA3.out.draw _⟩, grown_draw hG.out _⟩
    | false =>
      have hPe : Hid ((takeK 2 l).bind fracP = P) := by show _ = _; rw [← hP.out, valueP_def]; simp only [h1, h3]; rfl
      have h3 := Lib.hid h3
      clear h h1 hP
      go_enter Try.func58, Try.ntmps58
      go_wp2_with fail
      refine H1.out.mono ?_
      rintro e w1 ⟨rfl, hA1, G1⟩
      have H3 := atK_c w1 g ao n c ts l hA1 3
      rw [h3.out] at H3
      have H3 := Lib.hid H3
      have G1 := Lib.hid G1
      clear H1 hA1
      go_wp2_with fail
      refine H3.out.mono ?_
      rintro e w2 ⟨rfl, hA2, G2⟩
      have H4 := Lib.hid (takeK_c w2 g ao n c ts l hA2 he 2 (by decide))
      have G2 := Lib.hid (grown_trans G1.out G2)
      clear H3 hA2 G1
      go_wp2_with fail
      refine H4.out.mono ?_
      rintro e w3 ⟨hO, G3⟩
      have G3 := Lib.hid (grown_trans G2.out G3)
      clear H4 G2
      cases hk : takeK 2 l with
      | bad ln =>
        rw [hk] at hO hPe
        obtain ⟨rfl, hB⟩ := hO
        have H5 := Lib.hid (at_stay w3 g ao n c ts ln hB 4 ⟨#[47]⟩)
        clear hk hB
        go_wp2_with fail
        refine H5.out.mono ?_
        rintro e w4 ⟨rfl, hB4, G4⟩
        have G4 := Lib.hid (grown_trans G3.out G4)
        have hB4 := Lib.hid hB4
        clear H5 G3
        go_wp2_with fail
        go_ret
        rw [← hPe.out]
        exact ⟨⟨⟨_, rfl⟩, hB4.out⟩, G4.out⟩
      | ok a r =>
        rw [hk] at hO
        have hPe : Hid (fracP a r = P) := by show _ = _; rw [← hPe.out, hk]; rfl
        obtain ⟨rfl, hA⟩ := hO
        have H5 := atM_c w3 g ao n c ts r hA 47
        have ha : (stg a).size ≤ 500000 := by
          obtain ⟨t, hl, _, hta⟩ := takeK_eq hk
          obtain ⟨i, t2, r2, _, ht2, hl2, _⟩ := hhead.out
          rw [hl] at hl2
          injection hl2 with e1 _
          rw [← bys_len, bys_stg, hta, e1]
          exact hsz _ (List.mem_of_getElem? ht2)
        obtain ⟨SA, hSA⟩ : ∃ S, Hid (stg a = S) := ⟨_, rfl⟩
        rw [hSA.out] at ha ⊢
        cases hm : atMark 47 r with
        | false =>
          rw [hm] at H5
          have H5 := Lib.hid H5
          have hPe : Hid (PR.ok a r = P) := by show _ = _; rw [← hPe.out]; unfold fracP; rw [hm, if_neg (by decide)]
          clear hk hm hA
          go_wp2_with fail
          refine H5.out.mono ?_
          rintro e w4 ⟨rfl, hA4, G4⟩
          have G4 := Lib.hid (grown_trans G3.out G4)
          have hA4 := Lib.hid hA4
          clear H5 G3
          go_wp2_with fail
          go_ret
          rw [← hPe.out]
          exact ⟨⟨by rw [hSA.out]; rfl, hA4.out⟩, G4.out⟩
        | true =>
          rw [hm] at H5
          have H5 := Lib.hid H5
          have hPe : Hid ((takeK 2 (r.drop 1)).bind (fun b r2 => .ok (a ++ 47 :: b) r2) = P) := by show _ = _; rw [← hPe.out]; unfold fracP; rw [hm, if_pos rfl]
          have hm := Lib.hid hm
          clear hk hA
          go_wp2_with fail
          refine H5.out.mono ?_
          rintro e w4 ⟨rfl, hA4, G4⟩
          have G4 := Lib.hid (grown_trans G3.out G4)
          obtain ⟨i, m, r2, hR, ht, hrl, hnx⟩ := hA4.next he
          have hk4 : m.kind = 4 := by
            have h1 : isMark 47 m = true := by have := hm.out; rw [hrl] at this; exact this
            unfold isMark at h1
            rw [Bool.and_eq_true] at h1
            exact of_decide_eq_true h1.1
          have hA5 := hnx (by rw [hk4]; decide)
          have hin : i < n := by rw [← hR.tok.len]; exact drop_at ht
          have hmx : n ≤ 9223372036854775807 := by
            rcases hR.tok.cases with ⟨_, h0, _⟩ | ⟨_, _, _, _, h3, h4⟩
            · omega
            · unfold maxLen at h4; omega
          have y1 : w4.cell? ⟨g, 1, none⟩ = some (.int .i64 (i : Int)) := hR.arr.cell 1
          have f1 : w4.frozen? ⟨g, 1, none⟩ = false := hR.arr.frozen 1
          have ej : ((i + 1 : Nat) : Int) = (i : Int) + 1 := by omega
          rw [ej] at hA5
          obtain ⟨V, hV⟩ : ∃ V, Hid (V = w4.setCell ⟨g, 1, none⟩ (.int .i64 ((i : Int) + 1))) := ⟨_, rfl⟩
          rw [← hV.out] at hA5
          have hG : Hid (w.grownBy V (some g)) := by show World.grownBy _ _ _; rw [hV.out]; exact grown_trans G4.out (set_grown _ _ _ _)
          have hPe : Hid ((takeK 2 r2).bind (fun b r2 => .ok (a ++ 47 :: b) r2) = P) := by show _ = _; rw [← hPe.out, hrl]; rfl
          have H6 := Lib.hid (takeK_c V g ao n c ts r2 hA5 he 2 (by decide))
          have hA5 := Lib.hid hA5
          have m1 : (⟨#[47]⟩ : ByteArray).size = 1 := rfl
          clear H5 hR hnx hA4 ej
          go_wp2_with fail
          rw [← hV.out]
          refine H6.out.mono ?_
          rintro e w5 ⟨hO, G5⟩
          have G5 := Lib.hid (grown_trans hG.out G5)
          cases hk : takeK 2 r2 with
          | bad ln =>
            rw [hk] at hO hPe
            obtain ⟨rfl, hB⟩ := hO
            have hB := Lib.hid hB
            clear H6 hk
            go_wp2_with fail
            go_ret
            rw [← hPe.out]
            exact ⟨⟨⟨_, rfl⟩, hB.out⟩, G5.out⟩
          | ok b r3 =>
            rw [hk] at hO hPe
            obtain ⟨rfl, hB⟩ := hO
            have hB := Lib.hid hB
            have hb : (stg b).size ≤ 500000 := by
              obtain ⟨t, hl, _, hta⟩ := takeK_eq hk
              obtain ⟨i, t2, r4, _, ht2, hl2, _⟩ := hA5.out.head
              rw [hl] at hl2
              injection hl2 with e1 _
              rw [← bys_len, bys_stg, hta, e1]
              exact hsz _ (List.mem_of_getElem? ht2)
            have hcat : Hid (SA ++ (⟨#[47]⟩ : ByteArray) ++ stg b = stg (a ++ 47 :: b)) := by
              show _ = _
              apply bys_inj
              rw [bys_append, bys_append, ← hSA.out, bys_stg, bys_stg, bys_stg]
              show a ++ [47] ++ b = _
              simp
            obtain ⟨SB, hSB⟩ : ∃ S, Hid (stg b = S) := ⟨_, rfl⟩
            rw [hSB.out] at hb ⊢
            clear H6 hk
            go_wp2_with fail
            go_ret
            rw [← hPe.out]
            refine ⟨⟨?_, hB.out⟩, G5.out⟩
            rw [← hcat.out, hSB.out]
            rfl
end Go.Proofs.Ytfknckbclddnmaa
