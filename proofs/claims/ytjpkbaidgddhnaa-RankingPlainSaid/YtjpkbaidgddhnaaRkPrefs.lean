/-
  ranking.Prefs.
-/
import Derived.Test.YtjpkbaidgddhnaaRkLeaf
namespace Go.Proofs.Ytjpkbaidgddhnaa
open Go.RowKit Rk

/-- Rows of two types lie in two blocks. -/
theorem rows_apart {w : World} {B B' s s' n n' : Nat} {E E' : TypeId} {v v' : Value} {us us' : List Value} (h : w.ownsRow B E s v n us) (h' : w.ownsRow B' E' s' v' n' us') (hE : E ≠ E') : v.ownBlock = none ∨ v.ownBlock ≠ v'.ownBlock := by
  rcases h.2 with ⟨hv, _⟩ | ⟨g, cap, cur, hv, _, hh, _⟩
  · exact Or.inl (by rw [hv]; rfl)
  · rcases h'.2 with ⟨hv', _⟩ | ⟨g', cap', cur', hv', _, hh', _⟩
    · exact Or.inr (by rw [hv, hv']; simp [Value.ownBlock])
    · refine Or.inr (fun e => ?_)
      rw [hv, hv'] at e
      have e' : some g = some g' := e
      injection e' with e'
      subst e'
      rw [hh] at hh'
      injection hh' with hh'
      injection hh' with _ h2 _
      exact hE h2
theorem OwnT.append {B B' g n : Nat} {w w' : World} {xs : List Bool} {ao : Option Addr} {m c : Nat} {ys : List Int} (h : OwnT B w (some ⟨g, 0, none⟩) n n xs) (hO : Own 3 .i64 B' w ao m c ys) (hg : w.grownBy w' (Value.slice ao m c).ownBlock) : OwnT B w' (some ⟨g, 0, none⟩) n n xs :=
  World.ownsRow.kept h hg (rows_apart h hO.1 (by decide))
theorem Own.setT {B B' g n i : Nat} {w : World} {xs : List Bool} {ao : Option Addr} {m c : Nat} {ys : List Int} (hO : Own 3 .i64 B' w ao m c ys) (h : OwnT B w (some ⟨g, 0, none⟩) n n xs) (u : Value) : Own 3 .i64 B' (w.setCell ⟨g, i, none⟩ u) ao m c ys :=
  ⟨World.ownsRow.kept (row := some g) hO.1 (set_grown w g i u) (rows_apart hO.1 h (by decide)), hO.2⟩
theorem OwnT.keep {B g n : Nat} {w w' : World} {xs : List Bool} (h : OwnT B w (some ⟨g, 0, none⟩) n n xs) (hb : Below w.heap.size w w') : OwnT B w' (some ⟨g, 0, none⟩) n n xs := ownsRow_keep h hb
namespace Rk
theorem known_set {n a : Nat} {R : List Int} {bs : List Bool} (hl : bs.length = n) (hb : ∀ x : Nat, x < n → bs.getD x false = decide ((x : Int) ∈ R)) : ∀ x : Nat, x < n → (bs.set a true).getD x false = decide ((x : Int) ∈ R ++ [(a : Int)]) := by
  intro x hx
  rw [List.getD_eq_getElem?_getD, List.getElem?_set]
  by_cases hax : a = x
  · subst hax
    rw [if_pos rfl, if_pos (by omega)]
    simp
  · rw [if_neg hax, ← List.getD_eq_getElem?_getD, hb x hx]
    have : ¬ (x : Int) = (a : Int) := by omega
    simp [this]
end Rk

set_option maxHeartbeats 3200000 in
set_option maxRecDepth 100000 in
theorem prefs_c (nm : ByteArray) (co : Option Addr) (n cc : Nat) (me se rk dg ti ov sk vt : Int) (ro : Option Addr) (rn rc : Nat) (ls : List (List Int)) (w : World) (h : Rks w ro rn rc ls) (hn : n ≤ 1000) (hr : rk ≤ 1000) (hcc : n ≤ cc) :
    Calls Try.prog 11 #[.agg #[.string nm, .slice co n cc, .int .i64 me, .int .i64 se, .int .i64 rk, .int .i64 dg, .int .i64 ti, .int .i64 ov, .int .i64 sk], .agg #[.int .i64 vt, .slice ro rn rc]] w
      fun e w' => ∃ ao m d, e = .returned (.slice ao m d) ∧ Own 3 .i64 w.heap.size w' ao m d (rank n rk ov sk ls) ∧ Below w.heap.size w w' := by
  obtain ⟨i0, hi, hz0, hz1, hz2⟩ := info_parts infoB
  obtain ⟨V, e1, AV, BV, zV⟩ := new_box w 24 [.string nm, .slice co n cc, .int .i64 me, .int .i64 se, .int .i64 rk, .int .i64 dg, .int .i64 ti, .int .i64 ov, .int .i64 sk]
  obtain ⟨U, e2, AU, BU, zU⟩ := new_box V 27 [.int .i64 vt, .slice ro rn rc]
  have hcap := h.cap
  have hroom := h.room
  have hlen := Lib.hid h.len
  have HR : Hid (∀ W, Below U.heap.size U W → Rks W ro rn rc ls) := fun W hb => ((h.below BV).below BU).below hb
  have HBU : Hid (Below w.heap.size w U) := BV.trans (BU.mono BV.size)
  have HC : Hid (∀ (W : World), Below U.heap.size U W → W.cell? ⟨w.heap.size, 1, none⟩ = some (.slice co n cc) ∧ W.cell? ⟨w.heap.size, 4, none⟩ = some (.int .i64 rk) ∧ W.cell? ⟨w.heap.size, 7, none⟩ = some (.int .i64 ov) ∧ W.cell? ⟨w.heap.size, 8, none⟩ = some (.int .i64 sk) ∧ W.cell? ⟨V.heap.size, 1, none⟩ = some (.slice ro rn rc)) := fun W hb =>
    ⟨cell_keep (cell_keep (AV.cell 1) BU) hb, cell_keep (cell_keep (AV.cell 4) BU) hb, cell_keep (cell_keep (AV.cell 7) BU) hb, cell_keep (cell_keep (AV.cell 8) BU) hb, cell_keep (AU.cell 1) hb⟩
  obtain ⟨y1, y4, y7, y8, z1⟩ := HC.out U (Below.refl _ _)
  obtain ⟨T, hT⟩ : ∃ T, Hid (rank n rk ov sk ls = T) := ⟨_, rfl⟩
  rw [hT.out]
  obtain ⟨LS, hLS⟩ : ∃ L, Hid (L = ls.take rk.toNat) := ⟨_, rfl⟩
  have hT0 : Hid (goR n ov sk (LS.drop 0) [] false = T) := by show _ = _; rw [← hT.out, hLS.out]; rfl
  obtain ⟨Z, hZ⟩ : ∃ Z : Int, (if (rn : Int) < rk then (rn : Int) else rk) = Z := ⟨_, rfl⟩
  have hZ1 : Z = min rk (rn : Int) := by rw [← hZ]; split <;> omega
  have hZ2 : Hid (Z ≤ 1000 ∧ Z ≤ (rn : Int)) := by show _ ∧ _; omega
  have hLd : Hid (∀ j : Nat, (j : Int) < Z → LS.drop j = ls.getD j [] :: LS.drop (j + 1)) := fun j hj => by
    have h1 := hlen.out
    have h2 : j < LS.length := by rw [hLS.out, List.length_take]; omega
    rw [List.drop_eq_getElem_cons h2]
    congr 1
    rw [List.getD_eq_getElem?_getD, List.getElem?_eq_getElem (by omega)]
    simp [hLS.out]
  have hLe : Hid (∀ j : Nat, ¬ (j : Int) < Z → LS.drop j = []) := fun j hj => by
    have h1 := hlen.out
    exact List.drop_of_length_le (by rw [hLS.out, List.length_take]; omega)
  clear h AV AU zV zU BV BU hT hLS hZ1
  go_enter Try.func11, Try.ntmps11
  go_wp2_with (at_make; refine wpList_make_full _ rfl _ _ 37 rfl U.heap.size 4 i0 (.bool false) 1 Try.underlying37 hi hz0 hz1 _ _ _ _ n rfl rfl (by omega) (by omega) ?b2 ?b3 (Nat.le_refl _) ?_)
  case b2 => first | omega | (rw [hz2]; omega)
  case b3 => unfold maxLen; omega
  intro w1 hown hgr
  obtain ⟨gB, hgB⟩ : ∃ g, U.heap.size = g := ⟨_, rfl⟩
  have O4 : Hid (OwnT U.heap.size w1 (some ⟨gB, 0, none⟩) n n (List.replicate n false)) := by rw [← hgB]; exact OwnT.made hown
  have b1 : Below U.heap.size U w1 := (Below.refl _ _).grown hgr (Nat.le_refl _) (fun k hk => by cases hk)
  obtain ⟨x1, x4, x7, x8, u1⟩ := HC.out w1 b1
  have HB1 := Lib.hid b1
  rw [hgB]
  clear hown hgr b1 y1 y4 y7 y8 z1 hgB
  go_wp2_with fail
  clear x1 x4 x7 x8 u1 e1 e2 hZ
  go_loopw [5, 7, 22] (fun rv bv iv wr => ∃ (j : Nat) (ao : Option Addr) (m d : Nat) (b : Bool), j ≤ 1000 ∧ iv = .int .i64 (j : Int) ∧ rv = .slice ao m d ∧ bv = .bool b ∧ Hid (∃ (R : List Int) (bs : List Bool), Own 3 .i64 U.heap.size wr ao m d R ∧ OwnT U.heap.size wr (some ⟨gB, 0, none⟩) n n bs ∧ (∀ x : Nat, x < n → bs.getD x false = decide ((x : Int) ∈ R)) ∧ GoodR n R ∧ goR n ov sk (LS.drop j) R b = T ∧ Below U.heap.size U wr))
    (fun _ _ iv _ => Z.toNat - (intOf iv).toNat)
  case atStart => exact ⟨0, none, 0, 0, false, by omega, rfl, rfl, rfl, [], _, own_nil _ _ _ _, O4.out, fun x hx => by simp [List.getD, hx], good_nil, hT0.out, HB1.out⟩
  case round =>
    obtain ⟨v1, hv1⟩ : ∃ y, y = wr := ⟨_, rfl⟩
    subst hv1
    clear O4 HB1 hT0
    obtain ⟨j, ao, m, d, b, hj, rfl, rfl, rfl, hI⟩ := hrel
    obtain ⟨R, bs, O, OB, hbs, hG, hg, B⟩ := hI.out
    clear hI
    obtain ⟨x1, x4, x7, x8, u1⟩ := HC.out v1 B
    by_cases hlt : (j : Int) < Z
    · have hjr : j < rn := by have := hZ2.out.2; omega
      have hj1 : j < 1000 := by have := hZ2.out.1; omega
      have HRv := HR.out v1 B
      have hix := ixR HRv j j rfl hjr
      obtain ⟨bo, l1, d1, hc0, hL, _⟩ := HRv.cell j hjr
      obtain ⟨l, hl⟩ : ∃ l, ls.getD j [] = l := ⟨_, rfl⟩
      rw [hLd.out j hlt, hl] at hg
      rw [hl] at hL
      obtain ⟨A, hA⟩ : ∃ A, (mk n l 0 0).1 = A := ⟨_, rfl⟩
      obtain ⟨N, hN⟩ : ∃ N, (mk n l 0 0).2 = N := ⟨_, rfl⟩
      have HM : Hid (∀ q, Calls Try.prog 13 #[.slice bo l1 d1, .int .i64 (n : Int)] (v1.drewN q) fun e w' => e = .returned (.tuple #[.int .i64 A, .int .i64 (N : Int)]) ∧ v1.drewN q = w') := fun q => by
        have := marksOf_c bo l1 d1 l n (v1.drewN q) (hL.drewN q) hn
        rw [hA, hN] at this
        exact this
      have HE : Hid (∀ W, Calls Try.prog 14 #[.int .i64 sk, .bool b] W fun e w' => e = .returned (.bool (ends sk b)) ∧ W = w') := fun W => endsR_c sk b W
      have hrl : R.length = m := O.len
      have hm1 : m ≤ 1000 := by have := good_len hG; omega
      have hG' := Lib.hid hG
      have hbs' := Lib.hid hbs
      have hN2 : N ≤ 2 := by rw [← hN]; exact mk_le n l
      have hg' := Lib.hid hg
      have hbN : Hid (N = 1 → 0 ≤ A ∧ A < (n : Int)) := fun e => by
        rcases mk_zero n l 0 with ⟨h, _⟩ | ⟨_, _, h, _⟩ | ⟨h, _⟩
        · omega
        · rw [hA] at h; exact h
        · omega
      have hst : Hid (stepR n ov sk l R b = if N = 2 ∧ ov ≠ 2 then none else if N = 1 then some (if A ∈ R then R else R ++ [A], false) else if ends sk b = true then none else some (R, true)) := by
        show _ = _
        unfold stepR
        rw [hN, hA]
      obtain ⟨EE, hEE⟩ : ∃ E, ends sk b = E := ⟨_, rfl⟩
      rw [hEE] at HE hst
      clear hA hN hl hL HRv hG hbs hg hEE
      have HO := Lib.hid O
      have HOB := Lib.hid OB
      have HB := Lib.hid B
      clear O OB B
      have cc0 := hc0
      go_upto_region 7 with fail
      go_quiet ((go_at_call 13; exact quiet_same (HM.out _)))
      obtain ⟨v2, hv2⟩ : ∃ y, y = v1.drewN nq := ⟨_, rfl⟩
      have q1 : v2.cell? ⟨w.heap.size, 1, none⟩ = some (.slice co n cc) := by rw [hv2]; exact x1
      have q7 : v2.cell? ⟨w.heap.size, 7, none⟩ = some (.int .i64 ov) := by rw [hv2]; exact x7
      have q8 : v2.cell? ⟨w.heap.size, 8, none⟩ = some (.int .i64 sk) := by rw [hv2]; exact x8
      have HO2 : Hid (Own 3 .i64 U.heap.size v2 ao m d R) := by rw [hv2]; exact HO.out.drewN nq
      have HOB2 : Hid (OwnT U.heap.size v2 (some ⟨gB, 0, none⟩) n n bs) := by rw [hv2]; exact HOB.out
      have HB2 : Hid (Below U.heap.size U v2) := by rw [hv2]; exact below_drewN HB.out nq
      rw [← hv2]
      clear hv2 HO HOB HB x1 x4 x7 x8 u1 hc0 cc0 hix
      have hBx : Hid (Below w.heap.size w v2) := HBU.out.trans (HB2.out.mono HBU.out.size)
      by_cases h1 : N = 1
      · subst h1
        obtain ⟨hA0, hA1⟩ := hbN.out rfl
        obtain ⟨k, rfl⟩ : ∃ k : Nat, A = (k : Int) := ⟨A.toNat, by omega⟩
        have hk : k < n := by omega
        have hs : stepR n ov sk l R b = some (if (k : Int) ∈ R then R else R ++ [(k : Int)], false) := by rw [hst.out, if_neg (by simp), if_pos rfl]
        have hix2 : ∀ W, (Instr.indexAt 37 (.slice (some ⟨gB, 0, none⟩) n n) (.int .i64 (k : Int))).run Try.prog W = .ok (.pointer (some ⟨gB, k, none⟩)) W := fun W => ixB gB n k k rfl hk W
        have hcb := HOB2.out.cell hk
        have hfz := HOB2.out.frozen k
        have hgn := hg'.out
        rw [goR_cons_some hs] at hgn
        rw [hbs'.out k hk] at hcb
        by_cases hm : (k : Int) ∈ R
        · rw [decide_eq_true hm] at hcb
          rw [if_pos hm] at hgn
          have hgn' := Lib.hid hgn
          clear hgn hs hm hA0 hA1 hfz HM HE
          go_wp2_with fail
          go_roundw
          case rel => exact ⟨j + 1, ao, m, d, false, by omega, by go_num, rfl, rfl, R, bs, HO2.out, HOB2.out, hbs'.out, hG'.out, hgn'.out, HB2.out⟩
          case measure => simp [intOf]; omega
        · rw [decide_eq_false hm] at hcb
          rw [if_neg hm] at hgn
          have hgn' := Lib.hid hgn
          have hG2 := Lib.hid (step_some hs hG'.out).1
          rw [if_neg hm] at hG2
          have hbs2 : Hid (∀ x : Nat, x < n → (bs.set k true).getD x false = decide ((x : Int) ∈ R ++ [(k : Int)])) := known_set HOB2.out.len hbs'.out
          obtain ⟨v3, hv3⟩ : ∃ y, v2.setCell ⟨gB, k, none⟩ (.bool true) = y := ⟨_, rfl⟩
          have OB3 : Hid (OwnT U.heap.size v3 (some ⟨gB, 0, none⟩) n n (bs.set k true)) := by rw [← hv3]; exact HOB2.out.set k true
          have O3 : Own 3 .i64 U.heap.size v3 ao m d R := by rw [← hv3]; exact HO2.out.setT HOB2.out _
          have hgB : U.heap.size ≤ gB := by
            rcases HOB2.out.2 with ⟨hv, _⟩ | ⟨g, cap, cur, hv, hg, _⟩
            · cases hv
            · injection hv with e _ _
              injection e with e
              injection e with e _ _
              omega
          have B3 : Below U.heap.size U v3 := by rw [← hv3]; exact HB2.out.setCell (p := ⟨gB, k, none⟩) hgB _
          have hz3 := B3.size
          have HB3 := Lib.hid B3
          clear hgn hs hm hA0 hA1 HM HE B3 hgB
          go_wp2_with (at_builtin; refine wpList_appI O3 (wf_i64 (by omega) (by omega)) hz3 (by omega) rfl rfl ?_)
          intro ao' d' v4 O4 G4 B4
          have OB4 : Hid (OwnT U.heap.size v4 (some ⟨gB, 0, none⟩) n n (bs.set k true)) := OB3.out.append O3 G4
          have HB4 := Lib.hid (HB3.out.trans B4)
          have HO4 := Lib.hid O4
          clear O4 G4 B4 O3 OB3
          go_wp2_with fail
          go_roundw
          case rel => exact ⟨j + 1, ao', m + 1, d', false, by omega, by go_num, rfl, rfl, R ++ [(k : Int)], bs.set k true, HO4.out, OB4.out, hbs2.out, hG2.out, hgn'.out, HB4.out⟩
          case measure => simp [intOf]; omega
      · by_cases h2 : N = 2 ∧ ov ≠ 2
        · obtain ⟨rfl, hov⟩ := h2
          have hs : stepR n ov sk l R b = none := by rw [hst.out, if_pos ⟨rfl, hov⟩]
          have hRT : R = T := by have := hg'.out; rw [goR_cons_none hs] at this; exact this
          have hov' : (ov != 2) = true := by simpa using hov
          have HOx : Hid (Own 3 .i64 w.heap.size v2 ao m d T) := by rw [← hRT]; exact HO2.out.lower HBU.out.size
          clear hs hRT hov HM HE HO2 HOB2 h1
          go_wp2_with fail
          go_ret
          exact ⟨ao, m, d, rfl, HOx.out, hBx.out⟩
        · have hs : stepR n ov sk l R b = if EE = true then none else some (R, true) := by rw [hst.out, if_neg h2, if_neg h1]
          have hN1 : ((N : Int) != 1) = true := by simp; omega
          have hNo : N = 0 ∨ (N = 2 ∧ ov = 2) := by
            by_cases e : N = 2
            · exact Or.inr ⟨e, by
                by_cases e2 : ov = 2
                · exact e2
                · exact absurd ⟨e, e2⟩ h2⟩
            · exact Or.inl (by omega)
          clear HM h2 h1 hN1
          cases EE with
          | true =>
            have hRT : R = T := by have := hg'.out; rw [goR_cons_none (by rw [hs]; rfl)] at this; exact this
            have HOx : Hid (Own 3 .i64 w.heap.size v2 ao m d T) := by rw [← hRT]; exact HO2.out.lower HBU.out.size
            clear hs hRT HO2 HOB2
            rcases hNo with rfl | ⟨rfl, rfl⟩
            all_goals
              go_wp2_with (first | (go_at_call 14; (with_reducible refine (HE.out _).mono ?_); rintro e x1 ⟨rfl, rfl⟩) | fail)
              go_ret
              exact ⟨ao, m, d, rfl, HOx.out, hBx.out⟩
          | false =>
            have hgn : Hid (goR n ov sk (LS.drop (j + 1)) R true = T) := by have := hg'.out; rw [goR_cons_some (by rw [hs]; rfl)] at this; exact this
            clear hs
            rcases hNo with rfl | ⟨rfl, rfl⟩
            all_goals
              go_wp2_with (first | (go_at_call 14; (with_reducible refine (HE.out _).mono ?_); rintro e x1 ⟨rfl, rfl⟩) | fail)
              go_roundw
              case rel => exact ⟨j + 1, ao, m, d, true, by omega, by go_num, rfl, rfl, R, bs, HO2.out, HOB2.out, hbs'.out, hG'.out, hgn.out, HB2.out⟩
              case measure => simp [intOf]; omega
    · have hge : ¬ (j : Int) < Z := hlt
      rw [hLe.out j (by omega)] at hg
      have hRT : R = T := hg
      have HBx : Hid (Below w.heap.size w v1) := HBU.out.trans (B.mono HBU.out.size)
      have HOx : Hid (Own 3 .i64 w.heap.size v1 ao m d T) := by rw [← hRT]; exact O.lower HBU.out.size
      clear O OB B hbs hG hg hRT
      go_wp2_with fail
      go_ret
      exact ⟨ao, m, d, rfl, HOx.out, HBx.out⟩
end Go.Proofs.Ytjpkbaidgddhnaa
