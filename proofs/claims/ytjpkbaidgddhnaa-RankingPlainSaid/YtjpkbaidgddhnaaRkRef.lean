/-
  electionref13.Prefs.
-/
import Derived.Test.YtjpkbaidgddhnaaRkPrefs
import Derived.Deep.CutBlock
namespace Go.Proofs.Ytjpkbaidgddhnaa
open Go.RowKit Rk

namespace Rk
/-- What the marks of a rank decide: the ranking R ends, or goes on. -/
structure RQ (n : Nat) (ov sk : Int) (rest : List (List Int)) (R : List Int) (b : Bool) (T L : List Int) : Prop where
  over : 1 < L.length → ov ≠ 2 → R = T
  one : ∀ x, L = [x] → In n x ∧ goR n ov sk rest (if x ∈ R then R else R ++ [x]) false = T
  stop : L.length ≠ 1 → ¬ (1 < L.length ∧ ov ≠ 2) → ends sk b = true → R = T
  on : L.length ≠ 1 → ¬ (1 < L.length ∧ ov ≠ 2) → ends sk b = false → goR n ov sk rest R true = T
theorem rq_nil {n : Nat} {ov sk : Int} {R T : List Int} {b : Bool} (h : goR n ov sk [] R b = T) : RQ n ov sk [] R b T [] :=
  ⟨fun h1 => absurd h1 (by decide), fun x hx => (by cases hx), fun _ _ _ => h, fun _ _ _ => h⟩
theorem rq_of {n : Nat} {ov sk : Int} {l : List Int} {rest : List (List Int)} {R T : List Int} {b : Bool} (h : goR n ov sk (l :: rest) R b = T) : RQ n ov sk rest R b T (mks l n) := by
  rcases mk_mks n l with ⟨h1, h2⟩ | ⟨h1, h2⟩ | ⟨h1, h2⟩
  · rw [h2]
    refine ⟨fun h1 => absurd h1 (by decide), fun x hx => (by cases hx), fun _ _ he => ?_, fun _ _ he => ?_⟩
    · rw [goR_cons_none (show stepR n ov sk l R b = none by rw [stepR, h1, if_neg (by simp), if_neg (by simp), if_pos he])] at h
      exact h
    · rw [goR_cons_some (show stepR n ov sk l R b = some (R, true) by rw [stepR, h1, if_neg (by simp), if_neg (by simp), if_neg (by rw [he]; decide)])] at h
      exact h
  · rw [h2]
    refine ⟨fun h1 => absurd h1 (by simp), fun x hx => ?_, fun h1 => absurd rfl h1, fun h1 => absurd rfl h1⟩
    injection hx with hx _
    have hi : In n (mk n l 0 0).1 := by
      rcases mk_zero n l 0 with ⟨h2, _⟩ | ⟨_, _, h3, _⟩ | ⟨h2, _⟩
      · omega
      · exact h3
      · omega
    rw [goR_cons_some (show stepR n ov sk l R b = some (if (mk n l 0 0).1 ∈ R then R else R ++ [(mk n l 0 0).1], false) by rw [stepR, h1, if_neg (by simp), if_pos rfl])] at h
    rw [← hx]
    exact ⟨hi, h⟩
  · refine ⟨fun _ ho => ?_, fun x hx => (by rw [hx] at h2; exact absurd h2 (by simp)), fun _ hn he => ?_, fun _ hn he => ?_⟩
    · rw [goR_cons_none (show stepR n ov sk l R b = none by rw [stepR, if_pos ⟨h1, ho⟩])] at h
      exact h
    · rw [goR_cons_none (show stepR n ov sk l R b = none by rw [stepR, if_neg (fun hh => hn ⟨h2, hh.2⟩), h1, if_neg (by decide), if_pos he])] at h
      exact h
    · rw [goR_cons_some (show stepR n ov sk l R b = some (R, true) by rw [stepR, if_neg (fun hh => hn ⟨h2, hh.2⟩), h1, if_neg (by decide), if_neg (by rw [he]; decide)])] at h
      exact h
end Rk
set_option maxHeartbeats 3200000 in
set_option maxRecDepth 100000 in
theorem refPrefs_c (nm : ByteArray) (co : Option Addr) (n cc : Nat) (me se rk dg ti ov sk vt : Int) (ro : Option Addr) (rn rc : Nat) (ls : List (List Int)) (w : World) (h : Rks w ro rn rc ls) (hn : n ≤ 7) (hr : rk ≤ 1000) (hcc : n ≤ cc) :
    Calls Try.prog 12 #[.agg #[.string nm, .slice co n cc, .int .i64 me, .int .i64 se, .int .i64 rk, .int .i64 dg, .int .i64 ti, .int .i64 ov, .int .i64 sk], .agg #[.int .i64 vt, .slice ro rn rc]] w
      fun e w' => ∃ ao m d, e = .returned (.slice ao m d) ∧ Own 3 .i64 w.heap.size w' ao m d (rank n rk ov sk ls) ∧ Below w.heap.size w w' := by
  obtain ⟨V, e1, AV, BV, zV⟩ := new_box w 24 [.string nm, .slice co n cc, .int .i64 me, .int .i64 se, .int .i64 rk, .int .i64 dg, .int .i64 ti, .int .i64 ov, .int .i64 sk]
  obtain ⟨U, e2, AU, BU, zU⟩ := new_box V 27 [.int .i64 vt, .slice ro rn rc]
  have hcap := h.cap
  have hroom := h.room
  have hlen := Lib.hid h.len
  have HR : Hid (∀ W, Below U.heap.size U W → Rks W ro rn rc ls) := fun W hb => ((h.below BV).below BU).below hb
  have HBU : Hid (Below w.heap.size w U) := BV.trans (BU.mono BV.size)
  have HC : Hid (∀ (W : World), Below U.heap.size U W → W.cell? ⟨w.heap.size, 1, none⟩ = some (.slice co n cc) ∧ W.cell? ⟨w.heap.size, 4, none⟩ = some (.int .i64 rk) ∧ W.cell? ⟨w.heap.size, 7, none⟩ = some (.int .i64 ov) ∧ W.cell? ⟨w.heap.size, 8, none⟩ = some (.int .i64 sk) ∧ W.cell? ⟨V.heap.size, 1, none⟩ = some (.slice ro rn rc)) := fun W hb =>
    ⟨cell_keep (cell_keep (AV.cell 1) BU) hb, cell_keep (cell_keep (AV.cell 4) BU) hb, cell_keep (cell_keep (AV.cell 7) BU) hb, cell_keep (cell_keep (AV.cell 8) BU) hb, cell_keep (AU.cell 1) hb⟩
  obtain ⟨T, hT⟩ : ∃ T, Hid (rank n rk ov sk ls = T) := ⟨_, rfl⟩
  rw [hT.out]
  obtain ⟨LS, hLS⟩ : ∃ L, Hid (L = ls.take rk.toNat) := ⟨_, rfl⟩
  have hT0 : Hid (goR n ov sk (LS.drop 0) [] false = T) := by show _ = _; rw [← hT.out, hLS.out]; rfl
  have hLd : Hid (∀ j : Nat, (j : Int) < rk → j < rn → LS.drop j = ls.getD j [] :: LS.drop (j + 1)) := fun j hj hj2 => by
    have h1 := hlen.out
    have h2 : j < LS.length := by rw [hLS.out, List.length_take]; omega
    rw [List.drop_eq_getElem_cons h2]
    congr 1
    rw [List.getD_eq_getElem?_getD, List.getElem?_eq_getElem (by omega)]
    simp [hLS.out]
  have hLe : Hid (∀ j : Nat, rn ≤ j → LS.drop j = []) := fun j hj => by
    have h1 := hlen.out
    exact List.drop_of_length_le (by rw [hLS.out, List.length_take]; omega)
  have hLf : Hid (∀ j : Nat, rk ≤ (j : Int) → LS.drop j = []) := fun j hj => by
    exact List.drop_of_length_le (by rw [hLS.out, List.length_take]; omega)
  have HB0 : Hid (Below U.heap.size U U) := Below.refl _ _
  clear h AV AU zV zU BV BU hT hLS
  go_enter Try.func12, Try.ntmps12
  go_wp2_with fail
  clear e1 e2
  go_loopw [5, 6, 7] (fun rv bv iv wr => ∃ (j : Nat) (ao : Option Addr) (m d : Nat) (b : Bool), j ≤ 1000 ∧ iv = .int .i64 (j : Int) ∧ rv = .slice ao m d ∧ bv = .bool b ∧ Hid (∃ (R : List Int), Own 3 .i64 U.heap.size wr ao m d R ∧ GoodR n R ∧ goR n ov sk (LS.drop j) R b = T ∧ Below U.heap.size U wr))
    (fun _ _ iv _ => rk.toNat - (intOf iv).toNat)
  case atStart => exact ⟨0, none, 0, 0, false, by omega, rfl, rfl, rfl, [], own_nil _ _ _ _, good_nil, hT0.out, HB0.out⟩
  case round =>
    obtain ⟨v1, hv1⟩ : ∃ y, y = wr := ⟨_, rfl⟩
    subst hv1
    clear HB0 hT0
    obtain ⟨j, ao, m, d, b, hj, rfl, rfl, rfl, hI⟩ := hrel
    obtain ⟨R, O, hG, hg, B⟩ := hI.out
    clear hI
    obtain ⟨x1, x4, x7, x8, u1⟩ := HC.out v1 B
    have HO := Lib.hid O
    have HB := Lib.hid B
    have hG' := Lib.hid hG
    have hg' := Lib.hid hg
    have hrl : R.length = m := O.len
    have hm1 : m ≤ 1000 := by have := good_len hG; omega
    have HBx : Hid (Below w.heap.size w v1) := HBU.out.trans (B.mono HBU.out.size)
    clear O B hG hg hrl
    by_cases hlt : (j : Int) < rk
    · have hj1 : j < 1000 := by omega
      obtain ⟨T6, hT6⟩ : ∃ t, decide (j < rn) = t := ⟨_, rfl⟩
      have hT7 := Lib.hid hT6
      go_upto_if 21 with fail
      clear hT6
      go_cut [8] from 22 to 31 (fun mv wx => ∃ (mo : Option Addr) (r d' : Nat) (Lm : List Int), mv = .slice mo r d' ∧ Hid (Lst .i64 wx mo r d' Lm) ∧ Hid (Below v1.heap.size v1 wx) ∧ Hid (RQ n ov sk (LS.drop (j + 1)) R b T Lm))
      case first =>
        by_cases hjr : j < rn
        · have hjr' : (j : Int) < (rn : Int) := by omega
          have hT8 := hT7.out
          rw [decide_eq_true hjr] at hT8
          subst hT8
          have HRv := HR.out v1 HB.out
          have hix := ixR HRv j j rfl hjr
          obtain ⟨bo, l1, d1, hc0, hL, _⟩ := HRv.cell j hjr
          obtain ⟨l, hl⟩ : ∃ l, ls.getD j [] = l := ⟨_, rfl⟩
          rw [hl] at hL
          have hQ : Hid (RQ n ov sk (LS.drop (j + 1)) R b T (mks l n)) := by
            have := hg'.out
            rw [hLd.out j hlt hjr, hl] at this
            exact rq_of this
          have HM := Lib.hid (marks_c bo l1 d1 l n v1.drew (hL.drewN 1) (by omega))
          have k1 : v1.drew.cell? ⟨w.heap.size, 1, none⟩ = some (.slice co n cc) := x1
          have ku : v1.drew.cell? ⟨V.heap.size, 1, none⟩ = some (.slice ro rn rc) := u1
          have kc : v1.drew.cell? (pt ro j) = some (.slice bo l1 d1) := hc0
          have hmn : (if (7 : Int) < (n : Int) then (7 : Int) else (n : Int)) = (n : Int) := if_neg (by omega)
          have hmn2 : ¬ (7 : Int) < (n : Int) := by omega
          clear HRv hL hl
          go_wp2_with fail
          go_region_held3 (fun w' => w'.cell? ⟨w.heap.size, 1, none⟩ = some (.slice co n cc) ∧ w'.cell? ⟨V.heap.size, 1, none⟩ = some (.slice ro rn rc) ∧ w'.cell? (pt ro j) = some (.slice bo l1 d1)) (go_keep) (first
            | (go_at_call 15; (with_reducible refine HM.out.mono ?_); rintro e v2 ⟨mo, r, d', rfl, O2, B2⟩; have a0 := cell_keep k1 B2; have a1 := cell_keep ku B2; have a2 := cell_keep kc B2)
            | fail)
          all_goals
            go_wp2_with fail
            go_meet
            case rel => exact ⟨mo, r, d', _, by rfl, O2.lst, ⟨B2.os, B2.tape, B2.output, B2.size, B2.block⟩, hQ.out⟩
        · have hjr' : ¬ (j : Int) < (rn : Int) := by omega
          have hT8 := hT7.out
          rw [decide_eq_false hjr] at hT8
          subst hT8
          have hQ : Hid (RQ n ov sk (LS.drop (j + 1)) R b T []) := by
            have := hg'.out
            rw [hLe.out j (by omega)] at this
            rw [hLe.out (j + 1) (by omega)]
            exact rq_nil this
          go_wp2_with fail
          go_meet
          case rel => exact ⟨none, 0, 0, [], by rfl, Lst.nil _ _, Below.refl _ _, hQ.out⟩
      case rest =>
        clear x1 x4 x7 x8 u1 hT7 HBx
        obtain ⟨mo, r, d', Lm, rfl, hLm, hB2, hQ⟩ := hcut
        have B2 := HB.out.trans (hB2.out.mono HB.out.size)
        obtain ⟨x1, x4, x7, x8, u1⟩ := HC.out wc B2
        have HO2 : Hid (Own 3 .i64 U.heap.size wc ao m d R) := HO.out.kept hB2.out
        have HBx : Hid (Below w.heap.size w wc) := HBU.out.trans (B2.mono HBU.out.size)
        have HB2 := Lib.hid B2
        have hlm := Lib.hid hLm.out.len
        clear B2 hB2 HO HB hg'
        by_cases hr1 : r = 1
        · subst hr1
          obtain ⟨x, hx⟩ : ∃ x, Hid (Lm = [x]) := by
            match Lm, hlm.out with
            | [x], _ => exact ⟨x, rfl⟩
          obtain ⟨hin, hgn⟩ := hQ.out.one x hx.out
          have hgn' := Lib.hid hgn
          obtain ⟨hx0, hx1⟩ := hin
          have hixm := ixI hLm.out 0 0 rfl (by omega)
          have hcm := hLm.out.cell 0 (by omega)
          rw [hx.out] at hcm
          have hcm2 : wc.cell? (pt mo 0) = some (.int .i64 x) := hcm
          clear hgn hcm
          go_wp2_with fail
          clear x1 x4 x7 x8 u1
          go_loopw [9, 10] (fun kv iv wx => ∃ (k : Nat) (t : Bool), k ≤ m ∧ iv = .int .i64 (k : Int) ∧ kv = .bool t ∧ Hid (t = decide (x ∈ R.take k)) ∧ ∃ q, wx = wc.drewN q) (fun _ iv _ => m - (intOf iv).toNat)
          case atStart => exact ⟨0, false, Nat.zero_le _, rfl, rfl, by show _ = _; simp, 0, rfl⟩
          case round =>
            obtain ⟨k, t, hk, rfl, rfl, ht, q, hwq⟩ := hrel
            obtain ⟨v3, hv3⟩ : ∃ y, y = wr := ⟨_, rfl⟩
            subst hv3
            have hrl : R.length = m := HO2.out.len
            have LR : Lst .i64 v3 ao m d R := by rw [hwq]; exact HO2.out.lst.drewN q
            have hcm3 : v3.cell? (pt mo 0) = some (.int .i64 x) := by rw [hwq]; exact hcm2
            by_cases hkm : k < m
            · have hkm' : (k : Int) < (m : Int) := by omega
              have hix := ixI LR k k rfl hkm
              obtain ⟨y, hy0, _, _, _, hd, hc⟩ := LR.at k hkm
              have htk : R.take (k + 1) = R.take k ++ [y] := by
                rw [List.take_add_one]
                congr 1
                rw [List.getD_eq_getElem?_getD] at hy0
                rw [List.getElem?_eq_getElem (by omega)] at hy0 ⊢
                simpa using hy0
              have ht2 : Hid ((t || (y == x)) = decide (x ∈ R.take (k + 1))) := by
                show _ = _
                rw [ht.out, htk]
                by_cases e : y = x
                · simp [e]
                · have e2 : ¬ x = y := fun h => e h.symm
                  simp [e, e2]
              clear hd htk hy0 hrl
              obtain ⟨t2, ht3⟩ : ∃ t, (y == x) = t := ⟨_, rfl⟩
              rw [ht3] at ht2
              have hq2 : Hid (∃ q, v3 = wc.drewN q) := ⟨q, hwq⟩
              clear hwq LR
              cases t with
              | true =>
                clear ht3 hix hc
                go_wp2_with fail
                go_quiet (fail)
                go_wp2_with fail
                go_roundw
                case rel => exact ⟨k + 1, true, by omega, by go_num, rfl, ht2, by obtain ⟨q, hq⟩ := hq2.out; rw [hq]; exact ⟨_, World.drewN_drewN _ _ _⟩⟩
                case measure => simp [intOf]; omega
              | false =>
                go_wp2_with fail
                go_quiet (fail)
                go_wp2_with fail
                go_roundw
                case rel => exact ⟨k + 1, t2, by omega, by go_num, rfl, ht2, by obtain ⟨q, hq⟩ := hq2.out; rw [hq]; exact ⟨_, World.drewN_drewN _ _ _⟩⟩
                case measure => simp [intOf]; omega
            · obtain rfl : k = m := by omega
              have ht2 := ht.out
              rw [List.take_of_length_le (by rw [hrl]; exact Nat.le_refl _)] at ht2
              have O3 : Own 3 .i64 U.heap.size v3 ao k d R := by rw [hwq]; exact HO2.out.drewN q
              have B3 : Below U.heap.size U v3 := by rw [hwq]; exact below_drewN HB2.out q
              have hz3 := B3.size
              have HB3 := Lib.hid B3
              clear HB2 HO2 HBx hwq LR hrl B3
              cases t with
              | true =>
                have hm : x ∈ R := by simpa using ht2.symm
                have hgn2 := hgn'.out
                rw [if_pos hm] at hgn2
                have hgn3 := Lib.hid hgn2
                have HO3 := Lib.hid O3
                clear hgn2 hm ht2 O3
                go_wp2_with fail
                go_roundw
                case rel => exact ⟨j + 1, ao, k, d, false, by omega, by go_num, rfl, rfl, R, HO3.out, hG'.out, hgn3.out, HB3.out⟩
                case measure => simp [intOf]; omega
              | false =>
                have hm : x ∉ R := by simpa using ht2.symm
                have hgn2 := hgn'.out
                rw [if_neg hm] at hgn2
                have hgn3 := Lib.hid hgn2
                have hG2 : Hid (GoodR n (R ++ [x])) := by
                  refine ⟨?_, fun y hy => ?_⟩
                  · rw [List.nodup_append]
                    refine ⟨hG'.out.nodup, by simp, fun a ha b hb e => ?_⟩
                    rw [List.mem_singleton] at hb
                    exact hm (by rw [← hb, ← e]; exact ha)
                  · rcases List.mem_append.1 hy with hy | hy
                    · exact hG'.out.inn y hy
                    · rw [List.mem_singleton.1 hy]; exact ⟨hx0, hx1⟩
                clear hgn2 hm ht2
                go_wp2_with (at_builtin; refine wpList_appI O3 (wf_i64 (by omega) (by omega)) hz3 (by omega) rfl rfl ?_)
                intro ao' d2 v4 O4 _ B4
                have HB4 := Lib.hid (HB3.out.trans B4)
                have HO4 := Lib.hid O4
                clear O4 B4 O3
                go_wp2_with fail
                go_roundw
                case rel => exact ⟨j + 1, ao', k + 1, d2, false, by omega, by go_num, rfl, rfl, R ++ [x], HO4.out, hG2.out, hgn3.out, HB4.out⟩
                case measure => simp [intOf]; omega
        · have hr1' : ((r : Int) == 1) = false := by simp; omega
          have hl1 : Lm.length ≠ 1 := by rw [hlm.out]; exact hr1
          by_cases hov : 1 < r ∧ ov ≠ 2
          · obtain ⟨hr2, ho⟩ := hov
            have hr2' : (r : Int) > 1 := by omega
            have ho' : (ov != 2) = true := by simpa using ho
            have hRT : R = T := hQ.out.over (by rw [hlm.out]; exact hr2) ho
            have HOx : Hid (Own 3 .i64 w.heap.size wc ao m d T) := by rw [← hRT]; exact HO2.out.lower HBU.out.size
            clear hRT ho HO2 hl1
            go_wp2_with fail
            go_ret
            exact ⟨ao, m, d, rfl, HOx.out, HBx.out⟩
          · have hQ1 : Hid (ends sk b = true → R = T) := hQ.out.stop hl1 (by rw [hlm.out]; exact hov)
            have hQ2 : Hid (ends sk b = false → goR n ov sk (LS.drop (j + 1)) R true = T) := hQ.out.on hl1 (by rw [hlm.out]; exact hov)
            have hno : r = 0 ∨ (1 < r ∧ ov = 2) := by
              by_cases e : 1 < r
              · exact Or.inr ⟨e, by
                  by_cases e2 : ov = 2
                  · exact e2
                  · exact absurd ⟨e, e2⟩ hov⟩
              · exact Or.inl (by omega)
            have hno2 : (¬ (1 : Int) < (r : Int) ∨ ((1 : Int) < (r : Int) ∧ ov = 2)) := by omega
            clear hov hno hl1 hr1
            have hsk : (sk = 1 ∧ ends sk b = false) ∨ (sk = 3 ∧ ends sk b = b) ∨ ((sk != 1) = true ∧ (sk != 3) = true ∧ ends sk b = true) := by
              unfold ends
              by_cases h1 : sk = 1
              · exact Or.inl ⟨h1, by rw [if_pos h1]⟩
              · by_cases h3 : sk = 3
                · exact Or.inr (Or.inl ⟨h3, by rw [if_neg h1, if_pos h3]⟩)
                · exact Or.inr (Or.inr ⟨by simpa using h1, by simpa using h3, by rw [if_neg h1, if_neg h3]⟩)
            rcases hsk with ⟨hs1, he⟩ | ⟨hs3, he⟩ | ⟨hs1, hs3, he⟩
            · have hgn := Lib.hid (hQ2.out he)
              clear hQ1 hQ2 he
              subst hs1
              rcases hno2 with hr2 | ⟨hr2, rfl⟩
              all_goals
                go_wp2_with fail
                go_roundw
                case rel => exact ⟨j + 1, ao, m, d, true, by omega, by go_num, rfl, rfl, R, HO2.out, hG'.out, hgn.out, HB2.out⟩
                case measure => simp [intOf]; omega
            · cases b with
              | true =>
                have hRT : R = T := hQ1.out he
                have HOx : Hid (Own 3 .i64 w.heap.size wc ao m d T) := by rw [← hRT]; exact HO2.out.lower HBU.out.size
                clear hQ1 hQ2 he hRT
                subst hs3
                rcases hno2 with hr2 | ⟨hr2, rfl⟩
                all_goals
                  go_wp2_with fail
                  go_ret
                  exact ⟨ao, m, d, rfl, HOx.out, HBx.out⟩
              | false =>
                have hgn := Lib.hid (hQ2.out he)
                clear hQ1 hQ2 he
                subst hs3
                rcases hno2 with hr2 | ⟨hr2, rfl⟩
                all_goals
                  go_wp2_with fail
                  go_roundw
                  case rel => exact ⟨j + 1, ao, m, d, true, by omega, by go_num, rfl, rfl, R, HO2.out, hG'.out, hgn.out, HB2.out⟩
                  case measure => simp [intOf]; omega
            · have hRT : R = T := hQ1.out he
              have HOx : Hid (Own 3 .i64 w.heap.size wc ao m d T) := by rw [← hRT]; exact HO2.out.lower HBU.out.size
              clear hQ1 hQ2 he hRT
              rcases hno2 with hr2 | ⟨hr2, rfl⟩
              all_goals
                go_wp2_with fail
                go_ret
                exact ⟨ao, m, d, rfl, HOx.out, HBx.out⟩
    · have hge : ¬ (j : Int) < rk := hlt
      have hRT : R = T := by have := hg'.out; rw [hLf.out j (by omega)] at this; exact this
      have HOx : Hid (Own 3 .i64 w.heap.size v1 ao m d T) := by rw [← hRT]; exact HO.out.lower HBU.out.size
      clear HO hG' hg' hRT
      go_wp2_with fail
      go_ret
      exact ⟨ao, m, d, rfl, HOx.out, HBx.out⟩
end Go.Proofs.Ytjpkbaidgddhnaa
