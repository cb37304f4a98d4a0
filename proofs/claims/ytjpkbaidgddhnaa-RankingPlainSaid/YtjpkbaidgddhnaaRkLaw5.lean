/-
  The walk of RankingPlain.
-/
import Derived.Test.YtjpkbaidgddhnaaRkBld
namespace Go.Proofs.Ytjpkbaidgddhnaa
open Go.RowKit Rk

theorem remN (z : Int) (n : Nat) (h0 : 0 < n) (h7 : n ≤ 7) : ∃ N : Nat, N < n ∧ (wrap64 (z.tmod (n : Int) + (n : Int))).tmod (n : Int) = (N : Int) := by
  have h1 : -(n : Int) < z.tmod n ∧ z.tmod n < n := by
    have := Int.tmod_lt_of_pos z (show (0 : Int) < (n : Int) by omega)
    have := Int.lt_tmod_of_pos z (show (0 : Int) < (n : Int) by omega)
    omega
  have hw : wrap64 (z.tmod n + n) = z.tmod n + n := by unfold wrap64; omega
  rw [hw]
  have h2 : 0 ≤ (z.tmod n + n).tmod n := by rw [Int.tmod_eq_emod_of_nonneg (by omega)]; exact Int.emod_nonneg _ (by omega)
  have h3 := Int.tmod_lt_of_pos (z.tmod n + n) (show (0 : Int) < (n : Int) by omega)
  exact ⟨((z.tmod n + n).tmod n).toNat, by omega, by omega⟩
/-- Values that are slices of one int, each in a block of its own. -/
def SngV (w : World) (lo : Nat) : List Int → List Value → Prop
  | [], us => us = []
  | x :: xs, us => ∃ g r, us = .slice (some ⟨g, 0, none⟩) 1 1 :: r ∧ lo ≤ g ∧ Arr w g 3 [.int .i64 x] ∧ SngV w lo xs r
theorem SngV.map {w w' : World} {lo : Nat} (hk : ∀ g x, lo ≤ g → Arr w g 3 [.int .i64 x] → Arr w' g 3 [.int .i64 x]) : ∀ {xs : List Int} {us : List Value}, SngV w lo xs us → SngV w' lo xs us
  | [], _, h => h
  | _ :: _, _, ⟨g, r, h1, h2, h3, h4⟩ => ⟨g, r, h1, h2, hk g _ h2 h3, h4.map hk⟩
theorem SngV.snoc {w : World} {lo g : Nat} {x : Int} (hg : lo ≤ g) (hA : Arr w g 3 [.int .i64 x]) : ∀ {xs : List Int} {us : List Value}, SngV w lo xs us → SngV w lo (xs ++ [x]) (us ++ [.slice (some ⟨g, 0, none⟩) 1 1])
  | [], us, h => by
    have : us = [] := h
    subst this
    exact ⟨g, [], rfl, hg, hA, rfl⟩
  | _ :: _, _, ⟨g', r, h1, h2, h3, h4⟩ => by
    subst h1
    exact ⟨g', _, rfl, h2, h3, SngV.snoc hg hA h4⟩
theorem SngV.lsv {w : World} {lo : Nat} : ∀ {xs : List Int} {us : List Value}, (∀ x ∈ xs, (Lit.int .i64 x).wf = true) → SngV w lo xs us → LsV w (xs.map fun k => [k]) us
  | [], _, _, h => h
  | x :: xs, _, hx, ⟨g, r, h1, _, h3, h4⟩ => by
    refine ⟨some ⟨g, 0, none⟩, 1, 1, r, h1, ⟨rfl, Nat.le_refl _, by omega, fun _ => ⟨_, rfl⟩, fun i hi => ?_, fun y hy => ?_⟩, (fun e => by cases e), h4.lsv (fun y hy => hx y (List.mem_cons_of_mem _ hy))⟩
    · obtain rfl : i = 0 := by omega
      rw [pt_own, h3.cell]
      rfl
    · rw [List.mem_singleton.1 hy]; exact hx x List.mem_cons_self
structure BldP (Q wr : World) (ao : Option Addr) (i d : Nat) (us : List Value) (xs : List Int) : Prop where
  x : Arr wr Q.heap.size 27 [.int .i64 0, .slice ao i d]
  row : wr.ownsRow Q.heap.size 32 1 (.slice ao i d) i us
  vals : SngV wr Q.heap.size xs us
  low : Below Q.heap.size Q wr
theorem BldP.add {Q wr : World} {ao : Option Addr} {i d : Nat} {us : List Value} {xs : List Int} (h : BldP Q wr ao i d us xs) (y : Int) :
    ∃ X Y, wr.alloc (.cells #[.int .i64 y] 3) = X ∧ X.alloc (.cells #[.slice (some ⟨wr.heap.size, 0, none⟩) 1 1] 32) = Y ∧ X.ownsRow Q.heap.size 32 1 (.slice ao i d) i us ∧ Q.heap.size ≤ X.heap.size ∧
      ∀ ao' d' w5, w5.ownsRow Q.heap.size 32 1 (.slice ao' (i + 1) d') (i + 1) (us ++ [.slice (some ⟨wr.heap.size, 0, none⟩) 1 1]) → X.grownBy w5 (Value.slice ao i d).ownBlock → Below Q.heap.size X w5 →
        ∃ Z, w5.setCell ⟨Q.heap.size, 1, none⟩ (.slice ao' (i + 1) d') = Z ∧ w5.cell? ⟨Q.heap.size, 1, none⟩ = some (.slice ao i d) ∧ w5.frozen? ⟨Q.heap.size, 1, none⟩ = false ∧ BldP Q Z ao' (i + 1) d' (us ++ [.slice (some ⟨wr.heap.size, 0, none⟩) 1 1]) (xs ++ [y]) := by
  obtain ⟨X, e1, AX, BX, _⟩ := new_box wr 3 [.int .i64 y]
  have OX := ownsRow_keep h.row BX
  have hz := h.low.size
  have bX : Below Q.heap.size Q X := h.low.trans (BX.mono hz)
  have vX : SngV X Q.heap.size xs us := h.vals.map (fun g x _ hA => hA.kept BX)
  refine ⟨X, _, e1, rfl, OX, bX.size, fun ao' d' w5 O5 G5 B5 => ?_⟩
  have x5 := (h.x.kept BX).row OX (by decide) G5
  have b5 := bX.trans B5
  have A5 := AX.row OX (by decide) G5
  have v5 : SngV w5 Q.heap.size xs us := vX.map (fun g x _ hA => hA.row OX (by decide) G5)
  have ne : ∀ {g : Nat} {z : Int}, Arr w5 g 3 [.int .i64 z] → g ≠ Q.heap.size := fun hA e => by
    subst e
    have h1 : w5.heap[Q.heap.size]? = _ := hA
    have h2 : w5.heap[Q.heap.size]? = _ := x5
    rw [h2] at h1
    injection h1 with h1
    injection h1 with _ h3 _
    exact absurd h3 (by decide)
  refine ⟨_, rfl, x5.cell 1, x5.frozen 1, x5.set 1 _, row_set O5 x5 (by decide) _, ?_, b5.setCell (p := ⟨Q.heap.size, 1, none⟩) (Nat.le_refl _) _⟩
  exact SngV.snoc hz (A5.off (ne A5) _) (v5.map (fun g x _ hA => hA.off (ne hA) _))
theorem rank_plain (n : Nat) (rk ov sk : Int) (R : List Int) (hG : GoodR n R) (h : R.length = 0 ∨ (R.length : Int) ≤ rk) : rank n rk ov sk (R.map fun k => [k]) = R := by
  unfold rank
  rw [List.take_of_length_le (by rw [List.length_map]; omega)]
  have := goR_plain (n := n) (ov := ov) (sk := sk) R [] false (by simpa using hG)
  simpa using this
set_option maxHeartbeats 6400000 in
set_option maxRecDepth 100000 in
theorem plainLaw_c (nm : ByteArray) (co : Option Addr) (n cc : Nat) (me se rk dg ti ov sk : Int) (oo : Option Addr) (on oc : Nat) (os : List Int) (w : World) (hcc : n ≤ cc) (hcc2 : cc ≤ 9223372036854775807) (h : Lst .i64 w oo on oc os) :
    Calls Try.prog 7 #[.agg #[.string nm, .slice co n cc, .int .i64 me, .int .i64 se, .int .i64 rk, .int .i64 dg, .int .i64 ti, .int .i64 ov, .int .i64 sk], .slice oo on oc] w fun e w' => e = .returned (.bool true) ∧ Below w.heap.size w w' := by
  obtain ⟨V, e1, AV, BV, zz1⟩ := new_box w 24 [.string nm, .slice co n cc, .int .i64 me, .int .i64 se, .int .i64 rk, .int .i64 dg, .int .i64 ti, .int .i64 ov, .int .i64 sk]
  have h0 : Rks w none 0 0 [] := ⟨rfl, Nat.le_refl _, by omega, fun h => absurd h (by omega), fun i hi => absurd hi (by omega)⟩
  have HS := Lib.hid (short_c nm co n cc me se rk dg ti ov sk 0 none 0 0 [] w V h0 BV hcc hcc2)
  have HA : Hid (∀ W, Calls Try.prog 9 #[] W fun e w' => e = .returned (.bool true) ∧ Below W.heap.size W w') := fun W => awake_c W
  have y0 : V.cell? ⟨w.heap.size, 0, none⟩ = some (.string nm) := AV.cell 0
  have y1 : V.cell? ⟨w.heap.size, 1, none⟩ = some (.slice co n cc) := AV.cell 1
  have y2 : V.cell? ⟨w.heap.size, 2, none⟩ = some (.int .i64 me) := AV.cell 2
  have y3 : V.cell? ⟨w.heap.size, 3, none⟩ = some (.int .i64 se) := AV.cell 3
  have y4 : V.cell? ⟨w.heap.size, 4, none⟩ = some (.int .i64 rk) := AV.cell 4
  have y5 : V.cell? ⟨w.heap.size, 5, none⟩ = some (.int .i64 dg) := AV.cell 5
  have y6 : V.cell? ⟨w.heap.size, 6, none⟩ = some (.int .i64 ti) := AV.cell 6
  have y7 : V.cell? ⟨w.heap.size, 7, none⟩ = some (.int .i64 ov) := AV.cell 7
  have y8 : V.cell? ⟨w.heap.size, 8, none⟩ = some (.int .i64 sk) := AV.cell 8
  clear zz1 h0
  go_enter Try.func7, Try.ntmps7
  go_upto_region 1 with fail
  go_wp2_with (first
    | (go_at_call 8; (with_reducible refine HS.out.mono ?_); rintro e w1 ⟨n', rk', qo, qn, qc, ms, rfl, hn7, hncc, hr7, hq8, ⟨us, OR, hus⟩, B1⟩; obtain ⟨Z0, Z1, Z2, Z3, Z4, Z5, Z6, Z7, Z8, f0, f1, f2, f3, f4, f5, f6, f7, f8, A3, G3, L3, c0, r0, c1, r1, c2, r2, c3, r3, c4, r4, c5, r5, c6, r6, c7, r7, c8, r8⟩ := box_let9 (AV.kept B1) (.string nm) (.slice co n' cc) (.int .i64 me) (.int .i64 se) (.int .i64 rk') (.int .i64 dg) (.int .i64 ti) (.int .i64 ov) (.int .i64 sk); have BP : Below w.heap.size w Z8 := L3 _ _ (BV.trans (B1.mono BV.size)) (Nat.le_refl _); have k1 : Z8.cell? ⟨w.heap.size, 1, none⟩ = some (.slice co n' cc) := A3.cell 1; clear G3 L3 OR hus)
    | fail)
  clear f0 f1 f2 f3 f4 f5 f6 f7 f8 c0 r0 c1 r1 c2 r2 c3 r3 c4 r4 c5 r5 c6 r6 c7 r7 c8 r8 y0 y1 y2 y3 y4 y5 y6 y7 y8 e1 B1 HS AV BV k1
  have HC : Hid (∀ W, Below Z8.heap.size Z8 W → W.cell? ⟨w.heap.size, 0, none⟩ = some (.string nm) ∧ W.cell? ⟨w.heap.size, 1, none⟩ = some (.slice co n' cc) ∧ W.cell? ⟨w.heap.size, 2, none⟩ = some (.int .i64 me) ∧ W.cell? ⟨w.heap.size, 3, none⟩ = some (.int .i64 se) ∧ W.cell? ⟨w.heap.size, 4, none⟩ = some (.int .i64 rk') ∧ W.cell? ⟨w.heap.size, 5, none⟩ = some (.int .i64 dg) ∧ W.cell? ⟨w.heap.size, 6, none⟩ = some (.int .i64 ti) ∧ W.cell? ⟨w.heap.size, 7, none⟩ = some (.int .i64 ov) ∧ W.cell? ⟨w.heap.size, 8, none⟩ = some (.int .i64 sk)) := fun W hb => ⟨cell_keep (A3.cell 0) hb, cell_keep (A3.cell 1) hb, cell_keep (A3.cell 2) hb, cell_keep (A3.cell 3) hb, cell_keep (A3.cell 4) hb, cell_keep (A3.cell 5) hb, cell_keep (A3.cell 6) hb, cell_keep (A3.cell 7) hb, cell_keep (A3.cell 8) hb⟩
  have HL : Hid (∀ W, Below Z8.heap.size Z8 W → Lst .i64 W oo on oc os) := fun W hb => (h.below BP).below hb
  have HBP := Lib.hid BP
  have hoc := h.cap
  have hor := h.room
  have B0 : Hid (Below Z8.heap.size Z8 Z8) := Below.refl _ _
  clear A3 BP h
  go_loopw [6, 7] (fun rv iv wr => ∃ (i k d : Nat) (ao : Option Addr), i ≤ on ∧ iv = .int .i64 (i : Int) ∧ rv = .slice ao k d ∧ Hid (∃ R : List Int, Own 3 .i64 Z8.heap.size wr ao k d R ∧ GoodR n' R ∧ (k = 0 ∨ (k : Int) ≤ rk') ∧ Below Z8.heap.size Z8 wr)) (fun _ iv _ => on - (intOf iv).toNat)
  case atStart => exact ⟨0, 0, 0, none, Nat.zero_le _, rfl, rfl, [], own_nil _ _ _ _, good_nil, Or.inl rfl, B0.out⟩
  case round =>
    obtain ⟨v1, hv1⟩ : ∃ y, y = wr := ⟨_, rfl⟩
    subst hv1
    clear B0
    obtain ⟨i, k, d, ao, hi, rfl, rfl, hI⟩ := hrel
    obtain ⟨R, O, hG, hkr, B⟩ := hI.out
    clear hI
    obtain ⟨x0, x1, x2, x3, x4, x5, x6, x7, x8⟩ := HC.out _ B
    have HO := Lib.hid O
    have HB := Lib.hid B
    have HG := Lib.hid hG
    have hkr' := Lib.hid hkr
    have hkl : Hid (R.length = k) := O.len
    have hk7 : k ≤ 7 := by have := good_len hG; have := hkl.out; omega
    clear O B hG hkr
    by_cases hgo : i < on ∧ (k : Int) < rk' ∧ 0 < n'
    · obtain ⟨c1, c2, c3⟩ := hgo
      have c1' : (i : Int) < (on : Int) := by omega
      have c3' : (n' : Int) > 0 := by omega
      have hL := HL.out _ HB.out
      have hix := ixI hL i i rfl c1
      obtain ⟨z, _, _, hz1, hz2, _, hzc⟩ := hL.at i c1
      obtain ⟨Y, hY, hrem⟩ := remN z n' c3 hn7
      have hnz : ¬ (n' : Int) = 0 := by omega
      have hnz2 : ((n' : Int) == 0) = false := by simpa using hnz
      have hmc := HO.out.lst.cap
      have hmr := HO.out.lst.room
      clear hL
      go_wp2_with fail
      clear x0 x1 x2 x3 x4 x5 x6 x7 x8 hix hzc hrem
      go_loopw [9, 53] (fun bv jv wx => ∃ (j : Nat) (b : Bool), j ≤ k ∧ jv = .int .i64 (j : Int) ∧ bv = .bool b ∧ Hid (b = decide ((Y : Int) ∈ R.take j)) ∧ wx = v1) (fun _ jv _ => k - (intOf jv).toNat)
      case atStart => exact ⟨0, false, Nat.zero_le _, rfl, rfl, by show _ = _; simp, rfl⟩
      case round =>
        obtain ⟨j, b, hj, rfl, rfl, hb, rfl⟩ := hrel
        have hLk := HO.out.lst
        by_cases hjk : j < k
        · have hjk' : (j : Int) < (k : Int) := by omega
          have hix := ixI hLk j j rfl hjk
          obtain ⟨q, hq0, _, _, _, _, hqc⟩ := hLk.at j hjk
          have htk : R.take (j + 1) = R.take j ++ [q] := by
            have h2 : j < R.length := by rw [hkl.out]; exact hjk
            rw [List.take_add_one, ← hq0, List.getD_eq_getElem?_getD, List.getElem?_eq_getElem h2]
            rfl
          have hb2 : Hid ((b || (q == (Y : Int))) = decide ((Y : Int) ∈ R.take (j + 1))) := by
            show _ = _
            rw [hb.out, htk]
            by_cases e : q = (Y : Int)
            · simp [e]
            · have e2 : ¬ (Y : Int) = q := fun h => e h.symm
              simp [e, e2]
          obtain ⟨t, ht⟩ : ∃ t, (q == (Y : Int)) = t := ⟨_, rfl⟩
          rw [ht] at hb2
          clear hLk htk hq0
          cases b with
          | true =>
            clear ht
            go_wp2_with fail
            go_roundw
            case rel => exact ⟨j + 1, true, by omega, by go_num, rfl, hb2, trivial⟩
            case measure => simp [intOf]; omega
          | false =>
            go_wp2_with fail
            go_roundw
            case rel => exact ⟨j + 1, t, by omega, by go_num, rfl, hb2, trivial⟩
            case measure => simp [intOf]; omega
        · obtain rfl : j = k := by omega
          have hb2 := hb.out
          rw [List.take_of_length_le (by rw [hkl.out]; exact Nat.le_refl _)] at hb2
          have O := HO.out
          have hz1 := HB.out.size
          clear hLk
          by_cases hm : (Y : Int) ∈ R
          · rw [decide_eq_true hm] at hb2
            subst hb2
            clear O hm
            go_wp2_with fail
            go_roundw
            case rel => exact ⟨i + 1, j, d, ao, by omega, by go_num, rfl, R, HO.out, HG.out, hkr'.out, HB.out⟩
            case measure => simp [intOf]; omega
          · rw [decide_eq_false hm] at hb2
            subst hb2
            have hG2 : Hid (GoodR n' (R ++ [(Y : Int)])) := by
              refine ⟨?_, fun y hy => ?_⟩
              · rw [List.nodup_append]
                refine ⟨HG.out.nodup, by simp, fun a ha b hb e => ?_⟩
                rw [List.mem_singleton] at hb
                exact hm (by rw [← hb, ← e]; exact ha)
              · rcases List.mem_append.1 hy with hy | hy
                · exact HG.out.inn y hy
                · rw [List.mem_singleton.1 hy]; exact ⟨by omega, by omega⟩
            clear hm
            go_wp2_with (at_builtin; refine wpList_appI O (wf_i64 (by omega) (by omega)) hz1 (by omega) rfl rfl ?_)
            intro ao' d' v4 O4 _ B4
            have HB4 := Lib.hid (HB.out.trans B4)
            have HO4 := Lib.hid O4
            clear O4 B4 O
            go_wp2_with fail
            go_roundw
            case rel => exact ⟨i + 1, j + 1, d', ao', by omega, by go_num, rfl, R ++ [(Y : Int)], HO4.out, hG2.out, Or.inr (by omega), HB4.out⟩
            case measure => simp [intOf]; omega
    · have hend : ¬ (i : Int) < (on : Int) ∨ ((i : Int) < (on : Int) ∧ ¬ (k : Int) < rk') ∨ ((i : Int) < (on : Int) ∧ (k : Int) < rk' ∧ ¬ (n' : Int) > 0) := by omega
      clear hgo
      rcases hend with c1 | ⟨c1, c2⟩ | ⟨c1, c2, c3⟩
      all_goals
        obtain ⟨Y0, eY, AY, BY, zY⟩ := new_box v1 27 [.int .i64 0, .slice none 0 0]
        have I0 : Hid (BldP v1 Y0 none 0 0 [] (R.take 0)) := ⟨AY, World.ownsRow_nil _ _ _ _, rfl, BY⟩
        clear AY BY zY
        have hkc := HO.out.lst.cap
        have hkr2 := HO.out.lst.room
        go_wp2_with fail
        clear x0 x1 x2 x3 x4 x5 x6 x7 x8 eY
        go_loopw [72] (fun jv wr => ∃ (j e : Nat) (bo : Option Addr) (vs : List Value), j ≤ k ∧ jv = .int .i64 (j : Int) ∧ Hid (BldP v1 wr bo j e vs (R.take j))) (fun jv _ => k - (intOf jv).toNat)
        case atStart => exact ⟨0, 0, none, [], Nat.zero_le _, rfl, I0⟩
        case round =>
          obtain ⟨v2, hv2⟩ : ∃ y, y = wr := ⟨_, rfl⟩
          subst hv2
          clear I0
          obtain ⟨j, e, bo, vs, hj, rfl, hI⟩ := hrel
          have HLk : Hid (∀ W, Below v1.heap.size v1 W → Lst .i64 W ao k d R) := fun W hb => HO.out.lst.below hb
          by_cases hjk : j < k
          · have hjk' : (j : Int) < (k : Int) := by omega
            have hLk := HLk.out _ hI.out.low
            have hix := ixI hLk j j rfl hjk
            obtain ⟨q, hq0, _, _, _, _, hqc⟩ := hLk.at j hjk
            have htk : R.take j ++ [q] = R.take (j + 1) := by
              have h2 : j < R.length := by rw [hkl.out]; exact hjk
              rw [List.take_add_one, ← hq0, List.getD_eq_getElem?_getD, List.getElem?_eq_getElem h2]
              rfl
            obtain ⟨X, Yw, eX, eY, OX, hBX, hadd⟩ := hI.out.add q
            rw [htk] at hadd
            have p1 : v2.cell? ⟨v1.heap.size, 1, none⟩ = some (.slice bo j e) := hI.out.x.cell 1
            have eY2 : X.alloc (.cells [Value.slice (some ⟨v2.heap.size, 0, none⟩) 1 1].toArray 32) = Yw := eY
            clear hLk htk hq0
            go_wp2_with (at_builtin; rw [← eY2]; refine wpList_appK (vs := [.slice (some ⟨v2.heap.size, 0, none⟩) 1 1]) Try.underlying25 infoR rfl (by decide) (by decide) OX hBX (by omega) rfl (fun u hu => by rw [List.mem_singleton.1 hu]; rfl) rfl rfl ?_)
            intro bo' e' w5 O5 G5 B5
            obtain ⟨Z, eZ, cZ, fZ, IZ0⟩ := hadd bo' e' w5 O5 G5 B5
            have IZ := Lib.hid IZ0
            clear IZ0 O5 G5 B5 hadd OX hBX eX eY eY2 p1 hix hqc
            go_wp2_with fail
            go_roundw
            case rel => exact ⟨j + 1, e', bo', _, by omega, by go_num, IZ⟩
            case measure => simp [intOf]; omega
          · obtain rfl : j = k := by omega
            have hI2 := hI.out
            rw [List.take_of_length_le (by rw [hkl.out]; exact Nat.le_refl _)] at hI2
            have hwf : ∀ x ∈ R, (Lit.int .i64 x).wf = true := HO.out.2
            have hRk : Hid (∀ W, Below v2.heap.size v2 W → Rks W bo j e (R.map fun k => [k])) := fun W hb => (rks_own hI2.row (hI2.vals.lsv hwf)).below hb
            have hb2 := hI2.low
            have hbz : Below Z8.heap.size Z8 v2 := HB.out.trans (hb2.mono HB.out.size)
            have hrp : rank n' rk' ov sk (R.map fun k => [k]) = R := rank_plain _ _ _ _ _ HG.out (by rw [hkl.out]; exact hkr'.out)
            have H1 : Hid (∀ W, Below v2.heap.size v2 W → Calls Try.prog 11 #[.agg #[.string nm, .slice co n' cc, .int .i64 me, .int .i64 se, .int .i64 rk', .int .i64 dg, .int .i64 ti, .int .i64 ov, .int .i64 sk], .agg #[.int .i64 0, .slice bo j e]] W fun e w' => ∃ ao m d, e = .returned (.slice ao m d) ∧ Own 3 .i64 W.heap.size w' ao m d R ∧ Below W.heap.size W w') := fun W hb => by
              have := prefs_c nm co n' cc me se rk' dg ti ov sk 0 bo j e (R.map fun k => [k]) W (hRk.out W hb) (by omega) (by omega) hncc
              rw [hrp] at this
              exact this
            have HX : Hid (∀ W, Below v2.heap.size v2 W → (W.cell? ⟨w.heap.size, 0, none⟩ = some (.string nm) ∧ W.cell? ⟨w.heap.size, 1, none⟩ = some (.slice co n' cc) ∧ W.cell? ⟨w.heap.size, 2, none⟩ = some (.int .i64 me) ∧ W.cell? ⟨w.heap.size, 3, none⟩ = some (.int .i64 se) ∧ W.cell? ⟨w.heap.size, 4, none⟩ = some (.int .i64 rk') ∧ W.cell? ⟨w.heap.size, 5, none⟩ = some (.int .i64 dg) ∧ W.cell? ⟨w.heap.size, 6, none⟩ = some (.int .i64 ti) ∧ W.cell? ⟨w.heap.size, 7, none⟩ = some (.int .i64 ov) ∧ W.cell? ⟨w.heap.size, 8, none⟩ = some (.int .i64 sk)) ∧ W.cell? ⟨v1.heap.size, 0, none⟩ = some (.int .i64 0) ∧ W.cell? ⟨v1.heap.size, 1, none⟩ = some (.slice bo j e)) := fun W hb => ⟨HC.out W (hbz.trans (hb.mono hbz.size)), cell_keep (hI2.x.cell 0) hb, cell_keep (hI2.x.cell 1) hb⟩
            have HLj : Hid (∀ W, Below v2.heap.size v2 W → Lst .i64 W ao j d R) := fun W hb => HLk.out W (hb2.trans (hb.mono hb2.size))
            have HBw : Hid (Below w.heap.size w v2) := HBP.out.trans (hbz.mono HBP.out.size)
            clear hI hI2 hb2 hbz hrp hwf
            go_wp2_with (first
              | (go_at_call 9; (with_reducible refine (HA.out _).mono ?_); rintro r v4 ⟨rfl, G1⟩; obtain ⟨⟨a0, a1, a2, a3, a4, a5, a6, a7, a8⟩, b0, b1⟩ := HX.out _ G1)
              | (go_at_call 11; (with_reducible refine (H1.out _ G1).mono ?_); rintro r v5 ⟨ao5, m5, d5, rfl, O5, G2⟩; obtain rfl : m5 = j := (by rw [← O5.len, hkl.out]); have G3 := G1.trans (G2.mono G1.size); have LA := O5.lst; have LB := HLj.out _ G3)
              | (go_at_call 10; (with_reducible refine (eqI_c _ _ _ _ _ R _ LA LB).mono ?_); rintro r v6 ⟨rfl, G4⟩; have G5 := G3.trans (G4.mono G3.size))
              | fail)
            go_ret
            exact ⟨by rfl, HBw.out.trans (G5.mono HBw.out.size)⟩
end Go.Proofs.Ytjpkbaidgddhnaa
