/-
  The walk of RankingValid.
-/
import Derived.Test.YtjpkbaidgddhnaaRkBld
namespace Go.Proofs.Ytjpkbaidgddhnaa
open Go.RowKit Rk

namespace Rk
theorem nodup_ne {T : List Int} (h : T.Nodup) {i k : Nat} (hk : k < i) (hi : i < T.length) : T.getD k 0 ≠ T.getD i 0 := by
  rw [List.getD_eq_getElem?_getD, List.getD_eq_getElem?_getD, List.getElem?_eq_getElem (by omega), List.getElem?_eq_getElem hi]
  exact List.pairwise_iff_getElem.1 h k i (by omega) hi hk
def seenIn (y : Int) (ms : List (List Int)) : Bool := ms.any fun l => decide (y ∈ l)
theorem seenIn_snoc (y : Int) (A : List (List Int)) (l : List Int) : seenIn y (A ++ [l]) = (seenIn y A || decide (y ∈ l)) := by simp [seenIn]
theorem seenIn_of {y : Int} {ms : List (List Int)} (h : ∃ l ∈ ms, y ∈ l) : seenIn y ms = true := by
  obtain ⟨l, h1, h2⟩ := h
  exact List.any_eq_true.2 ⟨l, h1, decide_eq_true h2⟩
theorem rank_mem (n : Nat) (rk ov sk : Int) (ms : List (List Int)) {x : Int} (hx : x ∈ rank n rk ov sk ms) : ∃ l ∈ ms, x ∈ l := by
  rcases (goR_good (n := n) (ov := ov) (sk := sk) (ms.take rk.toNat) [] false good_nil).2.2 x hx with h | ⟨l, h1, h2⟩
  · cases h
  · exact ⟨l, List.mem_of_mem_take h1, h2⟩
end Rk
set_option maxHeartbeats 6400000 in
set_option maxRecDepth 100000 in
theorem validLaw_c (nm : ByteArray) (co : Option Addr) (n cc : Nat) (me se rk dg ti ov sk vt : Int) (ro : Option Addr) (rn rc : Nat) (ls : List (List Int)) (w : World) (hcc : n ≤ cc) (hcc2 : cc ≤ 9223372036854775807) (h : Rks w ro rn rc ls) :
    Calls Try.prog 4 #[.agg #[.string nm, .slice co n cc, .int .i64 me, .int .i64 se, .int .i64 rk, .int .i64 dg, .int .i64 ti, .int .i64 ov, .int .i64 sk], .agg #[.int .i64 vt, .slice ro rn rc]] w fun e w' => e = .returned (.bool true) ∧ Below w.heap.size w w' := by
  obtain ⟨V, e1, AV, BV, zz1⟩ := new_box w 24 [.string nm, .slice co n cc, .int .i64 me, .int .i64 se, .int .i64 rk, .int .i64 dg, .int .i64 ti, .int .i64 ov, .int .i64 sk]
  obtain ⟨U, e2, AU, BU, zz2⟩ := new_box V 27 [.int .i64 vt, .slice ro rn rc]
  have AV1 := AV.kept BU
  have hzz : w.heap.size ≠ V.heap.size := by omega
  have hzl : w.heap.size ≤ V.heap.size := by omega
  have BU0 : Below w.heap.size w U := BV.trans (BU.mono BV.size)
  have HS := Lib.hid (short_c nm co n cc me se rk dg ti ov sk vt ro rn rc ls w U h BU0 hcc hcc2)
  have HA : Hid (∀ W, Calls Try.prog 9 #[] W fun e w' => e = .returned (.bool true) ∧ Below W.heap.size W w') := fun W => awake_c W
  have y0 : U.cell? ⟨w.heap.size, 0, none⟩ = some (.string nm) := AV1.cell 0
  have y1 : U.cell? ⟨w.heap.size, 1, none⟩ = some (.slice co n cc) := AV1.cell 1
  have y2 : U.cell? ⟨w.heap.size, 2, none⟩ = some (.int .i64 me) := AV1.cell 2
  have y3 : U.cell? ⟨w.heap.size, 3, none⟩ = some (.int .i64 se) := AV1.cell 3
  have y4 : U.cell? ⟨w.heap.size, 4, none⟩ = some (.int .i64 rk) := AV1.cell 4
  have y5 : U.cell? ⟨w.heap.size, 5, none⟩ = some (.int .i64 dg) := AV1.cell 5
  have y6 : U.cell? ⟨w.heap.size, 6, none⟩ = some (.int .i64 ti) := AV1.cell 6
  have y7 : U.cell? ⟨w.heap.size, 7, none⟩ = some (.int .i64 ov) := AV1.cell 7
  have y8 : U.cell? ⟨w.heap.size, 8, none⟩ = some (.int .i64 sk) := AV1.cell 8
  have u0 : U.cell? ⟨V.heap.size, 0, none⟩ = some (.int .i64 vt) := AU.cell 0
  have u1 : U.cell? ⟨V.heap.size, 1, none⟩ = some (.slice ro rn rc) := AU.cell 1
  clear zz1 zz2 AV BV BU
  go_enter Try.func4, Try.ntmps4
  go_upto_region 1 with fail
  go_wp2_with (first
    | (go_at_call 8; (with_reducible refine HS.out.mono ?_); rintro e w1 ⟨n', rk', qo, qn, qc, ms, rfl, hn7, hncc, hr7, hq8, ⟨us, OR, hus⟩, B1⟩; obtain ⟨Z0, Z1, Z2, Z3, Z4, Z5, Z6, Z7, Z8, f0, f1, f2, f3, f4, f5, f6, f7, f8, A3, G3, L3, c0, r0, c1, r1, c2, r2, c3, r3, c4, r4, c5, r5, c6, r6, c7, r7, c8, r8⟩ := box_let9 (AV1.kept B1) (.string nm) (.slice co n' cc) (.int .i64 me) (.int .i64 se) (.int .i64 rk') (.int .i64 dg) (.int .i64 ti) (.int .i64 ov) (.int .i64 sk); have AU3 := (AU.kept B1).grownBy G3 (Ne.symm hzz); obtain ⟨P0, P1, g0, g1, A4, G4, L4, p0, q0, p1, q1⟩ := box_let2 AU3 (.int .i64 vt) (.slice qo qn qc); have A3e := A3.grownBy G4 hzz; have OR3 := World.ownsRow.kept (row := some w.heap.size) OR G3 (Or.inr (row_ne_arr OR (AV1.kept B1) (by decide))); have OR4 := World.ownsRow.kept (row := some V.heap.size) OR3 G4 (Or.inr (row_ne_arr OR3 AU3 (by decide))); have BP : Below w.heap.size w P1 := L4 _ _ (L3 _ _ (BU0.trans (B1.mono BU0.size)) (Nat.le_refl _)) hzl; have LR := rks_own OR4 (LsV.below BP hus); have k0 : P1.cell? ⟨w.heap.size, 0, none⟩ = some (.string nm) := A3e.cell 0; have k1 : P1.cell? ⟨w.heap.size, 1, none⟩ = some (.slice co n' cc) := A3e.cell 1; have k2 : P1.cell? ⟨w.heap.size, 2, none⟩ = some (.int .i64 me) := A3e.cell 2; have k3 : P1.cell? ⟨w.heap.size, 3, none⟩ = some (.int .i64 se) := A3e.cell 3; have k4 : P1.cell? ⟨w.heap.size, 4, none⟩ = some (.int .i64 rk') := A3e.cell 4; have k5 : P1.cell? ⟨w.heap.size, 5, none⟩ = some (.int .i64 dg) := A3e.cell 5; have k6 : P1.cell? ⟨w.heap.size, 6, none⟩ = some (.int .i64 ti) := A3e.cell 6; have k7 : P1.cell? ⟨w.heap.size, 7, none⟩ = some (.int .i64 ov) := A3e.cell 7; have k8 : P1.cell? ⟨w.heap.size, 8, none⟩ = some (.int .i64 sk) := A3e.cell 8; have k9 : P1.cell? ⟨V.heap.size, 0, none⟩ = some (.int .i64 vt) := A4.cell 0; have k10 : P1.cell? ⟨V.heap.size, 1, none⟩ = some (.slice qo qn qc) := A4.cell 1; clear OR OR3 OR4 hus AV1 AU AU3 A3 G3 L3 G4 L4 BU0)
    | fail)
  clear f0 f1 f2 f3 f4 f5 f6 f7 f8 c0 r0 c1 r1 c2 r2 c3 r3 c4 r4 c5 r5 c6 r6 c7 r7 c8 r8 p0 q0 p1 q1 g0 g1 y0 y1 y2 y3 y4 y5 y6 y7 y8 u0 u1 e1 e2 B1 HS
  refine (prefs_c nm co n' cc me se rk' dg ti ov sk vt qo qn qc ms P1 LR (by omega) (by omega) hncc).mono ?_
  rintro e v1 ⟨ao, m, d, rfl, O1, C1⟩
  have hG : GoodR n' (rank n' rk' ov sk ms) := rank_good _ _ _ _ _
  have hM : ∀ x ∈ rank n' rk' ov sk ms, ∃ l ∈ ms, x ∈ l := fun x hx => rank_mem _ _ _ _ _ hx
  obtain ⟨T, hT⟩ : ∃ T, rank n' rk' ov sk ms = T := ⟨_, rfl⟩
  rw [hT] at O1 hG hM
  have hTl : Hid (T.length = m) := O1.len
  have hm9 : m ≤ 7 := by have := good_len hG; have := hTl.out; omega
  have HT : Hid (∀ W, Below v1.heap.size v1 W → Lst .i64 W ao m d T) := fun W hb => O1.lst.below hb
  have HR : Hid (∀ W, Below v1.heap.size v1 W → Rks W qo qn qc ms) := fun W hb => (LR.below C1).below hb
  have hqc := LR.cap
  have hqr := LR.room
  have hcm := O1.lst.cap
  have hcr := O1.lst.room
  have hml : Hid (ms.length = qn) := LR.len
  have HC : Hid (∀ W, Below v1.heap.size v1 W → W.cell? ⟨w.heap.size, 1, none⟩ = some (.slice co n' cc) ∧ W.cell? ⟨V.heap.size, 1, none⟩ = some (.slice qo qn qc)) := fun W hb => ⟨cell_keep (cell_keep (A3e.cell 1) C1) hb, cell_keep (cell_keep (A4.cell 1) C1) hb⟩
  have HBv : Hid (Below w.heap.size w v1) := BP.trans (C1.mono BP.size)
  have hG' := Lib.hid hG
  have hM' := Lib.hid hM
  have B0 : Hid (Below v1.heap.size v1 v1) := Below.refl _ _
  clear k0 k1 k2 k3 k4 k5 k6 k7 k8 k9 k10 A3e A4 LR BP C1 O1 hT hG hM
  go_wp2_with fail
  go_loopw [23] (fun iv wr => ∃ i : Nat, i ≤ m ∧ iv = .int .i64 (i : Int) ∧ Hid (Below v1.heap.size v1 wr)) (fun iv _ => m - (intOf iv).toNat)
  case atStart => exact ⟨0, Nat.zero_le _, rfl, B0⟩
  case round =>
    obtain ⟨v2, hv2⟩ : ∃ y, y = wr := ⟨_, rfl⟩
    subst hv2
    clear B0
    obtain ⟨i, hi, rfl, hB⟩ := hrel
    by_cases hlt : i < m
    · have hlt' : (i : Int) < (m : Int) := by omega
      have hL := HT.out _ hB.out
      obtain ⟨y, hy0, hyT, hy1, hy2, _, hyc⟩ := hL.at i hlt
      have hix := ixI hL i i rfl hlt
      have hyc2 := hyc
      obtain ⟨x1, x2⟩ := HC.out _ hB.out
      obtain ⟨hn0, hn1⟩ := hG'.out.inn y hyT
      have hn0' : ¬ y < 0 := by omega
      have hn1' : ¬ y ≥ (n' : Int) := by omega
      have HY : Hid (∀ W, Below v1.heap.size v1 W → W.cell? (pt ao i) = some (.int .i64 y)) := fun W hb => by
        obtain ⟨y', hy0', _, _, _, _, hyc'⟩ := (HT.out _ hb).at i hlt
        rw [hyc', ← hy0', hy0]
      have hnd : Hid (∀ k, k < i → T.getD k 0 ≠ y) := fun k hk => by rw [← hy0]; exact nodup_ne hG'.out.nodup hk (by rw [hTl.out]; exact hlt)
      have hmk : Hid (seenIn y ms = true) := seenIn_of (hM'.out y hyT)
      clear hL hyc2 hn0 hn1
      go_wp2_with fail
      go_quiet (fail)
      obtain ⟨v3, hv3⟩ : ∃ x, x = v2.drewN nq := ⟨_, rfl⟩
      have hB3 : Hid (Below v1.heap.size v1 v3) := by rw [hv3]; exact below_drewN hB.out nq
      rw [← hv3]
      clear hv3 hB hyc x1 x2 hix
      go_wp2_with fail
      go_loopw [7] (fun kv wx => ∃ k : Nat, k ≤ i ∧ kv = .int .i64 (k : Int) ∧ Hid (Below v1.heap.size v1 wx)) (fun kv _ => i - (intOf kv).toNat)
      case atStart => exact ⟨0, Nat.zero_le _, rfl, hB3⟩
      case round =>
        obtain ⟨v4, hv4⟩ : ∃ y, y = wr := ⟨_, rfl⟩
        subst hv4
        clear hB3
        obtain ⟨k, hk, rfl, hB⟩ := hrel
        by_cases hki : k < i
        · have hki' : (k : Int) < (i : Int) := by omega
          have hL := HT.out _ hB.out
          have hix1 := ixI hL k k rfl (by omega)
          have hix2 := ixI hL i i rfl hlt
          obtain ⟨z, hz0, _, _, _, _, hzc⟩ := hL.at k (by omega)
          have hyc := HY.out _ hB.out
          have hne : (z == y) = false := by
            have := hnd.out k hki
            rw [hz0] at this
            simpa using this
          clear hL hz0
          go_wp2_with fail
          go_quiet (fail)
          have hB5 : Hid (Below v1.heap.size v1 (v4.drewN nq)) := below_drewN hB.out nq
          clear hB
          go_wp2_with fail
          go_roundw
          case rel => exact ⟨k + 1, by omega, by go_num, hB5⟩
          case measure => simp [intOf]; omega
        · obtain rfl : k = i := by omega
          obtain ⟨x1, x2⟩ := HC.out _ hB.out
          go_wp2_with fail
          clear x1 x2
          go_loopw [8, 58] (fun bv rv wx => ∃ (r : Nat) (b : Bool), r ≤ qn ∧ rv = .int .i64 (r : Int) ∧ bv = .bool b ∧ Hid (b = seenIn y (ms.take r)) ∧ Hid (Below v1.heap.size v1 wx)) (fun _ rv _ => qn - (intOf rv).toNat)
          case atStart => exact ⟨0, false, Nat.zero_le _, rfl, rfl, (by show _ = _; rfl), hB⟩
          case round =>
            obtain ⟨v5, hv5⟩ : ∃ y, y = wr := ⟨_, rfl⟩
            subst hv5
            clear hB
            obtain ⟨r, b, hr, rfl, rfl, hb, hB⟩ := hrel
            by_cases hrq : r < qn
            · have hrq' : (r : Int) < (qn : Int) := by omega
              obtain ⟨x1, x2⟩ := HC.out _ hB.out
              have hRv := HR.out _ hB.out
              have hix := ixR hRv r r rfl hrq
              obtain ⟨bo, l1, d1, hc0, hL1, _⟩ := hRv.cell r hrq
              obtain ⟨l, hl⟩ : ∃ l, ms.getD r [] = l := ⟨_, rfl⟩
              rw [hl] at hL1
              have HL1 : Hid (∀ W, Below v5.heap.size v5 W → Lst .i64 W bo l1 d1 l) := fun W hb => hL1.below hb
              have hl1 := Lib.hid hL1.len
              have hk1 := hL1.cap
              have hk2 := hL1.room
              have htk : ms.take (r + 1) = ms.take r ++ [l] := by
                have h2 : r < ms.length := by have := hml.out; omega
                rw [List.take_add_one, ← hl, List.getD_eq_getElem?_getD, List.getElem?_eq_getElem h2]
                rfl
              have hS0 : Hid (b = (b || decide (y ∈ l.take 0))) := by show _ = _; simp
              have hBB : Hid (Below v5.heap.size v5 v5) := Below.refl _ _
              clear hRv hL1 hl
              go_wp2_with fail
              clear hix hc0 x1 x2
              go_loopw [8, 67] (fun cv xv wx => ∃ (x : Nat) (c : Bool), x ≤ l1 ∧ xv = .int .i64 (x : Int) ∧ cv = .bool c ∧ Hid (c = (b || decide (y ∈ l.take x))) ∧ Hid (Below v5.heap.size v5 wx)) (fun _ xv _ => l1 - (intOf xv).toNat)
              case atStart => exact ⟨0, b, Nat.zero_le _, rfl, rfl, hS0, hBB⟩
              case round =>
                obtain ⟨v6, hv6⟩ : ∃ y, y = wr := ⟨_, rfl⟩
                subst hv6
                clear hBB hS0
                obtain ⟨x, c, hx, rfl, rfl, hc, hB6⟩ := hrel
                by_cases hxl : x < l1
                · have hxl' : (x : Int) < (l1 : Int) := by omega
                  have hL6 := HL1.out _ hB6.out
                  have hix1 := ixI hL6 x x rfl hxl
                  obtain ⟨z, hz0, _, _, _, _, hzc⟩ := hL6.at x hxl
                  have hb6 : Below v1.heap.size v1 v6 := hB.out.trans (hB6.out.mono hB.out.size)
                  have hix2 := ixI (HT.out _ hb6) k k rfl hlt
                  have hyc := HY.out _ hb6
                  have htx : l.take (x + 1) = l.take x ++ [z] := by
                    have h2 : x < l.length := by rw [hl1.out]; exact hxl
                    rw [List.take_add_one, ← hz0, List.getD_eq_getElem?_getD, List.getElem?_eq_getElem h2]
                    rfl
                  have hc2 : Hid ((c || (z == y)) = (b || decide (y ∈ l.take (x + 1)))) := by
                    show _ = _
                    rw [hc.out, htx]
                    by_cases e : z = y
                    · simp [e]
                    · have e2 : ¬ y = z := fun h => e h.symm
                      simp [e, e2]
                  obtain ⟨t, ht⟩ : ∃ t, (z == y) = t := ⟨_, rfl⟩
                  rw [ht] at hc2
                  clear hL6 htx hz0 hb6 htk
                  cases c with
                  | true =>
                    clear ht hyc hix2
                    go_wp2_with fail
                    go_roundw
                    case rel => exact ⟨x + 1, true, by omega, by go_num, rfl, hc2, hB6⟩
                    case measure => simp [intOf]; omega
                  | false =>
                    go_wp2_with fail
                    go_roundw
                    case rel => exact ⟨x + 1, t, by omega, by go_num, rfl, hc2, hB6⟩
                    case measure => simp [intOf]; omega
                · obtain rfl : x = l1 := by omega
                  have hb2 : Hid (c = seenIn y (ms.take (r + 1))) := by
                    show _ = _
                    rw [hc.out, htk, seenIn_snoc, List.take_of_length_le (by rw [hl1.out]; exact Nat.le_refl _), hb.out]
                  have hb6 : Hid (Below v1.heap.size v1 v6) := hB.out.trans (hB6.out.mono hB.out.size)
                  clear htk
                  go_wp2_with fail
                  go_roundw
                  case rel => exact ⟨r + 1, c, by omega, by go_num, rfl, hb2, hb6⟩
                  case measure => simp [intOf]; omega
            · obtain rfl : r = qn := by omega
              have hb2 := hb.out
              rw [List.take_of_length_le (by rw [hml.out]; exact Nat.le_refl _), hmk.out] at hb2
              subst hb2
              go_wp2_with fail
              go_roundw
              case rel => exact ⟨k + 1, by omega, by go_num, hB⟩
              case measure => simp [intOf]; omega
    · have hge : ¬ (i : Int) < (m : Int) := by omega
      have HB2 : Hid (Below w.heap.size w v2) := HBv.out.trans (hB.out.mono HBv.out.size)
      clear hB
      go_wp2_with (first
        | (go_at_call 9; (with_reducible refine (HA.out _).mono ?_); rintro e v4 ⟨rfl, G1⟩)
        | fail)
      go_ret
      exact ⟨rfl, HB2.out.trans (G1.mono HB2.out.size)⟩
end Go.Proofs.Ytjpkbaidgddhnaa
