/-
  electionref06.All.
-/
import Derived.Test.YtfknckbclddnmaaLexAllP
namespace Go.Proofs.Ytfknckbclddnmaa
open Go.RowKit Lx

namespace Lx
theorem drop_nl {c : UInt8} (h : c.toNat = 10) (r : List UInt8) : (c :: r).dropWhile notNl = c :: r := by
  rw [List.dropWhile_cons, if_neg (by simp [notNl, h])]
theorem drop_no {c : UInt8} (h : ¬ c.toNat = 10) (r : List UInt8) : (c :: r).dropWhile notNl = r.dropWhile notNl := by
  rw [List.dropWhile_cons, if_pos (by simp [notNl, h])]
end Lx

set_option maxHeartbeats 6400000 in
set_option maxRecDepth 100000 in
theorem refall_c (s : ByteArray) (w : World) (hs : s.size ≤ 1000000) :
    Calls Try.prog 16 #[.string s] w fun e w' => AllOut w.heap.size (allS s) w' e ∧ Below w.heap.size w w' := by
  obtain ⟨R, hR⟩ : ∃ R, Hid (lexS (bys s) 1 = R) := ⟨_, rfl⟩
  obtain ⟨V, hV⟩ : ∃ V, Hid (V = w.alloc (.cells #[.int .i64 0, .int .i64 0] 27)) := ⟨_, rfl⟩
  have AV : Hid (Arr V w.heap.size 27 [.int .i64 0, .int .i64 0]) := by show Arr _ _ _ _; rw [hV.out]; exact Arr.new w _ _
  have BV : Hid (Below w.heap.size w V) := by show Below _ _ _; rw [hV.out]; exact (Below.refl _ _).alloc (Nat.le_refl _) _
  have zV : Hid (V.heap.size = w.heap.size + 1) := by show _ = _; rw [hV.out]; simp
  by_cases hbig : s.size > 20000
  · have hbig' : (s.size : Int) > 20000 := by omega
    have hA : Hid (Arr (w.alloc (.cells #[.int .i64 7, .int .i64 0] 27)) w.heap.size 27 [.int .i64 7, .int .i64 0]) := Arr.new w _ _
    have hB : Hid (Below w.heap.size w (w.alloc (.cells #[.int .i64 7, .int .i64 0] 27))) := (Below.refl _ _).alloc (Nat.le_refl _) _
    have hall : Hid (allS s = none) := if_pos hbig
    go_enter Try.func16, Try.ntmps16
    go_wp2_with fail
    have r0 := hA.out.cell 0
    have r1 := hA.out.cell 1
    refine bodyPost_ret (v := .tuple #[.slice none 0 0, .agg #[.int .i64 7, .int .i64 0]]) (by simp [results, Try.results16, go_sem, r0, r1]) rfl ?_
    exact ⟨⟨none, 0, 0, 7, 0, rfl, by rw [hall.out]; exact ⟨rfl, rfl, rfl, rfl, rfl⟩⟩, hB.out⟩
  · have hbig' : ¬ (s.size : Int) > 20000 := by omega
    have hall : Hid (allS s = some R) := by show _ = _; rw [← hR.out]; exact if_neg hbig
    have hs2 : s.size ≤ 20000 := by omega
    clear hbig
    go_enter Try.func16, Try.ntmps16
    go_wp2_with fail
    rw [← hV.out]
    go_loopw [4, 5, 6] (fun v lv iv wr => ∃ (a : Option Addr) (n c L i : Nat) (ts : List Tok), v = .slice a n c ∧ lv = .int .i64 (L : Int) ∧ iv = .int .i64 (i : Int) ∧ i ≤ s.size ∧ n ≤ i ∧ L ≤ i + 1 ∧ TokOwn (w.heap.size + 1) wr a n c ts ∧ Arr wr w.heap.size 27 [.int .i64 0, .int .i64 0] ∧ Hid (R = Res.app ts (lexS ((bys s).drop i) L)) ∧ Below w.heap.size w wr ∧ w.heap.size + 1 ≤ wr.heap.size) (fun _ _ iv _ => s.size - (intOf iv).toNat)
    case atStart => exact ⟨none, 0, 0, 1, 0, [], rfl, rfl, rfl, by omega, by omega, by omega, TokOwn.nil _ _, AV.out, by show _ = _; rw [List.drop_zero, hR.out, Res.app_nil], BV.out, by rw [zV.out]; exact Nat.le_refl _⟩
    case round =>
      clear AV BV zV
      obtain ⟨a, n, c, L, i, ts, rfl, rfl, rfl, hi, hn, hL, O, A, hI, B, zB⟩ := hrel
      have HO := Lib.hid O
      have HA := Lib.hid A
      have HB := Lib.hid B
      clear O A B
      by_cases hlt : i < s.size
      · have hlt' : (i : Int) < (s.size : Int) := by omega
        obtain ⟨c0, hc0, x1⟩ := at_s s i hlt
        have HI := in_c c0 ⟨#[32, 9, 10, 13]⟩ wr (by decide)
        rw [show bys ⟨#[32, 9, 10, 13]⟩ = [32, 9, 10, 13] from rfl, in_blanks] at HI
        obtain ⟨n0, hn0⟩ : ∃ n : Nat, Hid (c0.toNat = n) := ⟨_, rfl⟩
        obtain ⟨bb, hbb⟩ : ∃ b, Hid (blankB c0 = b) := ⟨_, rfl⟩
        rw [hn0.out] at x1
        rw [hn0.out, hbb.out] at HI
        have HI := Lib.hid HI
        have hJ : Hid (R = Res.app ts (lexS (c0 :: (bys s).drop (i + 1)) L)) := by show _ = _; rw [hI.out, hc0.out]
        clear hI
        by_cases h35 : n0 = 35
        · have k35 : ((n0 : Int) == 35) = true := by simp; omega
          have hne : Hid (¬ n0 = 10) := by show ¬ _; omega
          have hJ2 : Hid (R = Res.app ts (lexS (((bys s).drop i).dropWhile notNl) L)) := by
            show _ = _
            rw [hJ.out, lexS_cons, if_pos (by rw [hn0.out]; exact h35), hc0.out, drop_no (by rw [hn0.out]; exact hne.out)]
          clear h35 hJ
          go_wp2_with fail
          go_loop [6] (fun iv => ∃ j : Nat, i ≤ j ∧ j ≤ s.size ∧ iv = .int .i64 (j : Int) ∧ Hid (R = Res.app ts (lexS (((bys s).drop j).dropWhile notNl) L))) (fun iv => s.size - (intOf iv).toNat)
          case atStart => exact ⟨i, Nat.le_refl _, hi, rfl, hJ2⟩
          case round =>
            clear hJ2
            obtain ⟨j, hij, hj, rfl, hK2⟩ := hrel
            by_cases hjl : j < s.size
            · have hjl' : (j : Int) < (s.size : Int) := by omega
              obtain ⟨d, hd, x2⟩ := at_s s j hjl
              obtain ⟨m, hm⟩ : ∃ n : Nat, Hid (d.toNat = n) := ⟨_, rfl⟩
              rw [hm.out] at x2
              by_cases h10 : m = 10
              · have k10 : ((m : Int) != 10) = false := by simp; omega
                have hN : Hid (R = Res.app ts (lexS ((bys s).drop j) L)) := by
                  show _ = _
                  rw [hK2.out, hd.out, drop_nl (by rw [hm.out]; exact h10)]
                have hij2 : i < j := by
                  rcases Nat.lt_or_ge i j with h | h
                  · exact h
                  · obtain rfl : i = j := by omega
                    have e := hd.out
                    rw [hc0.out] at e
                    injection e with e _
                    exact absurd (by rw [← hn0.out, e, hm.out]; exact h10) hne.out
                clear h10 hK2
                go_wp2_with fail
                go_roundw
                case rel => exact ⟨a, n, c, L, j, ts, rfl, rfl, rfl, hj, by omega, by omega, HO.out, HA.out, hN, HB.out, zB⟩
                case measure => simp [intOf]; omega
              · have k10 : ((m : Int) != 10) = true := by simp; omega
                have hN : Hid (R = Res.app ts (lexS (((bys s).drop (j + 1)).dropWhile notNl) L)) := by
                  show _ = _
                  rw [hK2.out, hd.out, drop_no (by rw [hm.out]; exact h10)]
                clear h10 hK2
                go_wp2_with fail
                go_round
                case rel => exact ⟨j + 1, by omega, by omega, by go_num, hN⟩
                case measure => simp [intOf]; omega
            · obtain rfl : j = s.size := by omega
              have hN : Hid (R = Res.app ts (lexS ((bys s).drop s.size) L)) := by
                show _ = _
                rw [hK2.out, bys_end]; rfl
              clear hK2
              go_wp2_with fail
              go_roundw
              case rel => exact ⟨a, n, c, L, s.size, ts, rfl, rfl, rfl, hj, by omega, by omega, HO.out, HA.out, hN, HB.out, zB⟩
              case measure => simp [intOf]; omega
        · have k35 : ((n0 : Int) == 35) = false := by rw [beq_eq_false_iff_ne]; omega
          have HN35 := Lib.hid h35
          clear h35
          cases bb with
          | true =>
            by_cases h10 : n0 = 10
            · have k10 : ((n0 : Int) == 10) = true := by simp; omega
              have hN : Hid (R = Res.app ts (lexS ((bys s).drop (i + 1)) (L + 1))) := by
                show _ = _
                rw [hJ.out, lexS_cons, if_neg (by rw [hn0.out]; exact HN35.out), if_pos hbb.out, lineOf, if_pos (by rw [hn0.out]; exact h10)]
              clear h10 hJ
              go_wp2_with fail
              refine HI.out.mono ?_
              rintro e w' ⟨rfl, rfl⟩
              go_wp2_with fail
              go_roundw
              case rel => exact ⟨a, n, c, L + 1, i + 1, ts, rfl, by go_num, by go_num, by omega, by omega, by omega, HO.out, HA.out, hN, HB.out, zB⟩
              case measure => simp [intOf]; omega
            · have k10 : ((n0 : Int) == 10) = false := by rw [beq_eq_false_iff_ne]; omega
              have hN : Hid (R = Res.app ts (lexS ((bys s).drop (i + 1)) L)) := by
                show _ = _
                rw [hJ.out, lexS_cons, if_neg (by rw [hn0.out]; exact HN35.out), if_pos hbb.out, lineOf, if_neg (by rw [hn0.out]; exact h10)]
              clear h10 hJ
              go_wp2_with fail
              refine HI.out.mono ?_
              rintro e w' ⟨rfl, rfl⟩
              go_wp2_with fail
              go_roundw
              case rel => exact ⟨a, n, c, L, i + 1, ts, rfl, rfl, by go_num, by omega, by omega, by omega, HO.out, HA.out, hN, HB.out, zB⟩
              case measure => simp [intOf]; omega
          | false =>
            obtain ⟨S1, hS1⟩ : ∃ S1, Hid (s.extract i s.size = S1) := ⟨_, rfl⟩
            have hS1e := hS1.out
            have hS1s : S1.size + i = s.size := by rw [← hS1e, ByteArray.size_extract]; omega
            have hS1b : Hid (bys S1 = c0 :: (bys s).drop (i + 1)) := by show _ = _; rw [← hS1e, bys_sub, hc0.out]
            have HF := one_c S1 wr (by omega) (by omega)
            have hone : Hid (R = Res.app ts (match oneS (bys S1) with
                | none => .err L
                | some x => (lexS ((bys S1).drop x.2.2) L).cons ⟨x.1, x.2.1, L⟩)) := by
              show _ = _
              rw [hJ.out]
              rw [hS1b.out]
              exact congrArg (Res.app ts) (lexS_tok (r := (bys s).drop (i + 1)) ⟨by rw [hn0.out]; exact HN35.out, hbb.out⟩ L)
            have hlen := fun x => oneS_len c0 ((bys s).drop (i + 1)) x
            rw [← hS1b.out, bys_len] at hlen
            have hposx := fun x => oneS_pos (bys S1) x
            have c1 : (0 : Int) ≤ (i : Int) := by omega
            have c2 : (i : Int) ≤ (s.size : Int) := by omega
            clear hJ
            cases hX : oneS (bys S1) with
            | none =>
              rw [hX] at HF hone
              have HF := Lib.hid HF
              have hN : Hid (R = .err L) := hone.out
              clear hone hlen hposx hX
              go_wp2_with fail
              refine HI.out.mono ?_
              rintro e w' ⟨rfl, rfl⟩
              go_wp2_with fail
              refine HF.out.mono ?_
              rintro e w1 ⟨⟨kk, tt, nn, rfl, hn0⟩, B1⟩
              have hn0' : nn = 0 := hn0
              have k0 : ((nn : Int) == 0) = true := by simp; omega
              have A2 := HA.out.kept B1
              obtain ⟨r0, r1, r2, r3⟩ := A2.store2 (.int .i64 1)
              have A3 := Lib.hid (A2.put2 (.int .i64 1) (.int .i64 (L : Int)))
              have B3 := Lib.hid (below_put2 (HB.out.trans (B1.mono (by omega))) (Nat.le_refl w.heap.size) (.int .i64 1) (.int .i64 (L : Int)))
              clear A2 B1 hn0 hn0'
              go_wp2_with fail
              have q0 := A3.out.cell 0
              have q1 := A3.out.cell 1
              unfold put2 at q0 q1
              refine bodyPost_ret (v := .tuple #[.slice none 0 0, .agg #[.int .i64 1, .int .i64 (L : Int)]]) (by simp [results, Try.results16, go_sem, q0, q1]) rfl ?_
              exact ⟨⟨none, 0, 0, 1, L, rfl, by rw [hall.out, hN.out]; exact ⟨rfl, rfl, rfl, rfl, rfl⟩⟩, B3.out⟩
            | some x =>
              rw [hX] at HF hone
              have HF := Lib.hid HF
              have hx1 := hposx x hX
              have hx2 := hlen x hX
              obtain ⟨xk, xt, xn⟩ := x
              have hN : Hid (R = Res.app (ts ++ [⟨xk, xt, L⟩]) (lexS ((bys s).drop (i + xn)) L)) := by
                show _ = _
                rw [hone.out]
                have e := Res.app_snoc ts ⟨xk, xt, L⟩ (lexS ((bys S1).drop xn) L)
                rw [show (bys S1).drop xn = (bys s).drop (i + xn) by rw [← hS1e, bys_sub, List.drop_drop]] at e
                rw [← e, ← hS1e, bys_sub]
                simp only [List.drop_drop]
              clear hone hlen hposx hX
              simp only at hx1 hx2
              go_wp2_with fail
              refine HI.out.mono ?_
              rintro e w' ⟨rfl, rfl⟩
              go_wp2_with fail
              refine HF.out.mono ?_
              rintro e w1 ⟨⟨kk, tt, nn, rfl, hh1, hh2, hh3⟩, B1⟩
              have hh3n : nn = xn := hh3
              have hnn1 : 1 ≤ nn := by omega
              have hnn2 : nn ≤ S1.size := by omega
              have hh1' : Hid ((kk : Int) = (((⟨xk, xt, L⟩ : Tok).kind : Nat) : Int)) := by show (kk : Int) = (xk : Int); rw [show kk = xk from hh1]
              have hh2' := Lib.hid hh2
              have k0 : ((nn : Int) == 0) = false := by rw [beq_eq_false_iff_ne]; omega
              have z1 := B1.size
              have zB1 : w.heap.size + 1 ≤ w1.heap.size := by omega
              have O1 := Lib.hid (HO.out.keep B1)
              have A1 := Lib.hid (HA.out.kept B1)
              have BB1 := Lib.hid (HB.out.trans (B1.mono (by omega)))
              have hM : Hid (R = Res.app (ts ++ [⟨xk, xt, L⟩]) (lexS ((bys s).drop (i + nn)) L)) := by
                show _ = _
                rw [hN.out, hh3n]
              clear hh1 hh2 hh3 hh3n hx1 hx2 B1
              go_wp2_with (at_builtin; refine wpList_appT (t := ⟨xk, xt, L⟩) (B := w.heap.size + 1) O1.out zB1 (by omega) hh1'.out hh2'.out rfl rfl rfl ?_)
              intro a2 c2 w2 O2 b2
              have A2 := Lib.hid (A1.out.below b2 (Nat.lt_succ_self _))
              have BB2 := Lib.hid (BB1.out.trans (b2.mono (Nat.le_succ _)))
              have z2 : w.heap.size + 1 ≤ w2.heap.size := Nat.le_trans zB1 (by have := b2.size; omega)
              have O2 := Lib.hid O2
              clear b2
              go_wp2_with fail
              go_roundw
              case rel => exact ⟨a2, n + 1, c2, L, i + nn, ts ++ [⟨xk, xt, L⟩], rfl, rfl, by go_num, by omega, by omega, by omega, O2.out, A2.out, hM, BB2.out, z2⟩
              case measure => simp [intOf]; omega
      · obtain rfl : i = s.size := by omega
        have hN : Hid (R = .ok ts L) := by show _ = _; rw [hI.out, bys_end, lexS_nil]; simp [Res.app]
        clear hI
        go_wp2_with (at_builtin; refine wpList_appT (t := ⟨5, [], L⟩) (B := w.heap.size + 1) HO.out zB (by omega) rfl rfl rfl rfl rfl ?_)
        intro a2 d2 w2 O2 b2
        have A2 := HA.out.below b2 (Nat.lt_succ_self _)
        obtain ⟨r0, r1, r2, r3⟩ := A2.store2 (.int .i64 0)
        have A3 := Lib.hid (A2.put2 (.int .i64 0) (.int .i64 0))
        have O3 := Lib.hid (O2.put2 (Nat.lt_succ_self _) (.int .i64 0) (.int .i64 0))
        have B3 := Lib.hid (below_put2 (HB.out.trans (b2.mono (Nat.le_succ _))) (Nat.le_refl _) (.int .i64 0) (.int .i64 0))
        clear A2 O2 b2
        go_wp2_with fail
        have q0 := A3.out.cell 0
        have q1 := A3.out.cell 1
        unfold put2 at q0 q1
        refine bodyPost_ret (v := .tuple #[.slice a2 (n + 1) d2, .agg #[.int .i64 0, .int .i64 0]]) (by simp [results, Try.results16, go_sem, q0, q1]) rfl ?_
        exact ⟨⟨a2, n + 1, d2, 0, 0, rfl, by rw [hall.out, hN.out]; exact ⟨rfl, rfl, O3.out.lower (Nat.le_succ _)⟩⟩, B3.out⟩
end Go.Proofs.Ytfknckbclddnmaa
