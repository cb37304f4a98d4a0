/-
  lex.All.
-/
import Derived.Test.YtfknckbclddnmaaLexTok
namespace Go.Proofs.Ytfknckbclddnmaa
open Go.RowKit Lx

namespace Lx
/-- What All reads: nothing where the text is too long. -/
def allS (s : ByteArray) : Option Res := if s.size > 20000 then none else some (lexS (bys s) 1)
def lenS : Value → Nat
  | .string x => x.size
  | _ => 0
theorem Res.app_snoc (ts : List Tok) (t : Tok) (r : Res) : Res.app ts (r.cons t) = Res.app (ts ++ [t]) r := by cases r <;> simp [Res.app, Res.cons]
end Lx

set_option maxHeartbeats 6400000 in
set_option maxRecDepth 100000 in
theorem all_c (s : ByteArray) (w : World) (hs : s.size ≤ 1000000) :
    Calls Try.prog 17 #[.string s] w fun e w' => AllOut w.heap.size (allS s) w' e ∧ Below w.heap.size w w' := by
  obtain ⟨R, hR⟩ : ∃ R, Hid (lexS (bys s) 1 = R) := ⟨_, rfl⟩
  obtain ⟨V, hV⟩ : ∃ V, Hid (V = w.alloc (.cells #[.int .i64 0, .int .i64 0] 27)) := ⟨_, rfl⟩
  have AV : Hid (Arr V w.heap.size 27 [.int .i64 0, .int .i64 0]) := by show Arr _ _ _ _; rw [hV.out]; exact Arr.new w _ _
  have BV : Hid (Below w.heap.size w V) := by show Below _ _ _; rw [hV.out]; exact (Below.refl _ _).alloc (Nat.le_refl _) _
  have zV : Hid (V.heap.size = w.heap.size + 1) := by show _ = _; rw [hV.out]; simp
  by_cases hbig : s.size > 20000
  · have hbig' : (s.size : Int) > 20000 := by omega
    have hA : Hid (Arr (w.alloc (.cells #[.int .i64 7, .int .i64 0] 27)) w.heap.size 27 [.int .i64 7, .int .i64 0]) := Arr.new w _ _
    have hB : Hid (Below w.heap.size w (w.alloc (.cells #[.int .i64 7, .int .i64 0] 27))) := (Below.refl _ _).alloc (Nat.le_refl _) _
    have hall : Hid (allS s = none) := if_pos hbig
    go_enter Try.func17, Try.ntmps17
    go_wp2_with fail
    have r0 := hA.out.cell 0
    have r1 := hA.out.cell 1
    refine bodyPost_ret (v := .tuple #[.slice none 0 0, .agg #[.int .i64 7, .int .i64 0]]) (by simp [results, Try.results17, go_sem, r0, r1]) rfl ?_
    exact ⟨⟨none, 0, 0, 7, 0, rfl, by rw [hall.out]; exact ⟨rfl, rfl, rfl, rfl, rfl⟩⟩, hB.out⟩
  · have hbig' : ¬ (s.size : Int) > 20000 := by omega
    have hall : Hid (allS s = some R) := by show _ = _; rw [← hR.out]; exact if_neg hbig
    have hs2 : s.size ≤ 20000 := by omega
    clear hbig
    go_enter Try.func17, Try.ntmps17
    go_wp2_with fail
    rw [← hV.out]
    go_loopw [4, 5, 6] (fun v lv rv wr => ∃ (a : Option Addr) (n c L : Nat) (S : ByteArray) (ts : List Tok), v = .slice a n c ∧ lv = .int .i64 (L : Int) ∧ rv = .string S ∧ n + S.size ≤ s.size ∧ L + S.size ≤ s.size + 1 ∧ TokOwn (w.heap.size + 1) wr a n c ts ∧ Arr wr w.heap.size 27 [.int .i64 0, .int .i64 0] ∧ Hid (R = Res.app ts (lexS (bys S) L)) ∧ Below w.heap.size w wr ∧ w.heap.size + 1 ≤ wr.heap.size) (fun _ _ rv _ => lenS rv)
    case atStart => exact ⟨none, 0, 0, 1, s, [], rfl, rfl, rfl, by omega, by omega, TokOwn.nil _ _, AV.out, by show _ = _; rw [hR.out, Res.app_nil], BV.out, by rw [zV.out]; exact Nat.le_refl _⟩
    case round =>
      clear AV BV zV
      obtain ⟨a, n, c, L, S, ts, rfl, rfl, rfl, hn, hL, O, A, hI, B, zB⟩ := hrel
      have HO := Lib.hid O
      have HA := Lib.hid A
      have HB := Lib.hid B
      have hSs : S.size ≤ 1000000 := by omega
      have HK := blankLength_c S wr hSs
      obtain ⟨k, hk⟩ : ∃ k, Hid (blN false (bys S) = k) := ⟨_, rfl⟩
      have hkl := blN_le (bys S) false
      rw [hk.out, bys_len] at hkl
      rw [hk.out] at HK
      have HK := Lib.hid HK
      have HC := count_c (S.extract 0 k) wr
      rw [bys_pre] at HC
      obtain ⟨m, hm⟩ : ∃ m, Hid (nlN ((bys S).take k) = m) := ⟨_, rfl⟩
      have hml := nlN_le ((bys S).take k)
      rw [List.length_take, bys_len] at hml
      rw [hm.out] at HC hml
      have HC := Lib.hid HC
      obtain ⟨S1, hS1⟩ : ∃ S1, Hid (S.extract k S.size = S1) := ⟨_, rfl⟩
      have hS1e := hS1.out
      have hS1s : S1.size + k = S.size := by rw [← hS1e, ByteArray.size_extract]; omega
      have hS1b : Hid (bys S1 = (bys S).drop k) := by show _ = _; rw [← hS1e]; exact bys_sub S k
      have hJ : Hid (R = Res.app ts (lexS (bys S1) (L + m))) := by
        show _ = _
        rw [hI.out, lexS_skip (bys S) L, hk.out, hm.out, hS1b.out]
      have c1 : (0 : Int) ≤ (k : Int) := by omega
      have c2 : (k : Int) ≤ (S.size : Int) := by omega
      have c5 : IntKind.i64.wrap ((L : Int) + (m : Int)) = ((L + m : Nat) : Int) := by rw [IntWalk.i64_in _ (by omega)]; omega
      obtain ⟨L1, hL1⟩ : ∃ L1, Hid (L + m = L1) := ⟨_, rfl⟩
      have hL1e := hL1.out
      rw [hL1e] at c5 hJ
      have hL1b : L1 + S1.size ≤ s.size + 1 := by omega
      clear hI O A B
      by_cases h0 : S1.size = 0
      · have e0 : S1 = ⟨#[]⟩ := size_zero h0
        have t0 : S1.toList = [] := by rw [toList_bys, e0]; rfl
        have hN : Hid (R = .ok ts L1) := by show _ = _; rw [hJ.out, bys_zero h0, lexS_nil]; simp [Res.app]
        clear h0 e0 hJ
        go_wp2_with fail
        refine HK.out.mono ?_
        rintro e w' ⟨rfl, rfl⟩
        go_wp2_with fail
        refine HC.out.mono ?_
        rintro e w' ⟨rfl, rfl⟩
        go_wp2_with (at_builtin; refine wpList_appT (t := ⟨5, [], L1⟩) (B := w.heap.size + 1) HO.out zB (by omega) rfl rfl rfl rfl rfl ?_)
        intro a2 d2 w2 O2 b2
        have A2 := HA.out.below b2 (Nat.lt_succ_self _)
        obtain ⟨r0, r1, r2, r3⟩ := A2.store2 (.int .i64 0)
        have A3 := Lib.hid (A2.put2 (.int .i64 0) (.int .i64 0))
        have O3 := Lib.hid (O2.put2 (Nat.lt_succ_self _) (.int .i64 0) (.int .i64 0))
        have B3 := Lib.hid (below_put2 (HB.out.trans (b2.mono (Nat.le_succ _))) (Nat.le_refl _) (.int .i64 0) (.int .i64 0))
        clear A2 O2 b2
        go_wp2_with fail
        have q0 := A3.out.cell 0
        have q1 := A3.out.cell 1
        unfold put2 at q0 q1
        refine bodyPost_ret (v := .tuple #[.slice a2 (n + 1) d2, .agg #[.int .i64 0, .int .i64 0]]) (by simp [results, Try.results17, go_sem, q0, q1]) rfl ?_
        exact ⟨⟨a2, n + 1, d2, 0, 0, rfl, by rw [hall.out, hN.out]; exact ⟨rfl, rfl, O3.out.lower (Nat.le_succ _)⟩⟩, B3.out⟩
      · have h0p : 0 < S1.size := by omega
        obtain ⟨c0, hc0, _, hne⟩ := at_0 S1 h0p
        have hie : S1.toList.isEmpty = false := by rw [List.isEmpty_eq_false_iff]; exact hne
        have hhead := blN_head (bys S) false c0 ((bys S1).drop 1) (by rw [hk.out, ← hS1b.out]; exact hc0.out)
        have HF := first_c S1 wr (by omega) h0p
        have hone : Hid (R = Res.app ts (match oneS (bys S1) with
            | none => .err L1
            | some x => (lexS ((bys S1).drop x.2.2) L1).cons ⟨x.1, x.2.1, L1⟩)) := by
          show _ = _
          rw [hJ.out]
          congr 1
          have := lexS_tok (r := (bys S1).drop 1) hhead L1
          rwa [← hc0.out] at this
        have hlen := fun x => oneS_len c0 ((bys S1).drop 1) x
        rw [← hc0.out, bys_len] at hlen
        have hposx := fun x => oneS_pos (bys S1) x
        clear h0 hJ hhead hc0
        cases hX : oneS (bys S1) with
        | none =>
          rw [hX] at HF hone
          have HF := Lib.hid HF
          have hN : Hid (R = .err L1) := hone.out
          clear hone hlen hposx hX
          go_wp2_with fail
          refine HK.out.mono ?_
          rintro e w' ⟨rfl, rfl⟩
          go_wp2_with fail
          refine HC.out.mono ?_
          rintro e w' ⟨rfl, rfl⟩
          go_wp2_with fail
          refine HF.out.mono ?_
          rintro e w1 ⟨⟨kk, tt, nn, rfl, hn0⟩, B1⟩
          have hn0' : nn = 0 := hn0
          have k0 : ((nn : Int) == 0) = true := by simp; omega
          have A2 := HA.out.kept B1
          obtain ⟨r0, r1, r2, r3⟩ := A2.store2 (.int .i64 1)
          have A3 := Lib.hid (A2.put2 (.int .i64 1) (.int .i64 (L1 : Int)))
          have B3 := Lib.hid (below_put2 (HB.out.trans (B1.mono (by omega))) (Nat.le_refl w.heap.size) (.int .i64 1) (.int .i64 (L1 : Int)))
          clear A2 B1 hn0 hn0'
          go_wp2_with fail
          have q0 := A3.out.cell 0
          have q1 := A3.out.cell 1
          unfold put2 at q0 q1
          refine bodyPost_ret (v := .tuple #[.slice none 0 0, .agg #[.int .i64 1, .int .i64 (L1 : Int)]]) (by simp [results, Try.results17, go_sem, q0, q1]) rfl ?_
          exact ⟨⟨none, 0, 0, 1, L1, rfl, by rw [hall.out, hN.out]; exact ⟨rfl, rfl, rfl, rfl, rfl⟩⟩, B3.out⟩
        | some x =>
          rw [hX] at HF hone
          have HF := Lib.hid HF
          have hx1 := hposx x hX
          have hx2 := hlen x hX
          obtain ⟨xk, xt, xn⟩ := x
          have hN : Hid (R = Res.app (ts ++ [⟨xk, xt, L1⟩]) (lexS ((bys S1).drop xn) L1)) := by
            show _ = _
            rw [hone.out]
            exact Res.app_snoc _ _ _
          clear hone hlen hposx hX
          simp only at hx1 hx2
          go_wp2_with fail
          refine HK.out.mono ?_
          rintro e w' ⟨rfl, rfl⟩
          go_wp2_with fail
          refine HC.out.mono ?_
          rintro e w' ⟨rfl, rfl⟩
          go_wp2_with fail
          refine HF.out.mono ?_
          rintro e w1 ⟨⟨kk, tt, nn, rfl, hh1, hh2, hh3⟩, B1⟩
          have hh3n : nn = xn := hh3
          have hh3' := Lib.hid hh3n
          have hnn1 : 1 ≤ nn := by omega
          have hnn2 : nn ≤ S1.size := by omega
          have hh1' : Hid ((kk : Int) = (((⟨xk, xt, L1⟩ : Tok).kind : Nat) : Int)) := by show (kk : Int) = (xk : Int); rw [show kk = xk from hh1]
          have hh2' := Lib.hid hh2
          have k0 : ((nn : Int) == 0) = false := by rw [beq_eq_false_iff_ne]; omega
          have d1 : (0 : Int) ≤ (nn : Int) := by omega
          have d2 : (nn : Int) ≤ (S1.size : Int) := by omega
          have z1 := B1.size
          have zB1 : w.heap.size + 1 ≤ w1.heap.size := by omega
          have O1 := Lib.hid (HO.out.keep B1)
          have A1 := Lib.hid (HA.out.kept B1)
          have BB1 := Lib.hid (HB.out.trans (B1.mono (by omega)))
          obtain ⟨S2, hS2⟩ : ∃ S2, Hid (S1.extract nn S1.size = S2) := ⟨_, rfl⟩
          have hS2e := hS2.out
          have hS2s : S2.size + nn = S1.size := by rw [← hS2e, ByteArray.size_extract]; omega
          have hM : Hid (R = Res.app (ts ++ [⟨xk, xt, L1⟩]) (lexS (bys S2) L1)) := by
            show _ = _
            rw [hN.out, ← hS2e, bys_sub, hh3'.out]
          clear hh1 hh2 hh3 hh3n B1
          go_wp2_with (at_builtin; refine wpList_appT (t := ⟨xk, xt, L1⟩) (B := w.heap.size + 1) O1.out zB1 (by omega) hh1'.out hh2'.out rfl rfl rfl ?_)
          intro a2 c2 w2 O2 b2
          have A2 := Lib.hid (A1.out.below b2 (Nat.lt_succ_self _))
          have BB2 := Lib.hid (BB1.out.trans (b2.mono (Nat.le_succ _)))
          have z2 : w.heap.size + 1 ≤ w2.heap.size := Nat.le_trans zB1 (by have := b2.size; omega)
          have O2 := Lib.hid O2
          clear b2
          go_wp2_with fail
          go_roundw
          case rel => exact ⟨a2, n + 1, c2, L1, S2, ts ++ [⟨xk, xt, L1⟩], rfl, rfl, rfl, by omega, by omega, O2.out, A2.out, hM, BB2.out, z2⟩
          case measure => simp [lenS]; omega
end Go.Proofs.Ytfknckbclddnmaa
