/-
  The walk of RankingLonger.
-/
import Derived.Test.YtjpkbaidgddhnaaRkBld
namespace Go.Proofs.Ytjpkbaidgddhnaa
open Go.RowKit Rk

theorem low3s (z : Int) : ∃ K : Nat, K < 8 ∧ bits .and .i64 z 7 = (K : Int) := by
  have h7 : (BitVec.ofInt 64 7).toNat = 2 ^ 3 - 1 := by decide
  have key : (BitVec.ofInt 64 z &&& BitVec.ofInt 64 7).toNat = (z % ((2 ^ 64 : Nat) : Int)).toNat % 2 ^ 3 := by
    rw [BitVec.toNat_and, BitVec.toNat_ofInt, h7, Nat.and_two_pow_sub_one_eq_mod]
  refine ⟨(z % 8).toNat, by omega, ?_⟩
  show IntKind.i64.wrap ((BitVec.ofInt 64 z &&& BitVec.ofInt 64 7).toNat : Nat) = _
  rw [key, IntKind.wrap_i64]
  omega
set_option maxHeartbeats 6400000 in
set_option maxRecDepth 100000 in
theorem longerLaw_c (nm : ByteArray) (co : Option Addr) (n cc : Nat) (me se rk dg ti ov sk vt : Int) (ro : Option Addr) (rn rc : Nat) (ls : List (List Int)) (fr : Int) (w : World) (hcc : n ≤ cc) (hcc2 : cc ≤ 9223372036854775807) (h : Rks w ro rn rc ls) :
    Calls Try.prog 5 #[.agg #[.string nm, .slice co n cc, .int .i64 me, .int .i64 se, .int .i64 rk, .int .i64 dg, .int .i64 ti, .int .i64 ov, .int .i64 sk], .agg #[.int .i64 vt, .slice ro rn rc], .int .i64 fr] w fun e w' => e = .returned (.bool true) ∧ Below w.heap.size w w' := by
  have HH : Hid (∀ (n' : Nat) (rk' : Int) (qo : Option Addr) (qn qc : Nat) (ms : List (List Int)) (W : World), n' ≤ 7 → n' ≤ cc → rk' ≤ 7 → Rks W qo qn qc ms →
      Calls Try.prog 11 #[.agg #[.string nm, .slice co n' cc, .int .i64 me, .int .i64 se, .int .i64 rk', .int .i64 dg, .int .i64 ti, .int .i64 ov, .int .i64 1], .agg #[.int .i64 vt, .slice qo qn qc]] W fun e w' => ∃ ao m d, e = .returned (.slice ao m d) ∧ Own 3 .i64 W.heap.size w' ao m d (rank n' rk' ov 1 ms) ∧ Below W.heap.size W w') := fun n' rk' qo qn qc ms W h1 h2 h3 h4 =>
    prefs_c nm co n' cc me se rk' dg ti ov 1 vt qo qn qc ms W h4 (by omega) (by omega) h2
  obtain ⟨V, e1, AV, BV, zz1⟩ := new_box w 24 [.string nm, .slice co n cc, .int .i64 me, .int .i64 se, .int .i64 rk, .int .i64 dg, .int .i64 ti, .int .i64 ov, .int .i64 sk]
  obtain ⟨U, e2, AU, BU, zz2⟩ := new_box V 27 [.int .i64 vt, .slice ro rn rc]
  have AV1 := AV.kept BU
  have hzz : w.heap.size ≠ V.heap.size := by omega
  have hzl : w.heap.size ≤ V.heap.size := by omega
  have BU0 : Below w.heap.size w U := BV.trans (BU.mono BV.size)
  have HS := Lib.hid (short_c nm co n cc me se rk dg ti ov sk vt ro rn rc ls w U h BU0 hcc hcc2)
  have HA : Hid (∀ W, Calls Try.prog 9 #[] W fun e w' => e = .returned (.bool true) ∧ Below W.heap.size W w') := fun W => awake_c W
  have y0 : U.cell? ⟨w.heap.size, 0, none⟩ = some (.string nm) := AV1.cell 0
  have y1 : U.cell? ⟨w.heap.size, 1, none⟩ = some (.slice co n cc) := AV1.cell 1
  have y2 : U.cell? ⟨w.heap.size, 2, none⟩ = some (.int .i64 me) := AV1.cell 2
  have y3 : U.cell? ⟨w.heap.size, 3, none⟩ = some (.int .i64 se) := AV1.cell 3
  have y4 : U.cell? ⟨w.heap.size, 4, none⟩ = some (.int .i64 rk) := AV1.cell 4
  have y5 : U.cell? ⟨w.heap.size, 5, none⟩ = some (.int .i64 dg) := AV1.cell 5
  have y6 : U.cell? ⟨w.heap.size, 6, none⟩ = some (.int .i64 ti) := AV1.cell 6
  have y7 : U.cell? ⟨w.heap.size, 7, none⟩ = some (.int .i64 ov) := AV1.cell 7
  have y8 : U.cell? ⟨w.heap.size, 8, none⟩ = some (.int .i64 sk) := AV1.cell 8
  have u0 : U.cell? ⟨V.heap.size, 0, none⟩ = some (.int .i64 vt) := AU.cell 0
  have u1 : U.cell? ⟨V.heap.size, 1, none⟩ = some (.slice ro rn rc) := AU.cell 1
  clear zz1 zz2 AV BV BU
  go_enter Try.func5, Try.ntmps5
  go_upto_region 1 with fail
  go_wp2_with (first
    | (go_at_call 8; (with_reducible refine HS.out.mono ?_); rintro e w1 ⟨n', rk', qo, qn, qc, ms, rfl, hn7, hncc, hr7, hq8, ⟨us, OR, hus⟩, B1⟩; obtain ⟨Z0, Z1, Z2, Z3, Z4, Z5, Z6, Z7, Z8, f0, f1, f2, f3, f4, f5, f6, f7, f8, A3, G3, L3, c0, r0, c1, r1, c2, r2, c3, r3, c4, r4, c5, r5, c6, r6, c7, r7, c8, r8⟩ := box_let9 (AV1.kept B1) (.string nm) (.slice co n' cc) (.int .i64 me) (.int .i64 se) (.int .i64 rk') (.int .i64 dg) (.int .i64 ti) (.int .i64 ov) (.int .i64 sk); have AU3 := (AU.kept B1).grownBy G3 (Ne.symm hzz); obtain ⟨P0, P1, g0, g1, A4, G4, L4, p0, q0, p1, q1⟩ := box_let2 AU3 (.int .i64 vt) (.slice qo qn qc); have A3e := A3.grownBy G4 hzz; have OR3 := World.ownsRow.kept (row := some w.heap.size) OR G3 (Or.inr (row_ne_arr OR (AV1.kept B1) (by decide))); have OR4 := World.ownsRow.kept (row := some V.heap.size) OR3 G4 (Or.inr (row_ne_arr OR3 AU3 (by decide))); have BP : Below w.heap.size w P1 := L4 _ _ (L3 _ _ (BU0.trans (B1.mono BU0.size)) (Nat.le_refl _)) hzl; have LR := rks_own OR4 (LsV.below BP hus); have stS1 := A3e.cell 8; have fzS1 : P1.frozen? ⟨w.heap.size, 8, none⟩ = false := A3e.frozen 8; obtain ⟨S1, eqS1⟩ : ∃ S, P1.setCell ⟨w.heap.size, 8, none⟩ (.int .i64 1) = S := ⟨_, rfl⟩; have AS1 : Arr S1 w.heap.size 24 [.string nm, .slice co n' cc, .int .i64 me, .int .i64 se, .int .i64 rk', .int .i64 dg, .int .i64 ti, .int .i64 ov, .int .i64 1] := (by rw [← eqS1]; exact A3e.set 8 _); have BS1 : Arr S1 V.heap.size 27 [.int .i64 vt, .slice qo qn qc] := (by rw [← eqS1]; exact A4.off (Ne.symm hzz) _); have OS1 : S1.ownsRow U.heap.size 32 1 (.slice qo qn qc) qn us := (by rw [← eqS1]; exact row_set OR4 A3e (by decide) _); have PS1 : Below w.heap.size w S1 := (by rw [← eqS1]; exact BP.setCell (p := ⟨w.heap.size, 8, none⟩) (Nat.le_refl _) _); have k0 : S1.cell? ⟨w.heap.size, 0, none⟩ = some (.string nm) := AS1.cell 0; have k1 : S1.cell? ⟨w.heap.size, 1, none⟩ = some (.slice co n' cc) := AS1.cell 1; have k2 : S1.cell? ⟨w.heap.size, 2, none⟩ = some (.int .i64 me) := AS1.cell 2; have k3 : S1.cell? ⟨w.heap.size, 3, none⟩ = some (.int .i64 se) := AS1.cell 3; have k4 : S1.cell? ⟨w.heap.size, 4, none⟩ = some (.int .i64 rk') := AS1.cell 4; have k5 : S1.cell? ⟨w.heap.size, 5, none⟩ = some (.int .i64 dg) := AS1.cell 5; have k6 : S1.cell? ⟨w.heap.size, 6, none⟩ = some (.int .i64 ti) := AS1.cell 6; have k7 : S1.cell? ⟨w.heap.size, 7, none⟩ = some (.int .i64 ov) := AS1.cell 7; have k8 : S1.cell? ⟨w.heap.size, 8, none⟩ = some (.int .i64 1) := AS1.cell 8; have k9 : S1.cell? ⟨V.heap.size, 0, none⟩ = some (.int .i64 vt) := BS1.cell 0; have k10 : S1.cell? ⟨V.heap.size, 1, none⟩ = some (.slice qo qn qc) := BS1.cell 1; obtain ⟨Q1, eQ1, AQ, BQ, zQ⟩ := new_box S1 27 [.int .i64 0, .slice none 0 0]; obtain ⟨Q2, Q3, eQ2, eQ3, AQ3, GQ3, LQ3, qa, qb, qc1, qd⟩ := box_let2 AQ (.int .i64 vt) (.slice none 0 0); have BQ3 : Below S1.heap.size S1 Q3 := LQ3 _ _ BQ (Nat.le_refl _); have AS3 := AS1.below BQ3 AS1.lt; have BS3 := BS1.below BQ3 BS1.lt; have u3 : Q3.cell? ⟨V.heap.size, 1, none⟩ = some (.slice qo qn qc) := BS3.cell 1; clear zQ; clear OR OR3 AV1 AU AU3 A3 G3 L3 G4 L4 BU0)
    | fail)
  clear f0 f1 f2 f3 f4 f5 f6 f7 f8 c0 r0 c1 r1 c2 r2 c3 r3 c4 r4 c5 r5 c6 r6 c7 r7 c8 r8 p0 q0 p1 q1 g0 g1 y0 y1 y2 y3 y4 y5 y6 y7 y8 u0 u1 e1 e2 B1 HS eqS1 stS1 fzS1 A3e A4 OR4 BP LR eQ1 eQ2 eQ3 qa qb qc1 qd AQ BQ GQ3 LQ3 k0 k1 k2 k3 k4 k5 k6 k7 k8 k9 k10 u3
  have I0 : BldI w S1 vt Q3 none 0 0 [] [] := ⟨AQ3, World.ownsRow_nil _ _ _ _, rfl, BQ3⟩
  obtain ⟨F, hF8, hF⟩ := low3s fr
  have HI0 := Lib.hid I0
  have hus' := Lib.hid hus
  have PW : Hid (Below w.heap.size w S1) := PS1
  have hq9 : qn ≤ qc ∧ qc ≤ 9223372036854775807 := ⟨(rks_own OS1 (LsV.below PS1 hus)).cap, (rks_own OS1 (LsV.below PS1 hus)).room⟩
  have hqc := hq9.1
  have hqr := hq9.2
  have hml : Hid (ms.length = qn) := (rks_own OS1 (LsV.below PS1 hus)).len
  have HR : Hid (∀ W, Below S1.heap.size S1 W → Rks W qo qn qc ms) := fun W hb => (rks_own OS1 (LsV.below PS1 hus)).below hb
  have HV : Hid (∀ (i : Nat), i < qn → ∃ bo m d, Lst .i64 w bo m d (ms.getD i []) ∧ (bo = none → d = 0) ∧ ∀ W, Below S1.heap.size S1 W → W.cell? (pt qo i) = some (.slice bo m d)) := fun i hi => by
    obtain ⟨bo, m, d, e1, e2, e3⟩ := hus.at i (by have := hml.out; omega)
    exact ⟨bo, m, d, e2, e3, fun W hb => cell_keep (row_at OS1 e1) hb⟩
  have HC : Hid (∀ W, Below S1.heap.size S1 W → W.cell? ⟨w.heap.size, 0, none⟩ = some (.string nm) ∧ W.cell? ⟨w.heap.size, 1, none⟩ = some (.slice co n' cc) ∧ W.cell? ⟨w.heap.size, 2, none⟩ = some (.int .i64 me) ∧ W.cell? ⟨w.heap.size, 3, none⟩ = some (.int .i64 se) ∧ W.cell? ⟨w.heap.size, 4, none⟩ = some (.int .i64 rk') ∧ W.cell? ⟨w.heap.size, 5, none⟩ = some (.int .i64 dg) ∧ W.cell? ⟨w.heap.size, 6, none⟩ = some (.int .i64 ti) ∧ W.cell? ⟨w.heap.size, 7, none⟩ = some (.int .i64 ov) ∧ W.cell? ⟨w.heap.size, 8, none⟩ = some (.int .i64 1) ∧ W.cell? ⟨V.heap.size, 0, none⟩ = some (.int .i64 vt) ∧ W.cell? ⟨V.heap.size, 1, none⟩ = some (.slice qo qn qc)) := fun W hb => ⟨cell_keep (AS1.cell 0) hb, cell_keep (AS1.cell 1) hb, cell_keep (AS1.cell 2) hb, cell_keep (AS1.cell 3) hb, cell_keep (AS1.cell 4) hb, cell_keep (AS1.cell 5) hb, cell_keep (AS1.cell 6) hb, cell_keep (AS1.cell 7) hb, cell_keep (AS1.cell 8) hb, cell_keep (BS1.cell 0) hb, cell_keep (BS1.cell 1) hb⟩
  clear I0 hus OS1 PS1 AS1 BS1 AS3 BS3 AQ3 hq9 BQ3
  go_loopw [24] (fun iv wr => ∃ (i k : Nat) (ao : Option Addr) (d : Nat) (vs : List Value), i ≤ qn ∧ k ≤ 8 ∧ Hid (k = min i F) ∧ iv = .int .i64 (i : Int) ∧ Hid (BldI w S1 vt wr ao k d vs (ms.take k))) (fun iv _ => qn - (intOf iv).toNat)
  case atStart => exact ⟨0, 0, none, 0, [], Nat.zero_le _, by omega, by show _ = _; omega, rfl, HI0⟩
  case round =>
    obtain ⟨v1, hv1⟩ : ∃ y, y = wr := ⟨_, rfl⟩
    subst hv1
    clear HI0
    obtain ⟨i, k, ao, d, vs, hi, hk8, hk, rfl, hI⟩ := hrel
    by_cases hlt : i < qn
    · have hlt' : (i : Int) < (qn : Int) := by omega
      by_cases hiF : i < F
      · have hiF' : (i : Int) < (F : Int) := by omega
        obtain rfl : k = i := by have := hk.out; omega
        clear hk
        have hRv := HR.out v1 hI.out.low
        have hix := ixR hRv k k rfl hlt
        obtain ⟨bo, l1, d1, hL, h0, hcs⟩ := HV.out k hlt
        have p3 : v1.drew.cell? (pt qo k) = some (.slice bo l1 d1) := hcs _ (below_drew2 hI.out.low)
        have hI2 : BldI w S1 vt v1.drew ao k d vs (ms.take k) := hI.out.drew
        obtain ⟨X, eX, AX, OX, hBX, x1, LX, hadd⟩ := hI2.add hL h0
        have p1 : v1.drew.cell? ⟨S1.heap.size, 1, none⟩ = some (.slice ao k d) := hI2.x.cell 1
        have p2 : v1.drew.cell? ⟨V.heap.size, 1, none⟩ = some (.slice qo qn qc) := (HC.out _ hI2.low).2.2.2.2.2.2.2.2.2.2
        have x2 : X.cell? ⟨V.heap.size, 1, none⟩ = some (.slice qo qn qc) := (HC.out _ LX).2.2.2.2.2.2.2.2.2.2
        have x3 : X.cell? (pt qo k) = some (.slice bo l1 d1) := hcs _ LX
        have htk : Hid (ms.take k ++ [ms.getD k []] = ms.take (k + 1)) := by
          show _ = _
          have h2 : k < ms.length := by have := hml.out; omega
          rw [List.take_add_one, List.getD_eq_getElem?_getD, List.getElem?_eq_getElem h2]
          rfl
        rw [htk.out] at hadd
        clear hI2 hRv hL LX
        go_upto_region 8 with fail
        refine wp_region_L [(8, fun w' => w'.cell? ⟨S1.heap.size, 1, none⟩ = some (.slice ao k d)), (10, fun w' => w'.cell? ⟨V.heap.size, 1, none⟩ = some (.slice qo qn qc) ∧ w'.cell? (pt qo k) = some (.slice bo l1 d1))] (by kernel_rfl) (fun c hc _ => by simp only [List.mem_cons, List.not_mem_nil, or_false] at hc; rcases hc with rfl | rfl; exact p1; exact ⟨p2, p3⟩) (fun hS => ?_)
        refine regL_pure (i := 0) rfl (by rfl) (by kernel_rfl) (by kernel_rfl) (by kernel_rfl) (fun _ _ _ h => h) (by rfl) hS (v := ?vs1) ?hys1 ?rts1
        case hys1 => (intro w'; go_simp <;> try rfl)
        intro hS
        try simp only [Act.put, List.setIfInBounds_toArray, List.set_cons_zero, List.set_cons_succ]
        refine regL_take (i := 1) (8, fun w' => w'.cell? ⟨S1.heap.size, 1, none⟩ = some (.slice ao k d)) rfl (by simp) (by rfl) (by kernel_rfl) (by rfl) (by kernel_rfl) (by kernel_rfl) (by kernel_rfl) (fun _ _ _ h => h) (by rfl) hS (v := ?vs2) ?hys2 ?rts2
        case hys2 => (intro w' hc; dsimp only at hc; go_simp <;> try rfl)
        intro hS
        try simp only [Act.put, List.setIfInBounds_toArray, List.set_cons_zero, List.set_cons_succ]
        refine regL_pure (i := 2) rfl (by rfl) (by kernel_rfl) (by kernel_rfl) (by kernel_rfl) (fun _ _ _ h => h) (by rfl) hS (v := ?vs3) ?hys3 ?rts3
        case hys3 => (intro w'; go_simp <;> try rfl)
        intro hS
        try simp only [Act.put, List.setIfInBounds_toArray, List.set_cons_zero, List.set_cons_succ]
        refine regL_take (i := 3) (10, fun w' => w'.cell? ⟨V.heap.size, 1, none⟩ = some (.slice qo qn qc) ∧ w'.cell? (pt qo k) = some (.slice bo l1 d1)) rfl (by simp) (by rfl) (by kernel_rfl) (by rfl) (by kernel_rfl) (by kernel_rfl) (by kernel_rfl) (fun _ _ _ h => h) (by rfl) hS (v := ?vs4) ?hys4 ?rts4
        case hys4 => (intro w' hc; dsimp only at hc; go_simp <;> try rfl)
        intro hS
        try simp only [Act.put, List.setIfInBounds_toArray, List.set_cons_zero, List.set_cons_succ]
        refine regL_pure (i := 4) rfl (by rfl) (by kernel_rfl) (by kernel_rfl) (by kernel_rfl) (fun _ _ _ h => h) (by rfl) hS (v := ?vs5) ?hys5 ?rts5
        case hys5 => (intro w'; go_simp <;> try rfl)
        intro hS
        try simp only [Act.put, List.setIfInBounds_toArray, List.set_cons_zero, List.set_cons_succ]
        refine regL_pure (i := 5) rfl (by rfl) (by kernel_rfl) (by kernel_rfl) (by kernel_rfl) (fun _ _ _ h => h) (by rfl) hS (v := ?vs6) ?hys6 ?rts6
        case hys6 => (intro w'; go_simp <;> try rfl)
        intro hS
        try simp only [Act.put, List.setIfInBounds_toArray, List.set_cons_zero, List.set_cons_succ]
        refine regL_take (i := 6) (10, fun w' => w'.cell? ⟨V.heap.size, 1, none⟩ = some (.slice qo qn qc) ∧ w'.cell? (pt qo k) = some (.slice bo l1 d1)) rfl (by simp) (by rfl) (by kernel_rfl) (by rfl) (by kernel_rfl) (by kernel_rfl) (by kernel_rfl) (fun _ _ _ h => h) (by rfl) hS (v := ?vs7) ?hys7 ?rts7
        case hys7 => (intro w' hc; dsimp only at hc; go_simp <;> try rfl)
        intro hS
        try simp only [Act.put, List.setIfInBounds_toArray, List.set_cons_zero, List.set_cons_succ]
        refine regL_ready (rs := [7]) (by kernel_rfl) (by simp) ?_
        refine regL_cons rfl (by rfl) (fun K hK => ?_) regL_nil
        go_simp
        refine hK.out _ _ (fun c hc hl => by simp only [List.mem_cons, List.not_mem_nil, or_false] at hc; rcases hc with rfl | rfl; exact x1; exact ⟨x2, x3⟩) ?_
        clear hK K
        intro hS
        try simp only [Act.put, List.setIfInBounds_toArray, List.set_cons_zero, List.set_cons_succ]
        refine regL_ready (rs := [8]) (by kernel_rfl) (by simp) ?_
        refine regL_cons rfl (by rfl) (fun K hK => ?_) regL_nil
        refine wp_appH (vs := [.slice bo l1 d1]) Try.underlying25 infoR rfl (by decide) (by decide) _ _ rfl AX OX hBX (by omega) rfl (by intro u hu; rw [List.mem_singleton.1 hu]; rfl) rfl rfl ?_
        intro ao5 d5 w5 O5 G5 B5
        obtain ⟨Z, eZ, cZ, fZ, LZ, IZ0⟩ := hadd ao5 d5 w5 O5 G5 B5
        have z2 : w5.cell? ⟨V.heap.size, 1, none⟩ = some (.slice qo qn qc) := (HC.out _ LZ).2.2.2.2.2.2.2.2.2.2
        have z3 : w5.cell? (pt qo k) = some (.slice bo l1 d1) := hcs _ LZ
        refine hK.out _ _ (fun c hc hl => by simp only [List.mem_cons, List.not_mem_nil, or_false] at hc; rcases hc with rfl | rfl; exact Bool.noConfusion (show true = false from hl); exact ⟨z2, z3⟩) ?_
        clear hK K
        intro hS
        try simp only [Act.put, List.setIfInBounds_toArray, List.set_cons_zero, List.set_cons_succ]
        refine regL_pure (i := 9) rfl (by rfl) (by kernel_rfl) (by kernel_rfl) (by kernel_rfl) (fun _ _ _ h => h) (by rfl) hS (v := ?vs8) ?hys8 ?rts8
        case hys8 => (intro w'; go_simp <;> try rfl)
        intro hS
        try simp only [Act.put, List.setIfInBounds_toArray, List.set_cons_zero, List.set_cons_succ]
        refine regL_ready (rs := [10]) (by kernel_rfl) (by simp) ?_
        refine regL_cons rfl (by rfl) (fun K hK => ?_) regL_nil
        go_simp
        refine hK.out _ _ (fun c hc hl => by simp only [List.mem_cons, List.not_mem_nil, or_false] at hc; rcases hc with rfl | rfl; exact Bool.noConfusion (show true = false from hl); exact Bool.noConfusion (show true = false from hl)) ?_
        clear hK K
        intro hS
        try simp only [Act.put, List.setIfInBounds_toArray, List.set_cons_zero, List.set_cons_succ]
        refine regL_done (by kernel_rfl) ?_ _
        have IZ := Lib.hid IZ0
        clear z2 z3 LZ cZ fZ eZ AX OX hBX x1 x2 x3 eX hadd p1 p2 p3
        go_wp2_with fail
        go_roundw
        case rel => exact ⟨k + 1, k + 1, ao5, d5, vs ++ [.slice bo l1 d1], by omega, by omega, by show _ = _; omega, by go_num, IZ⟩
        case measure => simp [intOf]; omega
      · have hiF' : ¬ (i : Int) < (F : Int) := by omega
        go_wp2_with fail
        go_roundw
        case rel => exact ⟨i + 1, k, ao, d, vs, by omega, hk8, by (show _ = _; have := hk.out; omega), by go_num, hI⟩
        case measure => simp [intOf]; omega
    · have hge : ¬ (i : Int) < (qn : Int) := by omega
      have hb1 := hI.out.low
      have hms : ms.take k = ms.take F := by
        have := hml.out
        have := hk.out
        by_cases h : F ≤ qn
        · rw [show k = F by omega]
        · rw [List.take_of_length_le (by omega), List.take_of_length_le (by omega)]
      have hBw : Hid (∀ W, Below v1.heap.size v1 W → Rks W ao k d (ms.take F)) := fun W hb => by rw [← hms]; exact (hI.out.rks PW.out).below hb
      have hx0 : Hid (∀ W, Below v1.heap.size v1 W → W.cell? ⟨S1.heap.size, 0, none⟩ = some (.int .i64 vt) ∧ W.cell? ⟨S1.heap.size, 1, none⟩ = some (.slice ao k d)) := fun W hb => ⟨cell_keep (hI.out.x.cell 0) hb, cell_keep (hI.out.x.cell 1) hb⟩
      have hBA : Hid (∀ W, Below v1.heap.size v1 W → Below S1.heap.size S1 W) := fun W hb => hb1.trans (hb.mono hb1.size)
      obtain ⟨TA, hTA⟩ : ∃ T, rank n' rk' ov 1 ms = T := ⟨_, rfl⟩
      obtain ⟨TB, hTB⟩ : ∃ T, rank n' rk' ov 1 (ms.take F) = T := ⟨_, rfl⟩
      have hpre : Hid (TB <+: TA) := by show _ <+: _; rw [← hTA, ← hTB]; exact rank_cut _ _ _ _ _ _
      have H1 : Hid (∀ W, Below v1.heap.size v1 W → Calls Try.prog 11 #[.agg #[.string nm, .slice co n' cc, .int .i64 me, .int .i64 se, .int .i64 rk', .int .i64 dg, .int .i64 ti, .int .i64 ov, .int .i64 1], .agg #[.int .i64 vt, .slice qo qn qc]] W fun e w' => ∃ ao m d, e = .returned (.slice ao m d) ∧ Own 3 .i64 W.heap.size w' ao m d TA ∧ Below W.heap.size W w') := fun W hb => by
        rw [← hTA]
        exact HH.out n' rk' qo qn qc ms W hn7 hncc hr7 (HR.out W (hBA.out W hb))
      have H2 : Hid (∀ W, Below v1.heap.size v1 W → Calls Try.prog 11 #[.agg #[.string nm, .slice co n' cc, .int .i64 me, .int .i64 se, .int .i64 rk', .int .i64 dg, .int .i64 ti, .int .i64 ov, .int .i64 1], .agg #[.int .i64 vt, .slice ao k d]] W fun e w' => ∃ ao m d, e = .returned (.slice ao m d) ∧ Own 3 .i64 W.heap.size w' ao m d TB ∧ Below W.heap.size W w') := fun W hb => by
        rw [← hTB]
        exact HH.out n' rk' ao k d (ms.take F) W hn7 hncc hr7 (hBw.out W hb)
      have D0 : Below v1.heap.size v1 v1.drew := (Below.refl _ _).drew
      obtain ⟨k0, k1, k2, k3, k4, k5, k6, k7, k8, k9, k10⟩ := HC.out _ (hBA.out _ D0)
      obtain ⟨k11, k12⟩ := hx0.out _ D0
      have HBw : Hid (Below w.heap.size w v1) := PW.out.trans (hb1.mono PW.out.size)
      clear hI hb1 hms hTA hTB
      go_upto_region 10 with fail
      go_region_held3 (fun W => W.cell? ⟨w.heap.size, 0, none⟩ = some (.string nm) ∧ W.cell? ⟨w.heap.size, 1, none⟩ = some (.slice co n' cc) ∧ W.cell? ⟨w.heap.size, 2, none⟩ = some (.int .i64 me) ∧ W.cell? ⟨w.heap.size, 3, none⟩ = some (.int .i64 se) ∧ W.cell? ⟨w.heap.size, 4, none⟩ = some (.int .i64 rk') ∧ W.cell? ⟨w.heap.size, 5, none⟩ = some (.int .i64 dg) ∧ W.cell? ⟨w.heap.size, 6, none⟩ = some (.int .i64 ti) ∧ W.cell? ⟨w.heap.size, 7, none⟩ = some (.int .i64 ov) ∧ W.cell? ⟨w.heap.size, 8, none⟩ = some (.int .i64 1) ∧ W.cell? ⟨V.heap.size, 0, none⟩ = some (.int .i64 vt) ∧ W.cell? ⟨V.heap.size, 1, none⟩ = some (.slice qo qn qc) ∧ W.cell? ⟨S1.heap.size, 0, none⟩ = some (.int .i64 vt) ∧ W.cell? ⟨S1.heap.size, 1, none⟩ = some (.slice ao k d)) (go_keep) (first
        | (go_at_call 11; (with_reducible refine (H1.out _ D0).mono ?_); rintro e v2 ⟨ao1, m1, d1, rfl, O1, C1⟩; have D1 : Below v1.heap.size v1 v2 := D0.trans (C1.mono D0.size); obtain ⟨a0, a1, a2, a3, a4, a5, a6, a7, a8, a9, a10⟩ := HC.out v2 (hBA.out _ D1); obtain ⟨a11, a12⟩ := hx0.out v2 D1; clear C1)
        | (go_at_call 11; (with_reducible refine (H2.out _ D1).mono ?_); rintro e v3 ⟨ao2, m2, d2, rfl, O2, C2⟩; have D2 : Below v1.heap.size v1 v3 := D1.trans (C2.mono D1.size); obtain ⟨b0, b1, b2, b3, b4, b5, b6, b7, b8, b9, b10⟩ := HC.out v3 (hBA.out _ D2); obtain ⟨b11, b12⟩ := hx0.out v3 D2; have L1 := (O1.kept C2).lst; have L2 := O2.lst; clear C2 O1 O2)
        | fail)
      all_goals
        obtain ⟨h12, t12⟩ := take_pre hpre.out L2.len L1.len
        have h12' : (m2 : Int) ≤ (m1 : Int) := by omega
        have hc1 := L1.cap
        have hc2 := L1.room
        have hd1 : (m2 : Int) ≤ (d1 : Int) := by omega
        have i12 : ¬ (m1 : Int) < (m2 : Int) := by omega
        have E1 : Hid (∀ W, Below v3.heap.size v3 W → Calls Try.prog 10 #[.slice ao1 m2 d1, .slice ao2 m2 d2] W fun e w' => e = .returned (.bool true) ∧ Below W.heap.size W w') := fun W hb => eqI_c _ _ _ _ _ TB W (by rw [← t12]; exact (L1.take h12).below hb) (L2.below hb)
        have DD := Lib.hid D2
        clear L1 L2 t12 a0 a1 a2 a3 a4 a5 a6 a7 a8 a9 a10 a11 a12 b0 b1 b2 b3 b4 b5 b6 b7 b8 b9 b10 b11 b12 k0 k1 k2 k3 k4 k5 k6 k7 k8 k9 k10 k11 k12
        go_wp2_with (first
          | (go_at_call 9; (with_reducible refine (HA.out _).mono ?_); rintro e v4 ⟨rfl, G1⟩)
          | (go_at_call 10; (with_reducible refine (E1.out _ G1).mono ?_); rintro e v5 ⟨rfl, G2⟩; have G3 := G1.trans (G2.mono G1.size))
          | fail)
        go_ret
        exact ⟨by rfl, HBw.out.trans ((DD.out.trans (G3.mono DD.out.size)).mono HBw.out.size)⟩
end Go.Proofs.Ytjpkbaidgddhnaa
