/-
  Texts of the proof, put together: SchLines SchTab.
-/
import Derived.Test.YtemdkkphmldgjaaGreatDoorRows
import Derived.OpenShut
import Derived.Lib.LaidTab
import Derived.Lib.LaidU8
import Derived.Test.YtemdkkphmldgjaaGreatDoorPkA10
import Derived.Test.YtemdkkphmldgjaaGreatDoorPkA36
set_option maxRecDepth 100000
set_option maxHeartbeats 51200000
namespace Go.Proofs.YtemdkkphmldgjaaGreatDoor
open Go.RowKit Lx
namespace Lx
theorem low3s (z : Int) : ∃ K : Nat, K < 8 /\ bits .and .i64 z 7 = (K : Int) := by
 have h7 : (BitVec.ofInt 64 7).toNat = 2 ^ 3 - 1 := by decide
 have key : (BitVec.ofInt 64 z &&& BitVec.ofInt 64 7).toNat = (z % ((2 ^ 64 : Nat) : Int)).toNat % 2 ^ 3 := by
  rw [BitVec.toNat_and, BitVec.toNat_ofInt, h7, Nat.and_two_pow_sub_one_eq_mod]
 refine ⟨(z % 8).toNat, by omega, ?_⟩
 show IntKind.i64.wrap ((BitVec.ofInt 64 z &&& BitVec.ofInt 64 7).toNat : Nat) = _
 rw [key, IntKind.wrap_i64]
 omega
theorem gap_snoc {G : ByteArray} {j : Nat} (h : bys G = gapL j) : bys (G ++ ⟨#[10]⟩) = gapL (j + 1) := by
 rw [bys_append, h]
 show gapL j ++ [10] = _
 unfold gapL
 rw [List.replicate_succ']
end Lx
theorem put_snd {w : World} {g : Nat} {t : TypeId} {v0 v1 : Value} (h : Arr w g t [v0, v1]) (u1 : Value) : ∃ V, w.setCell ⟨g, 1, none⟩ u1 = V /\ Hid (V = w.setCell ⟨g, 1, none⟩ u1) /\ Arr V g t [v0, u1] /\ w.cell? ⟨g, 1, none⟩ = some v1 /\ w.frozen? ⟨g, 1, none⟩ = false :=
 ⟨_, rfl, rfl, h.set 1 u1, h.cell 1, h.frozen 1⟩
theorem parse_okS {P : ByteArray} {s : Src} (h : parseL (bys P) = .ok s) (hs : P.size <= 20000) (W : World) : Calls Tryz.prog 16 #[.string P] W fun r w' => ∃ ao m d, r = .returned (.tuple #[.agg #[.string (stg s.title), .slice ao m d], .agg #[.int .i64 0, .int .i64 0]]) /\ BlkS anyF w' ao m d (toSS s).blks /\ Below W.heap.size W w' := by
 refine (pParse_c P W (by omega)).mono ?_
 rintro r w' ⟨hO, hB⟩
 rw [show parseS P = some (.ok s) by unfold parseS; rw [if_neg (by omega), h]] at hO
 obtain ⟨ao, m, d, he, BL⟩ := hO
 exact ⟨ao, m, d, he, BL.toS, hB⟩
theorem parse_errS {P : ByteArray} {k : Nat} (h : parseL (bys P) = .err k) (hs : P.size <= 20000) (W : World) : Calls Tryz.prog 16 #[.string P] W fun r w' => ∃ ao m d, r = .returned (.tuple #[.agg #[.string ⟨#[]⟩, .slice ao m d], .agg #[.int .i64 1, .int .i64 (k : Int)]]) /\ Below W.heap.size W w' := by
 refine (pParse_c P W (by omega)).mono ?_
 rintro r w' ⟨hO, hB⟩
 rw [show parseS P = some (.err k) by unfold parseS; rw [if_neg (by omega), h]] at hO
 obtain ⟨ao, m, d, he, BL⟩ := hO
 exact ⟨ao, m, d, he, hB⟩
theorem lines_err (S P : ByteArray) (z : Int) (N M : Nat) (w : World) (hT : Tabs w) (hN : N < 8) (hand : bits .and .i64 z 7 = (N : Int)) (hmn : min (S.size : Int) (1500 : Int) = (M : Int)) (c2 : (M : Int) <= (S.size : Int)) (hSP : S.extract 0 M = P) (hP : Hid (P.size <= 1500)) (k1 k2 : Nat) (h1 : parseL (bys P) = .err k1) (h2 : parseL (gapL N ++ bys P) = .err k2) : Calls Tryz.prog 5 #[.string S, .int .i64 z] w fun e w' => e = .returned (.bool true) /\ Below w.heap.size w w' := by
 have HAw : Hid (∀ W, Below w.heap.size w W -> Calls Tryz.prog 14 #[] W fun e w' => e = .returned (.bool true) /\ Below W.heap.size W w') := fun W hb => awake8_c W (hT.below hb)
 have hsz : ∀ Q : ByteArray, bys Q = gapL N ++ bys P -> Q.size <= 20000 := fun Q hq => by
  have h3 : (bys Q).length = Q.size := bys_len Q
  have h4 : (bys P).length = P.size := bys_len P
  rw [hq, List.length_append, h4] at h3
  have : (gapL N).length = N := by unfold gapL; rw [List.length_replicate]
  have := hP.out
  omega
 have HP1 := Lib.hid (parse_errS h1 (by have := hP.out; omega) w)
 have HPQ : Hid (∀ Q, bys Q = gapL N ++ bys P -> ∀ W, Calls Tryz.prog 16 #[.string Q] W fun r w' => ∃ ao m d, r = .returned (.tuple #[.agg #[.string ⟨#[]⟩, .slice ao m d], .agg #[.int .i64 1, .int .i64 (k2 : Int)]]) /\ Below W.heap.size W w') := fun Q hq W => parse_errS (by rw [hq]; exact h2) (hsz Q hq) W
 clear h1 h2 hsz hT
 have hPz : P.size <= 1500 := hP.out
 go_enter Tryz.func5, Tryz.ntmps5
 go_wp2_with fail
 go_loop [5, 6] (fun gv iv => ∃ (j : Nat) (G : ByteArray), j <= N /\ gv = .string G /\ iv = .int .i64 (j : Int) /\ G.size <= j /\ Hid (bys G = gapL j)) (fun _ iv => N - (intOf iv).toNat)
 case atStart => exact ⟨0, ⟨#[]⟩, Nat.zero_le _, rfl, rfl, Nat.le_refl _, rfl⟩
 case round =>
  obtain ⟨j, G, hj, rfl, rfl, hGz, hG⟩ := hrel
  by_cases hlt : j < N
  . have hlt' : (j : Int) < (N : Int) := by omega
    have m1 : (⟨#[10]⟩ : ByteArray).size = 1 := rfl
    have hG2 : Hid (bys (G ++ ⟨#[10]⟩) = gapL (j + 1)) := gap_snoc hG.out
    have hGl : Hid ((G ++ ⟨#[10]⟩).size <= j + 1) := by show _ <= _; rw [ByteArray.size_append, m1]; omega
    go_wp2_with fail
    go_round
    case rel => exact ⟨j + 1, _, by omega, rfl, by go_num, hGl.out, hG2⟩
    case measure => simp [intOf]; omega
  . have hlt' : ¬ (j : Int) < (N : Int) := by omega
    obtain rfl : j = N := by omega
    have HPG := Lib.hid (HPQ.out (G ++ P) (by rw [bys_append, hG.out]))
    clear HPQ hG
    obtain ⟨Q, hQ⟩ : ∃ Q, G ++ P = Q := ⟨_, rfl⟩
    rw [hQ] at HPG
    go_wp2_with (first
      | (go_at_call 16; (with_reducible refine HP1.out.mono ?_); rintro r w1 ⟨ao, m, d, rfl, B1⟩; obtain ⟨V, U0, W0, U, e3, e4, e5, e6, hz, ⟨k0, k1', k2', k3⟩, ⟨l0, l1, l2, l3⟩, AV, AU, BU⟩ := new_res8 w1 (.string ⟨#[]⟩) (.slice ao m d) (.int .i64 1) (.int .i64 (k1 : Int)); have AVH := Lib.hid AV; have AUH := Lib.hid AU; have BWU : Hid (Below w.heap.size w U) := B1.trans (BU.mono B1.size); have hs1 : Hid (w1.heap.size + 1 < U.heap.size) := AU.lt; have HP2 := Lib.hid (HPG.out U); clear AV AU BU B1)
      | (go_at_call 16; (with_reducible refine HP2.out.mono ?_); rintro r w2 ⟨ao2, m2, d2, rfl, B2⟩; obtain ⟨V', U0', W0', X, g3, g4, g5, g6, hz', ⟨n0, n1, n2, n3⟩, ⟨o0, o1, o2, o3⟩, AV2, AU2, BX⟩ := new_res8 w2 (.string ⟨#[]⟩) (.slice ao2 m2 d2) (.int .i64 1) (.int .i64 (k2 : Int)); have BUX : Below U.heap.size U X := B2.trans (BX.mono B2.size); have AVX := Lib.hid (AVH.out.kept BUX); have AUX := Lib.hid (AUH.out.kept BUX); have AV2H := Lib.hid AV2; have AU2H := Lib.hid AU2; have BWX : Hid (Below w.heap.size w X) := BWU.out.trans (BUX.mono BWU.out.size); have hs2 : Hid (w2.heap.size + 1 < X.heap.size /\ U.heap.size <= X.heap.size) := ⟨AU2.lt, BUX.size⟩; have xf0 : X.cell? ⟨w1.heap.size + 1, 0, none⟩ = some (.int .i64 1) := AUX.out.cell 0; have HAX := Lib.hid (HAw.out X BWX.out); clear AV2 AU2 BX B2 BUX)
      | (go_at_call 14; (with_reducible refine HAX.out.mono ?_); rintro r w3 ⟨rfl, B3⟩; have u_0 : w3.cell? ⟨w1.heap.size + 1, 0, none⟩ = some (.int .i64 1) := (AUX.out.kept B3).cell 0; have v_0 : w3.cell? ⟨w2.heap.size + 1, 0, none⟩ = some (.int .i64 1) := (AU2H.out.kept B3).cell 0; have hfin : Hid (Below w.heap.size w w3) := BWX.out.trans (B3.mono BWX.out.size))
      | fail)
    go_ret
    exact ⟨rfl, hfin.out⟩
theorem lines_zero (S P : ByteArray) (z : Int) (N M : Nat) (w : World) (hT : Tabs w) (hN : N < 8) (hand : bits .and .i64 z 7 = (N : Int)) (hmn : min (S.size : Int) (1500 : Int) = (M : Int)) (c2 : (M : Int) <= (S.size : Int)) (hSP : S.extract 0 M = P) (hP : Hid (P.size <= 1500)) (s : Src) (h1 : parseL (bys P) = .ok s) (hln : ¬ 0 < (compS (toSS s)).1.2) : Calls Tryz.prog 5 #[.string S, .int .i64 z] w fun e w' => e = .returned (.bool true) /\ Below w.heap.size w w' := by
 have HAw : Hid (∀ W, Below w.heap.size w W -> Calls Tryz.prog 14 #[] W fun e w' => e = .returned (.bool true) /\ Below W.heap.size W w') := fun W hb => awake8_c W (hT.below hb)
 have hsz : ∀ Q : ByteArray, bys Q = gapL N ++ bys P -> Q.size <= 20000 := fun Q hq => by
  have h3 : (bys Q).length = Q.size := bys_len Q
  have h4 : (bys P).length = P.size := bys_len P
  rw [hq, List.length_append, h4] at h3
  have : (gapL N).length = N := by unfold gapL; rw [List.length_replicate]
  have := hP.out
  omega
 obtain ⟨g1, g2⟩ := gap_comp N h1 (by have := hP.out; have h4 : (bys P).length = P.size := bys_len P; omega)
 obtain ⟨sm1, sm2, _, sm3⟩ := small_parse h1 (by have := hP.out; have h4 : (bys P).length = P.size := bys_len P; omega)
 have hgl : (gapL N ++ bys P).length <= 20000 := by
  have h4 : (bys P).length = P.size := bys_len P
  have h5 : (gapL N).length = N := by unfold gapL; rw [List.length_replicate]
  have := hP.out
  rw [List.length_append]
  omega
 obtain ⟨tm1, tm2, _, _⟩ := small_parse g1 hgl
 have hle := compS_le (by decide) sm3
 obtain ⟨KT, hKT⟩ : ∃ K, Hid (stg s.title = K) := ⟨_, rfl⟩
 have HP1 := Lib.hid (parse_okS h1 (by have := hP.out; omega) w)
 have HPQ : Hid (∀ Q, bys Q = gapL N ++ bys P -> ∀ W, Calls Tryz.prog 16 #[.string Q] W fun r w' => ∃ ao m d, r = .returned (.tuple #[.agg #[.string KT, .slice ao m d], .agg #[.int .i64 0, .int .i64 0]]) /\ BlkS anyF w' ao m d (toSS (s.up N)).blks /\ Below W.heap.size W w') := fun Q hq W => by
  rw [<- hKT.out]
  exact parse_okS (s := s.up N) (by rw [hq]; exact g1) (hsz Q hq) W
 rw [hKT.out] at HP1
 obtain ⟨E1, hE1⟩ : ∃ E, Hid ((compS (toSS s)).2 = E) := ⟨_, rfl⟩
 obtain ⟨E2, hE2⟩ : ∃ E, Hid ((compS (toSS (s.up N))).2 = E) := ⟨_, rfl⟩
 have HC1 : Hid (∀ W bo bn bc, Below w.heap.size w W -> BlkS anyF W bo bn bc (toSS s).blks -> Calls Tryz.prog 12 #[.agg #[.string KT, .slice bo bn bc]] W fun r w' => ∃ sl, r = .returned (.tuple #[eV E1 sl, .agg #[.int .i64 (((compS (toSS s)).1.1 : Nat) : Int), .int .i64 (compS (toSS s)).1.2]]) /\ Below W.heap.size W w') := fun W bo bn bc hb hv => by
  rw [<- hKT.out, <- hE1.out]
  refine (compile_c (toSS s) bo bn bc W hv sm1 sm2 (hT.below hb)).mono ?_
  rintro r w' ⟨sl, he, _, hB⟩
  exact ⟨sl, he, hB⟩
 have HC2 : Hid (∀ W bo bn bc, Below w.heap.size w W -> BlkS anyF W bo bn bc (toSS (s.up N)).blks -> Calls Tryz.prog 12 #[.agg #[.string KT, .slice bo bn bc]] W fun r w' => ∃ sl, r = .returned (.tuple #[eV E2 sl, .agg #[.int .i64 (((compS (toSS (s.up N))).1.1 : Nat) : Int), .int .i64 (compS (toSS (s.up N))).1.2]]) /\ Below W.heap.size W w') := fun W bo bn bc hb hv => by
  rw [<- hKT.out, <- hE2.out]
  refine (compile_c (toSS (s.up N)) bo bn bc W hv tm1 tm2 (hT.below hb)).mono ?_
  rintro r w' ⟨sl, he, _, hB⟩
  exact ⟨sl, he, hB⟩
 rw [g2] at HC2
 obtain ⟨S1, hS1⟩ : ∃ S, Hid ((toSS s).blks = S) := ⟨_, rfl⟩
 obtain ⟨S2, hS2⟩ : ∃ S, Hid ((toSS (s.up N)).blks = S) := ⟨_, rfl⟩
 obtain ⟨⟨en, ln⟩, hen⟩ : ∃ x, (compS (toSS s)).1 = x := ⟨_, rfl⟩
 rw [hS1.out] at HP1 HC1
 rw [hS2.out] at HPQ HC2
 rw [hen] at HC1 HC2 hle hln
 replace hle : ln <= 1000000 := hle
 replace hln : ¬ 0 < ln := hln
 obtain ⟨er, her⟩ : ∃ e : Int, Hid (((en : Nat) : Int) = e) := ⟨_, rfl⟩
 have q1 : (shiftF (N : Int) (en, ln)).1 = en := rfl
 have q2 : (shiftF (N : Int) (en, ln)).2 = ln := if_neg hln
 rw [q1, q2] at HC2
 replace HC1 : Hid (∀ W bo bn bc, Below w.heap.size w W -> BlkS anyF W bo bn bc S1 -> Calls Tryz.prog 12 #[.agg #[.string KT, .slice bo bn bc]] W fun r w' => ∃ sl, r = .returned (.tuple #[eV E1 sl, .agg #[.int .i64 ((en : Nat) : Int), .int .i64 ln]]) /\ Below W.heap.size W w') := HC1
 rw [her.out] at HC1 HC2
 have hw3 : (ln == ln) = true := beq_self_eq_true _
 have hw4 : (er == er) = true := beq_self_eq_true _
 have hgt : ¬ ln > 0 := hln
 have hdt : decide (ln > 0) = false := decide_eq_false hln
 clear hle hln
 clear h1 g1 g2 sm1 sm2 sm3 tm1 tm2 hgl hsz hT hen q1 q2
 have hPz : P.size <= 1500 := hP.out
 go_enter Tryz.func5, Tryz.ntmps5
 go_wp2_with fail
 go_loop [5, 6] (fun gv iv => ∃ (j : Nat) (G : ByteArray), j <= N /\ gv = .string G /\ iv = .int .i64 (j : Int) /\ G.size <= j /\ Hid (bys G = gapL j)) (fun _ iv => N - (intOf iv).toNat)
 case atStart => exact ⟨0, ⟨#[]⟩, Nat.zero_le _, rfl, rfl, Nat.le_refl _, rfl⟩
 case round =>
  obtain ⟨j, G, hj, rfl, rfl, hGz, hG⟩ := hrel
  by_cases hlt : j < N
  . have hlt' : (j : Int) < (N : Int) := by omega
    have m1 : (⟨#[10]⟩ : ByteArray).size = 1 := rfl
    have hG2 : Hid (bys (G ++ ⟨#[10]⟩) = gapL (j + 1)) := gap_snoc hG.out
    have hGl : Hid ((G ++ ⟨#[10]⟩).size <= j + 1) := by show _ <= _; rw [ByteArray.size_append, m1]; omega
    go_wp2_with fail
    go_round
    case rel => exact ⟨j + 1, _, by omega, rfl, by go_num, hGl.out, hG2⟩
    case measure => simp [intOf]; omega
  . have hlt' : ¬ (j : Int) < (N : Int) := by omega
    obtain rfl : j = N := by omega
    have HPG := Lib.hid (HPQ.out (G ++ P) (by rw [bys_append, hG.out]))
    clear HPQ hG
    obtain ⟨Q, hQ⟩ : ∃ Q, G ++ P = Q := ⟨_, rfl⟩
    rw [hQ] at HPG
    go_wp2_with (first
      | (go_at_call 16; (with_reducible refine HP1.out.mono ?_); rintro r w1 ⟨ao, m, d, rfl, BL, B1⟩; obtain ⟨V, U0, W0, U, e3, e4, e5, e6, hz, ⟨k0, k1', k2', k3⟩, ⟨l0, l1, l2, l3⟩, AV, AU, BU⟩ := new_res8 w1 (.string KT) (.slice ao m d) (.int .i64 0) (.int .i64 0); have AVH := Lib.hid AV; have AUH := Lib.hid AU; have BWU : Hid (Below w.heap.size w U) := B1.trans (BU.mono B1.size); have hs1 : Hid (w1.heap.size + 1 < U.heap.size) := AU.lt; have HP2 := Lib.hid (HPG.out U); have BLU := Lib.hid (BL.keep stable_any (keeps_below _ BU)); clear BL; clear AV AU BU B1)
      | (go_at_call 16; (with_reducible refine HP2.out.mono ?_); rintro r w2 ⟨ao2, m2, d2, rfl, BL2, B2⟩; obtain ⟨V', U0', W0', X, g3, g4, g5, g6, hz', ⟨n0, n1, n2, n3⟩, ⟨o0, o1, o2, o3⟩, AV2, AU2, BX⟩ := new_res8 w2 (.string KT) (.slice ao2 m2 d2) (.int .i64 0) (.int .i64 0); have BUX : Below U.heap.size U X := B2.trans (BX.mono B2.size); have AVX := Lib.hid (AVH.out.kept BUX); have AUX := Lib.hid (AUH.out.kept BUX); have AV2H := Lib.hid AV2; have AU2H := Lib.hid AU2; have BWX : Hid (Below w.heap.size w X) := BWU.out.trans (BUX.mono BWU.out.size); have hs2 : Hid (w2.heap.size + 1 < X.heap.size /\ U.heap.size <= X.heap.size) := ⟨AU2.lt, BUX.size⟩; have xf0 : X.cell? ⟨w1.heap.size + 1, 0, none⟩ = some (.int .i64 0) := AUX.out.cell 0; have x0 : X.cell? ⟨w1.heap.size, 0, none⟩ = some (.string KT) := AVX.out.cell 0; have x1 : X.cell? ⟨w1.heap.size, 1, none⟩ = some (.slice ao m d) := AVX.out.cell 1; have BLX2 := Lib.hid (BL2.keep stable_any (keeps_below _ BX)); have HC1X := Lib.hid (HC1.out X ao m d BWX.out (BLU.out.keep stable_any (keeps_below _ BUX))); clear BL2; clear AV2 AU2 BX B2 BUX)
      | (go_at_call 12; (with_reducible refine HC1X.out.mono ?_); rintro r v4 ⟨sl, he, B4⟩; obtain ⟨KT1, hKT1⟩ : ∃ K, Hid (stg E1.title = K) := ⟨_, rfl⟩; obtain ⟨KS1, hKS1⟩ : ∃ K, Hid (stg E1.seed = K) := ⟨_, rfl⟩; replace he : r = .returned (.tuple #[.agg #[.string KT1, .int .i64 E1.dots, .int .i64 E1.blank, .int .i64 E1.marked, .slice sl.po sl.pn sl.pc, .slice sl.co sl.cn sl.cc, .slice sl.so sl.sn sl.sc, .int .i64 E1.scanners, .int .i64 E1.batch, .bool E1.rneg, .slice sl.uo sl.un sl.uc, .slice sl.dO sl.dn sl.dc, .int .i64 E1.cell, .string KS1], .agg #[.int .i64 er, .int .i64 ln]]) := (by rw [<- hKT1.out, <- hKS1.out]; exact he); subst he; obtain ⟨X1a, d1a, A5a, B5a, z5a⟩ := new_box v4 34 [.string ⟨#[]⟩, .int .i64 0, .int .i64 0, .int .i64 0, .slice none 0 0, .slice none 0 0, .slice none 0 0, .int .i64 0, .int .i64 0, .bool false, .slice none 0 0, .slice none 0 0, .int .i64 0, .string ⟨#[]⟩]; obtain ⟨X2a, d2a, A6a, B6a, z6a⟩ := new_box X1a 37 [.int .i64 0, .int .i64 0]; obtain ⟨p5a, hp5a⟩ : ∃ p, v4.heap.size = p := ⟨_, rfl⟩; obtain ⟨p6a, hp6a⟩ : ∃ p, X1a.heap.size = p := ⟨_, rfl⟩; have hppa : p6a ≠ p5a := (by omega); rw [hp5a] at A5a; rw [hp6a] at A6a; obtain ⟨x0a, x1a, x2a, x3a, x4a, x5a, x6a, x7a, x8a, x9a, x10a, x11a, x12a, x13a, ex0a, ex1a, ex2a, ex3a, ex4a, ex5a, ex6a, ex7a, ex8a, ex9a, ex10a, ex11a, ex12a, ex13a, AXa, GXa, LXa, qx0a, rx0a, qx1a, rx1a, qx2a, rx2a, qx3a, rx3a, qx4a, rx4a, qx5a, rx5a, qx6a, rx6a, qx7a, rx7a, qx8a, rx8a, qx9a, rx9a, qx10a, rx10a, qx11a, rx11a, qx12a, rx12a, qx13a, rx13a⟩ := box_let14 (A5a.kept B6a) (.string KT1) (.int .i64 E1.dots) (.int .i64 E1.blank) (.int .i64 E1.marked) (.slice sl.po sl.pn sl.pc) (.slice sl.co sl.cn sl.cc) (.slice sl.so sl.sn sl.sc) (.int .i64 E1.scanners) (.int .i64 E1.batch) (.bool E1.rneg) (.slice sl.uo sl.un sl.uc) (.slice sl.dO sl.dn sl.dc) (.int .i64 E1.cell) (.string KS1); obtain ⟨Ya, mya, hmya, AYa, f0a, f1a, f2a, f3a⟩ := put_box2 (A6a.other GXa hppa) (.int .i64 er) (.int .i64 ln); have BX2a : Below v4.heap.size v4 X2a := B5a.trans (B6a.mono B5a.size); have BX13a : Below v4.heap.size v4 x13a := LXa _ _ BX2a (by omega); have BYa : Below v4.heap.size v4 Ya := (by rw [hmya.out]; exact (BX13a.setCell (p := ⟨_, 0, none⟩) (by show _ <= p6a; omega) _).setCell (p := ⟨_, 1, none⟩) (by show _ <= p6a; omega) _); have hpla : Hid (v4.heap.size < p6a) := (by show _ < _; omega); clear A5a B5a z5a A6a B6a z6a AXa GXa LXa BX2a BX13a hppa; have BXY := B4.trans (BYa.mono B4.size); have BWY : Hid (Below w.heap.size w Ya) := BWX.out.trans (BXY.mono BWX.out.size); have AUY := Lib.hid (AUX.out.kept BXY); have AU2Y := Lib.hid (AU2H.out.kept BXY); have APY := Lib.hid AYa; have hs3 : Hid (X.heap.size <= v4.heap.size) := B4.size; have z0 : Ya.cell? ⟨w2.heap.size, 0, none⟩ = some (.string KT) := (AV2H.out.kept BXY).cell 0; have z1 : Ya.cell? ⟨w2.heap.size, 1, none⟩ = some (.slice ao2 m2 d2) := (AV2H.out.kept BXY).cell 1; have HC2Y := Lib.hid (HC2.out Ya ao2 m2 d2 BWY.out (BLX2.out.keep stable_any (keeps_below _ BXY))); clear B4 BYa BXY AYa)
      | (go_at_call 12; (with_reducible refine HC2Y.out.mono ?_); rintro r v5 ⟨sm, he, B5⟩; obtain ⟨KT2, hKT2⟩ : ∃ K, Hid (stg E2.title = K) := ⟨_, rfl⟩; obtain ⟨KS2, hKS2⟩ : ∃ K, Hid (stg E2.seed = K) := ⟨_, rfl⟩; replace he : r = .returned (.tuple #[.agg #[.string KT2, .int .i64 E2.dots, .int .i64 E2.blank, .int .i64 E2.marked, .slice sm.po sm.pn sm.pc, .slice sm.co sm.cn sm.cc, .slice sm.so sm.sn sm.sc, .int .i64 E2.scanners, .int .i64 E2.batch, .bool E2.rneg, .slice sm.uo sm.un sm.uc, .slice sm.dO sm.dn sm.dc, .int .i64 E2.cell, .string KS2], .agg #[.int .i64 er, .int .i64 ln]]) := (by rw [<- hKT2.out, <- hKS2.out]; exact he); subst he; obtain ⟨X1b, d1b, A5b, B5b, z5b⟩ := new_box v5 34 [.string ⟨#[]⟩, .int .i64 0, .int .i64 0, .int .i64 0, .slice none 0 0, .slice none 0 0, .slice none 0 0, .int .i64 0, .int .i64 0, .bool false, .slice none 0 0, .slice none 0 0, .int .i64 0, .string ⟨#[]⟩]; obtain ⟨X2b, d2b, A6b, B6b, z6b⟩ := new_box X1b 37 [.int .i64 0, .int .i64 0]; obtain ⟨p5b, hp5b⟩ : ∃ p, v5.heap.size = p := ⟨_, rfl⟩; obtain ⟨p6b, hp6b⟩ : ∃ p, X1b.heap.size = p := ⟨_, rfl⟩; have hppb : p6b ≠ p5b := (by omega); rw [hp5b] at A5b; rw [hp6b] at A6b; obtain ⟨x0b, x1b, x2b, x3b, x4b, x5b, x6b, x7b, x8b, x9b, x10b, x11b, x12b, x13b, ex0b, ex1b, ex2b, ex3b, ex4b, ex5b, ex6b, ex7b, ex8b, ex9b, ex10b, ex11b, ex12b, ex13b, AXb, GXb, LXb, qx0b, rx0b, qx1b, rx1b, qx2b, rx2b, qx3b, rx3b, qx4b, rx4b, qx5b, rx5b, qx6b, rx6b, qx7b, rx7b, qx8b, rx8b, qx9b, rx9b, qx10b, rx10b, qx11b, rx11b, qx12b, rx12b, qx13b, rx13b⟩ := box_let14 (A5b.kept B6b) (.string KT2) (.int .i64 E2.dots) (.int .i64 E2.blank) (.int .i64 E2.marked) (.slice sm.po sm.pn sm.pc) (.slice sm.co sm.cn sm.cc) (.slice sm.so sm.sn sm.sc) (.int .i64 E2.scanners) (.int .i64 E2.batch) (.bool E2.rneg) (.slice sm.uo sm.un sm.uc) (.slice sm.dO sm.dn sm.dc) (.int .i64 E2.cell) (.string KS2); obtain ⟨Yb, myb, hmyb, AYb, f0b, f1b, f2b, f3b⟩ := put_box2 (A6b.other GXb hppb) (.int .i64 er) (.int .i64 ln); have BX2b : Below v5.heap.size v5 X2b := B5b.trans (B6b.mono B5b.size); have BX13b : Below v5.heap.size v5 x13b := LXb _ _ BX2b (by omega); have BYb : Below v5.heap.size v5 Yb := (by rw [hmyb.out]; exact (BX13b.setCell (p := ⟨_, 0, none⟩) (by show _ <= p6b; omega) _).setCell (p := ⟨_, 1, none⟩) (by show _ <= p6b; omega) _); have hplb : Hid (v5.heap.size < p6b) := (by show _ < _; omega); clear A5b B5b z5b A6b B6b z6b AXb GXb LXb BX2b BX13b hppb; have BYs := B5.size; have BYY := B5.trans (BYb.mono B5.size); have BWY2 : Hid (Below w.heap.size w Yb) := BWY.out.trans (BYY.mono BWY.out.size); have AUZ := Lib.hid (AUY.out.kept BYY); have AU2Z := Lib.hid (AU2Y.out.kept BYY); have APZ := Lib.hid (APY.out.kept BYY); have AQZ := Lib.hid AYb; have BWZ := BWY2; have HAZ := Lib.hid (HAw.out Yb BWY2.out); have q1 : Yb.cell? ⟨p6a, 1, none⟩ = some (.int .i64 ln) := APZ.out.cell 1; clear B5 BYb BYY AYb BYs)
      | (go_at_call 14; (with_reducible refine HAZ.out.mono ?_); rintro r w9 ⟨rfl, B9⟩; have u_0 : w9.cell? ⟨w1.heap.size + 1, 0, none⟩ = some (.int .i64 0) := (AUZ.out.kept B9).cell 0; have u_1 : w9.cell? ⟨w1.heap.size + 1, 1, none⟩ = some (.int .i64 0) := (AUZ.out.kept B9).cell 1; have v_0 : w9.cell? ⟨w2.heap.size + 1, 0, none⟩ = some (.int .i64 0) := (AU2Z.out.kept B9).cell 0; have v_1 : w9.cell? ⟨w2.heap.size + 1, 1, none⟩ = some (.int .i64 0) := (AU2Z.out.kept B9).cell 1; have s_0 : w9.cell? ⟨p6a, 0, none⟩ = some (.int .i64 er) := (APZ.out.kept B9).cell 0; have s_1 : w9.cell? ⟨p6a, 1, none⟩ = some (.int .i64 ln) := (APZ.out.kept B9).cell 1; have t_0 : w9.cell? ⟨p6b, 0, none⟩ = some (.int .i64 er) := (AQZ.out.kept B9).cell 0; have t_1 : w9.cell? ⟨p6b, 1, none⟩ = some (.int .i64 ln) := (AQZ.out.kept B9).cell 1; have hfin : Hid (Below w.heap.size w w9) := BWZ.out.trans (B9.mono BWZ.out.size))
      | fail)
    go_ret
    exact ⟨rfl, hfin.out⟩
theorem lines_pos (S P : ByteArray) (z : Int) (N M : Nat) (w : World) (hT : Tabs w) (hN : N < 8) (hand : bits .and .i64 z 7 = (N : Int)) (hmn : min (S.size : Int) (1500 : Int) = (M : Int)) (c2 : (M : Int) <= (S.size : Int)) (hSP : S.extract 0 M = P) (hP : Hid (P.size <= 1500)) (s : Src) (h1 : parseL (bys P) = .ok s) (hln : 0 < (compS (toSS s)).1.2) : Calls Tryz.prog 5 #[.string S, .int .i64 z] w fun e w' => e = .returned (.bool true) /\ Below w.heap.size w w' := by
 have HAw : Hid (∀ W, Below w.heap.size w W -> Calls Tryz.prog 14 #[] W fun e w' => e = .returned (.bool true) /\ Below W.heap.size W w') := fun W hb => awake8_c W (hT.below hb)
 have hsz : ∀ Q : ByteArray, bys Q = gapL N ++ bys P -> Q.size <= 20000 := fun Q hq => by
  have h3 : (bys Q).length = Q.size := bys_len Q
  have h4 : (bys P).length = P.size := bys_len P
  rw [hq, List.length_append, h4] at h3
  have : (gapL N).length = N := by unfold gapL; rw [List.length_replicate]
  have := hP.out
  omega
 obtain ⟨g1, g2⟩ := gap_comp N h1 (by have := hP.out; have h4 : (bys P).length = P.size := bys_len P; omega)
 obtain ⟨sm1, sm2, _, sm3⟩ := small_parse h1 (by have := hP.out; have h4 : (bys P).length = P.size := bys_len P; omega)
 have hgl : (gapL N ++ bys P).length <= 20000 := by
  have h4 : (bys P).length = P.size := bys_len P
  have h5 : (gapL N).length = N := by unfold gapL; rw [List.length_replicate]
  have := hP.out
  rw [List.length_append]
  omega
 obtain ⟨tm1, tm2, _, _⟩ := small_parse g1 hgl
 have hle := compS_le (by decide) sm3
 obtain ⟨KT, hKT⟩ : ∃ K, Hid (stg s.title = K) := ⟨_, rfl⟩
 have HP1 := Lib.hid (parse_okS h1 (by have := hP.out; omega) w)
 have HPQ : Hid (∀ Q, bys Q = gapL N ++ bys P -> ∀ W, Calls Tryz.prog 16 #[.string Q] W fun r w' => ∃ ao m d, r = .returned (.tuple #[.agg #[.string KT, .slice ao m d], .agg #[.int .i64 0, .int .i64 0]]) /\ BlkS anyF w' ao m d (toSS (s.up N)).blks /\ Below W.heap.size W w') := fun Q hq W => by
  rw [<- hKT.out]
  exact parse_okS (s := s.up N) (by rw [hq]; exact g1) (hsz Q hq) W
 rw [hKT.out] at HP1
 obtain ⟨E1, hE1⟩ : ∃ E, Hid ((compS (toSS s)).2 = E) := ⟨_, rfl⟩
 obtain ⟨E2, hE2⟩ : ∃ E, Hid ((compS (toSS (s.up N))).2 = E) := ⟨_, rfl⟩
 have HC1 : Hid (∀ W bo bn bc, Below w.heap.size w W -> BlkS anyF W bo bn bc (toSS s).blks -> Calls Tryz.prog 12 #[.agg #[.string KT, .slice bo bn bc]] W fun r w' => ∃ sl, r = .returned (.tuple #[eV E1 sl, .agg #[.int .i64 (((compS (toSS s)).1.1 : Nat) : Int), .int .i64 (compS (toSS s)).1.2]]) /\ Below W.heap.size W w') := fun W bo bn bc hb hv => by
  rw [<- hKT.out, <- hE1.out]
  refine (compile_c (toSS s) bo bn bc W hv sm1 sm2 (hT.below hb)).mono ?_
  rintro r w' ⟨sl, he, _, hB⟩
  exact ⟨sl, he, hB⟩
 have HC2 : Hid (∀ W bo bn bc, Below w.heap.size w W -> BlkS anyF W bo bn bc (toSS (s.up N)).blks -> Calls Tryz.prog 12 #[.agg #[.string KT, .slice bo bn bc]] W fun r w' => ∃ sl, r = .returned (.tuple #[eV E2 sl, .agg #[.int .i64 (((compS (toSS (s.up N))).1.1 : Nat) : Int), .int .i64 (compS (toSS (s.up N))).1.2]]) /\ Below W.heap.size W w') := fun W bo bn bc hb hv => by
  rw [<- hKT.out, <- hE2.out]
  refine (compile_c (toSS (s.up N)) bo bn bc W hv tm1 tm2 (hT.below hb)).mono ?_
  rintro r w' ⟨sl, he, _, hB⟩
  exact ⟨sl, he, hB⟩
 rw [g2] at HC2
 obtain ⟨S1, hS1⟩ : ∃ S, Hid ((toSS s).blks = S) := ⟨_, rfl⟩
 obtain ⟨S2, hS2⟩ : ∃ S, Hid ((toSS (s.up N)).blks = S) := ⟨_, rfl⟩
 obtain ⟨⟨en, ln⟩, hen⟩ : ∃ x, (compS (toSS s)).1 = x := ⟨_, rfl⟩
 rw [hS1.out] at HP1 HC1
 rw [hS2.out] at HPQ HC2
 rw [hen] at HC1 HC2 hle hln
 replace hle : ln <= 1000000 := hle
 replace hln : 0 < ln := hln
 obtain ⟨er, her⟩ : ∃ e : Int, Hid (((en : Nat) : Int) = e) := ⟨_, rfl⟩
 have q1 : (shiftF (N : Int) (en, ln)).1 = en := rfl
 have q2 : (shiftF (N : Int) (en, ln)).2 = ln + (N : Int) := if_pos hln
 rw [q1, q2] at HC2
 replace HC1 : Hid (∀ W bo bn bc, Below w.heap.size w W -> BlkS anyF W bo bn bc S1 -> Calls Tryz.prog 12 #[.agg #[.string KT, .slice bo bn bc]] W fun r w' => ∃ sl, r = .returned (.tuple #[eV E1 sl, .agg #[.int .i64 ((en : Nat) : Int), .int .i64 ln]]) /\ Below W.heap.size W w') := HC1
 rw [her.out] at HC1 HC2
 obtain ⟨LN2, hL2⟩ : ∃ l, ln + (N : Int) = l := ⟨_, rfl⟩
 rw [hL2] at HC2
 have hw1 : IntKind.i64.wrap (ln + (N : Int)) = LN2 := by rw [IntKind.wrap_i64]; omega
 have hw2 : wrap64 (ln + (N : Int)) = LN2 := by unfold wrap64; omega
 have hw3 : (LN2 == LN2) = true := beq_self_eq_true _
 have hw4 : (er == er) = true := beq_self_eq_true _
 have hgt : ln > 0 := hln
 have hdt : decide (ln > 0) = true := decide_eq_true hln
 clear hL2 hle hln
 clear h1 g1 g2 sm1 sm2 sm3 tm1 tm2 hgl hsz hT hen q1 q2
 have hPz : P.size <= 1500 := hP.out
 go_enter Tryz.func5, Tryz.ntmps5
 go_wp2_with fail
 go_loop [5, 6] (fun gv iv => ∃ (j : Nat) (G : ByteArray), j <= N /\ gv = .string G /\ iv = .int .i64 (j : Int) /\ G.size <= j /\ Hid (bys G = gapL j)) (fun _ iv => N - (intOf iv).toNat)
 case atStart => exact ⟨0, ⟨#[]⟩, Nat.zero_le _, rfl, rfl, Nat.le_refl _, rfl⟩
 case round =>
  obtain ⟨j, G, hj, rfl, rfl, hGz, hG⟩ := hrel
  by_cases hlt : j < N
  . have hlt' : (j : Int) < (N : Int) := by omega
    have m1 : (⟨#[10]⟩ : ByteArray).size = 1 := rfl
    have hG2 : Hid (bys (G ++ ⟨#[10]⟩) = gapL (j + 1)) := gap_snoc hG.out
    have hGl : Hid ((G ++ ⟨#[10]⟩).size <= j + 1) := by show _ <= _; rw [ByteArray.size_append, m1]; omega
    go_wp2_with fail
    go_round
    case rel => exact ⟨j + 1, _, by omega, rfl, by go_num, hGl.out, hG2⟩
    case measure => simp [intOf]; omega
  . have hlt' : ¬ (j : Int) < (N : Int) := by omega
    obtain rfl : j = N := by omega
    have HPG := Lib.hid (HPQ.out (G ++ P) (by rw [bys_append, hG.out]))
    clear HPQ hG
    obtain ⟨Q, hQ⟩ : ∃ Q, G ++ P = Q := ⟨_, rfl⟩
    rw [hQ] at HPG
    go_wp2_with (first
      | (go_at_call 16; (with_reducible refine HP1.out.mono ?_); rintro r w1 ⟨ao, m, d, rfl, BL, B1⟩; obtain ⟨V, U0, W0, U, e3, e4, e5, e6, hz, ⟨k0, k1', k2', k3⟩, ⟨l0, l1, l2, l3⟩, AV, AU, BU⟩ := new_res8 w1 (.string KT) (.slice ao m d) (.int .i64 0) (.int .i64 0); have AVH := Lib.hid AV; have AUH := Lib.hid AU; have BWU : Hid (Below w.heap.size w U) := B1.trans (BU.mono B1.size); have hs1 : Hid (w1.heap.size + 1 < U.heap.size) := AU.lt; have HP2 := Lib.hid (HPG.out U); have BLU := Lib.hid (BL.keep stable_any (keeps_below _ BU)); clear BL; clear AV AU BU B1)
      | (go_at_call 16; (with_reducible refine HP2.out.mono ?_); rintro r w2 ⟨ao2, m2, d2, rfl, BL2, B2⟩; obtain ⟨V', U0', W0', X, g3, g4, g5, g6, hz', ⟨n0, n1, n2, n3⟩, ⟨o0, o1, o2, o3⟩, AV2, AU2, BX⟩ := new_res8 w2 (.string KT) (.slice ao2 m2 d2) (.int .i64 0) (.int .i64 0); have BUX : Below U.heap.size U X := B2.trans (BX.mono B2.size); have AVX := Lib.hid (AVH.out.kept BUX); have AUX := Lib.hid (AUH.out.kept BUX); have AV2H := Lib.hid AV2; have AU2H := Lib.hid AU2; have BWX : Hid (Below w.heap.size w X) := BWU.out.trans (BUX.mono BWU.out.size); have hs2 : Hid (w2.heap.size + 1 < X.heap.size /\ U.heap.size <= X.heap.size) := ⟨AU2.lt, BUX.size⟩; have xf0 : X.cell? ⟨w1.heap.size + 1, 0, none⟩ = some (.int .i64 0) := AUX.out.cell 0; have x0 : X.cell? ⟨w1.heap.size, 0, none⟩ = some (.string KT) := AVX.out.cell 0; have x1 : X.cell? ⟨w1.heap.size, 1, none⟩ = some (.slice ao m d) := AVX.out.cell 1; have BLX2 := Lib.hid (BL2.keep stable_any (keeps_below _ BX)); have HC1X := Lib.hid (HC1.out X ao m d BWX.out (BLU.out.keep stable_any (keeps_below _ BUX))); clear BL2; clear AV2 AU2 BX B2 BUX)
      | (go_at_call 12; (with_reducible refine HC1X.out.mono ?_); rintro r v4 ⟨sl, he, B4⟩; obtain ⟨KT1, hKT1⟩ : ∃ K, Hid (stg E1.title = K) := ⟨_, rfl⟩; obtain ⟨KS1, hKS1⟩ : ∃ K, Hid (stg E1.seed = K) := ⟨_, rfl⟩; replace he : r = .returned (.tuple #[.agg #[.string KT1, .int .i64 E1.dots, .int .i64 E1.blank, .int .i64 E1.marked, .slice sl.po sl.pn sl.pc, .slice sl.co sl.cn sl.cc, .slice sl.so sl.sn sl.sc, .int .i64 E1.scanners, .int .i64 E1.batch, .bool E1.rneg, .slice sl.uo sl.un sl.uc, .slice sl.dO sl.dn sl.dc, .int .i64 E1.cell, .string KS1], .agg #[.int .i64 er, .int .i64 ln]]) := (by rw [<- hKT1.out, <- hKS1.out]; exact he); subst he; obtain ⟨X1a, d1a, A5a, B5a, z5a⟩ := new_box v4 34 [.string ⟨#[]⟩, .int .i64 0, .int .i64 0, .int .i64 0, .slice none 0 0, .slice none 0 0, .slice none 0 0, .int .i64 0, .int .i64 0, .bool false, .slice none 0 0, .slice none 0 0, .int .i64 0, .string ⟨#[]⟩]; obtain ⟨X2a, d2a, A6a, B6a, z6a⟩ := new_box X1a 37 [.int .i64 0, .int .i64 0]; obtain ⟨p5a, hp5a⟩ : ∃ p, v4.heap.size = p := ⟨_, rfl⟩; obtain ⟨p6a, hp6a⟩ : ∃ p, X1a.heap.size = p := ⟨_, rfl⟩; have hppa : p6a ≠ p5a := (by omega); rw [hp5a] at A5a; rw [hp6a] at A6a; obtain ⟨x0a, x1a, x2a, x3a, x4a, x5a, x6a, x7a, x8a, x9a, x10a, x11a, x12a, x13a, ex0a, ex1a, ex2a, ex3a, ex4a, ex5a, ex6a, ex7a, ex8a, ex9a, ex10a, ex11a, ex12a, ex13a, AXa, GXa, LXa, qx0a, rx0a, qx1a, rx1a, qx2a, rx2a, qx3a, rx3a, qx4a, rx4a, qx5a, rx5a, qx6a, rx6a, qx7a, rx7a, qx8a, rx8a, qx9a, rx9a, qx10a, rx10a, qx11a, rx11a, qx12a, rx12a, qx13a, rx13a⟩ := box_let14 (A5a.kept B6a) (.string KT1) (.int .i64 E1.dots) (.int .i64 E1.blank) (.int .i64 E1.marked) (.slice sl.po sl.pn sl.pc) (.slice sl.co sl.cn sl.cc) (.slice sl.so sl.sn sl.sc) (.int .i64 E1.scanners) (.int .i64 E1.batch) (.bool E1.rneg) (.slice sl.uo sl.un sl.uc) (.slice sl.dO sl.dn sl.dc) (.int .i64 E1.cell) (.string KS1); obtain ⟨Ya, mya, hmya, AYa, f0a, f1a, f2a, f3a⟩ := put_box2 (A6a.other GXa hppa) (.int .i64 er) (.int .i64 ln); have BX2a : Below v4.heap.size v4 X2a := B5a.trans (B6a.mono B5a.size); have BX13a : Below v4.heap.size v4 x13a := LXa _ _ BX2a (by omega); have BYa : Below v4.heap.size v4 Ya := (by rw [hmya.out]; exact (BX13a.setCell (p := ⟨_, 0, none⟩) (by show _ <= p6a; omega) _).setCell (p := ⟨_, 1, none⟩) (by show _ <= p6a; omega) _); have hpla : Hid (v4.heap.size < p6a) := (by show _ < _; omega); clear A5a B5a z5a A6a B6a z6a AXa GXa LXa BX2a BX13a hppa; have BXY := B4.trans (BYa.mono B4.size); have BWY : Hid (Below w.heap.size w Ya) := BWX.out.trans (BXY.mono BWX.out.size); have AUY := Lib.hid (AUX.out.kept BXY); have AU2Y := Lib.hid (AU2H.out.kept BXY); have APY := Lib.hid AYa; have hs3 : Hid (X.heap.size <= v4.heap.size) := B4.size; have z0 : Ya.cell? ⟨w2.heap.size, 0, none⟩ = some (.string KT) := (AV2H.out.kept BXY).cell 0; have z1 : Ya.cell? ⟨w2.heap.size, 1, none⟩ = some (.slice ao2 m2 d2) := (AV2H.out.kept BXY).cell 1; have HC2Y := Lib.hid (HC2.out Ya ao2 m2 d2 BWY.out (BLX2.out.keep stable_any (keeps_below _ BXY))); clear B4 BYa BXY AYa)
      | (go_at_call 12; (with_reducible refine HC2Y.out.mono ?_); rintro r v5 ⟨sm, he, B5⟩; obtain ⟨KT2, hKT2⟩ : ∃ K, Hid (stg E2.title = K) := ⟨_, rfl⟩; obtain ⟨KS2, hKS2⟩ : ∃ K, Hid (stg E2.seed = K) := ⟨_, rfl⟩; replace he : r = .returned (.tuple #[.agg #[.string KT2, .int .i64 E2.dots, .int .i64 E2.blank, .int .i64 E2.marked, .slice sm.po sm.pn sm.pc, .slice sm.co sm.cn sm.cc, .slice sm.so sm.sn sm.sc, .int .i64 E2.scanners, .int .i64 E2.batch, .bool E2.rneg, .slice sm.uo sm.un sm.uc, .slice sm.dO sm.dn sm.dc, .int .i64 E2.cell, .string KS2], .agg #[.int .i64 er, .int .i64 LN2]]) := (by rw [<- hKT2.out, <- hKS2.out]; exact he); subst he; obtain ⟨X1b, d1b, A5b, B5b, z5b⟩ := new_box v5 34 [.string ⟨#[]⟩, .int .i64 0, .int .i64 0, .int .i64 0, .slice none 0 0, .slice none 0 0, .slice none 0 0, .int .i64 0, .int .i64 0, .bool false, .slice none 0 0, .slice none 0 0, .int .i64 0, .string ⟨#[]⟩]; obtain ⟨X2b, d2b, A6b, B6b, z6b⟩ := new_box X1b 37 [.int .i64 0, .int .i64 0]; obtain ⟨p5b, hp5b⟩ : ∃ p, v5.heap.size = p := ⟨_, rfl⟩; obtain ⟨p6b, hp6b⟩ : ∃ p, X1b.heap.size = p := ⟨_, rfl⟩; have hppb : p6b ≠ p5b := (by omega); rw [hp5b] at A5b; rw [hp6b] at A6b; obtain ⟨x0b, x1b, x2b, x3b, x4b, x5b, x6b, x7b, x8b, x9b, x10b, x11b, x12b, x13b, ex0b, ex1b, ex2b, ex3b, ex4b, ex5b, ex6b, ex7b, ex8b, ex9b, ex10b, ex11b, ex12b, ex13b, AXb, GXb, LXb, qx0b, rx0b, qx1b, rx1b, qx2b, rx2b, qx3b, rx3b, qx4b, rx4b, qx5b, rx5b, qx6b, rx6b, qx7b, rx7b, qx8b, rx8b, qx9b, rx9b, qx10b, rx10b, qx11b, rx11b, qx12b, rx12b, qx13b, rx13b⟩ := box_let14 (A5b.kept B6b) (.string KT2) (.int .i64 E2.dots) (.int .i64 E2.blank) (.int .i64 E2.marked) (.slice sm.po sm.pn sm.pc) (.slice sm.co sm.cn sm.cc) (.slice sm.so sm.sn sm.sc) (.int .i64 E2.scanners) (.int .i64 E2.batch) (.bool E2.rneg) (.slice sm.uo sm.un sm.uc) (.slice sm.dO sm.dn sm.dc) (.int .i64 E2.cell) (.string KS2); obtain ⟨Yb, myb, hmyb, AYb, f0b, f1b, f2b, f3b⟩ := put_box2 (A6b.other GXb hppb) (.int .i64 er) (.int .i64 LN2); have BX2b : Below v5.heap.size v5 X2b := B5b.trans (B6b.mono B5b.size); have BX13b : Below v5.heap.size v5 x13b := LXb _ _ BX2b (by omega); have BYb : Below v5.heap.size v5 Yb := (by rw [hmyb.out]; exact (BX13b.setCell (p := ⟨_, 0, none⟩) (by show _ <= p6b; omega) _).setCell (p := ⟨_, 1, none⟩) (by show _ <= p6b; omega) _); have hplb : Hid (v5.heap.size < p6b) := (by show _ < _; omega); clear A5b B5b z5b A6b B6b z6b AXb GXb LXb BX2b BX13b hppb; have BYs := B5.size; have BYY := B5.trans (BYb.mono B5.size); have BWY2 : Hid (Below w.heap.size w Yb) := BWY.out.trans (BYY.mono BWY.out.size); obtain ⟨Z, eZ, hZ, AZ, q1, q2⟩ := put_snd (APY.out.kept BYY) (.int .i64 LN2); have hn1 : w1.heap.size + 1 ≠ p6a := (by have := hs1.out; have := hs2.out; have := hs3.out; have := hpla.out; omega); have hn2 : w2.heap.size + 1 ≠ p6a := (by have := hs2.out; have := hs3.out; have := hpla.out; omega); have hn3 : p6b ≠ p6a := (by have := APY.out.lt; have := hplb.out; have := BYs; omega); have AUZ : Hid (Arr Z (w1.heap.size + 1) 37 [.int .i64 0, .int .i64 0]) := (by apply Lib.hid; rw [hZ.out]; exact (AUY.out.kept BYY).far hn1 _); have AU2Z : Hid (Arr Z (w2.heap.size + 1) 37 [.int .i64 0, .int .i64 0]) := (by apply Lib.hid; rw [hZ.out]; exact (AU2Y.out.kept BYY).far hn2 _); have AQZ : Hid (Arr Z p6b 37 [.int .i64 er, .int .i64 LN2]) := (by apply Lib.hid; rw [hZ.out]; exact AYb.far hn3 _); have APZ := Lib.hid AZ; have BWZ : Hid (Below w.heap.size w Z) := (by apply Lib.hid; rw [hZ.out]; exact BWY2.out.setCell (p := ⟨_, 1, none⟩) (by have := hs2.out; have := hs3.out; have := hpla.out; have := BWX.out.size; show _ <= p6a; omega) _); have HAZ := Lib.hid (HAw.out Z BWZ.out); clear hn1 hn2 hn3 AZ; clear B5 BYb BYY AYb BYs)
      | (go_at_call 14; (with_reducible refine HAZ.out.mono ?_); rintro r w9 ⟨rfl, B9⟩; have u_0 : w9.cell? ⟨w1.heap.size + 1, 0, none⟩ = some (.int .i64 0) := (AUZ.out.kept B9).cell 0; have u_1 : w9.cell? ⟨w1.heap.size + 1, 1, none⟩ = some (.int .i64 0) := (AUZ.out.kept B9).cell 1; have v_0 : w9.cell? ⟨w2.heap.size + 1, 0, none⟩ = some (.int .i64 0) := (AU2Z.out.kept B9).cell 0; have v_1 : w9.cell? ⟨w2.heap.size + 1, 1, none⟩ = some (.int .i64 0) := (AU2Z.out.kept B9).cell 1; have s_0 : w9.cell? ⟨p6a, 0, none⟩ = some (.int .i64 er) := (APZ.out.kept B9).cell 0; have s_1 : w9.cell? ⟨p6a, 1, none⟩ = some (.int .i64 LN2) := (APZ.out.kept B9).cell 1; have t_0 : w9.cell? ⟨p6b, 0, none⟩ = some (.int .i64 er) := (AQZ.out.kept B9).cell 0; have t_1 : w9.cell? ⟨p6b, 1, none⟩ = some (.int .i64 LN2) := (AQZ.out.kept B9).cell 1; have hfin : Hid (Below w.heap.size w w9) := BWZ.out.trans (B9.mono BWZ.out.size))
      | fail)
    go_ret
    exact ⟨rfl, hfin.out⟩
theorem linesS_c (S : ByteArray) (z : Int) (w : World) (hT : Tabs w) : Calls Tryz.prog 5 #[.string S, .int .i64 z] w fun e w' => e = .returned (.bool true) /\ Below w.heap.size w w' := by
 obtain ⟨N, hN, hand⟩ := low3s z
 obtain ⟨M, hM⟩ : ∃ M : Nat, M = min S.size 1500 := ⟨_, rfl⟩
 obtain ⟨P, hSP⟩ : ∃ P, S.extract 0 M = P := ⟨_, rfl⟩
 have hP : Hid (P.size <= 1500) := by
  show _ <= _
  rw [<- hSP, ByteArray.size_extract]
  omega
 have hmn : min (S.size : Int) (1500 : Int) = (M : Int) := by omega
 have c2 : (M : Int) <= (S.size : Int) := by omega
 have hr := parseL_gap N (bys P)
 cases e : parseL (bys P) with
 | ok s =>
  by_cases hl : 0 < (compS (toSS s)).1.2
  . exact lines_pos S P z N M w hT hN hand hmn c2 hSP hP s e hl
  . exact lines_zero S P z N M w hT hN hand hmn c2 hSP hP s e hl
 | err k =>
  rw [e] at hr
  cases e2 : parseL (gapL N ++ bys P) with
  | ok s => rw [e2] at hr; exact hr.elim
  | err k2 => exact lines_err S P z N M w hT hN hand hmn c2 hSP hP k k2 e e2
end Go.Proofs.YtemdkkphmldgjaaGreatDoor
namespace Go.Proofs.YtemdkkphmldgjaaGreatDoor
open Go.RowKit Lx
namespace Lx
section
variable {P : Program} {w : World} {base : Nat} {sp : Nat -> Bool} {held : Bool} {fuel : Nat} {t : TypeId} {cs : List Value} {x : DataW Unit × List MemPlace}
def leafV : DataW Unit -> Value
  | .lit (.string l) => .string ⟨l.toArray⟩
  | .lit (.int k n) => .int k n
  | .lit (.bool b) => .bool b
  | _ => .bool false
def rowV : DataW Unit -> List Value
  | .agg ds => ds.map leafV
  | _ => []
def Leaf (P : Program) (t : TypeId) : Prop := P.underlying t = some .string \/ P.underlying t = some .bool \/ ∃ k, P.underlying t = some (.int k)
theorem leaf_of (ht : Leaf P t) (h : DataW.trod (fun _ => ()) P w base sp held fuel t cs = some x) : cs = [leafV x.1] := by
 rcases ht with ht | ht | ⟨k, ht⟩
 . obtain ⟨s, rfl, rfl, _⟩ := DataW.trod_string ht h
   cases s
   simp [leafV]
 . obtain ⟨b, rfl, rfl⟩ := DataW.trod_bool ht h
   rfl
 . obtain ⟨n, rfl, rfl, _⟩ := DataW.trod_int ht h
   rfl
theorem row_of {fs : Array Field} (ht : P.underlying t = some (.struct fs)) (hf : ∀ (i : Nat) (f : Field), fs[i]? = some f -> Leaf P f.type /\ f.offset = i /\ P.cellsOf f.type = 1) (hct : P.cellsOf t = fs.size)
    (h : DataW.trod (fun _ => ()) P w base sp held fuel t cs = some x) : cs = rowV x.1 /\ cs.length = fs.size := by
 obtain ⟨xs, n, _, hx, hl, hxl, hall⟩ := DataW.trod_struct ht h
 refine ⟨?_, by omega⟩
 rw [hx]
 show cs = (xs.map (·.1)).map leafV
 apply List.ext_getElem?
 intro i
 by_cases hi : i < fs.size
 . obtain ⟨b, hb⟩ : ∃ b, xs[i]? = some b := ⟨_, List.getElem?_eq_getElem (by omega)⟩
   obtain ⟨h1, h2, h3⟩ := hf i fs[i] (Array.getElem?_eq_getElem hi)
   have h4 := hall i fs[i] (Array.getElem?_eq_getElem hi)
   rw [h2, h3, hb] at h4
   have h5 := congrArg (·[0]?) (leaf_of h1 h4)
   have h6 : cs[i]? = some (leafV b.1) := by simpa [List.getElem?_take, List.getElem?_drop] using h5
   rw [h6, List.getElem?_map, List.getElem?_map, hb]
   rfl
 . rw [List.getElem?_eq_none (by omega), List.getElem?_eq_none (by rw [List.length_map, List.length_map]; omega)]
theorem rows_join (m : Nat) : ∀ (xs : List (DataW Unit × List MemPlace)) (cs : List Value), cs.length = xs.length * m -> (∀ (i : Nat) b, xs[i]? = some b -> (cs.drop (i * m)).take m = rowV b.1) -> cs = (xs.map (·.1)).flatMap rowV
  | [], cs, hl, _ => by
   have : cs = [] := List.length_eq_zero_iff.1 (by simpa using hl)
   rw [this]
   rfl
  | b :: xs, cs, hl, h => by
   have h0 := h 0 b rfl
   rw [Nat.zero_mul, List.drop_zero] at h0
   have h1 := rows_join m xs (cs.drop m) (by rw [List.length_drop, hl, List.length_cons, Nat.succ_mul]; omega) (fun i c hc => by
    have := h (i + 1) c (by simpa using hc)
    rw [List.drop_drop]
    rw [Nat.succ_mul, Nat.add_comm] at this
    exact this)
   rw [List.map_cons, List.flatMap_cons, <- h0, <- h1, List.take_append_drop]
theorem table_of {n : Nat} {e : TypeId} {fs : Array Field} (ht : P.underlying t = some (.array n e)) (he : P.underlying e = some (.struct fs)) (hf : ∀ (i : Nat) (f : Field), fs[i]? = some f -> Leaf P f.type /\ f.offset = i /\ P.cellsOf f.type = 1)
    (hce : P.cellsOf e = fs.size) (hct : P.cellsOf t = n * fs.size) {ds : List (DataW Unit)} {p : List MemPlace} (h : DataW.trod (fun _ => ()) P w base sp held fuel t cs = some (.agg ds, p)) : cs = ds.flatMap rowV := by
 obtain ⟨xs, m, _, hx, hl, hxl, hall⟩ := DataW.trod_array ht h
 have e1 : ds = xs.map (·.1) := by
  injection hx with h1 h2
  injection h1
 rw [e1]
 refine rows_join fs.size xs cs (by rw [hl, hct, hxl]) (fun i b hb => ?_)
 have hi : i < n := by rw [<- hxl]; exact (List.getElem?_eq_some_iff.1 hb).1
 have h3 := hall i hi
 rw [hce, hb] at h3
 exact (row_of he hf hce h3).1
theorem face_of {ms : Array (String × TypeId)} (ht : P.underlying t = some (.interface ms)) (h : DataW.trod (fun _ => ()) P w base sp held fuel t cs = some x) (hx : ∃ n d, x.1 = .iface n d) : ∃ u v, cs = [.iface u v] := by
 cases fuel with
 | zero => simp [DataW.trod] at h
 | succ n =>
  unfold DataW.trod at h
  rw [ht] at h
  obtain ⟨a, d, hx⟩ := hx
  split at h <;> first | (cases h; cases hx; done) | simp_all
end
theorem var_block {P : Program} {w : World} {n : String} {g : Nat} {cs : Array Value} (hg : P.globalNamed n = some g) (h : w.var? P n = some cs) : ∃ t fr, w.heap[g]? = some (.cells cs t fr) := by
 unfold World.var? at h
 rw [hg] at h
 simp only [Option.bind_some] at h
 cases e : w.heap[g]? with
 | none => rw [e] at h; cases h
 | some o =>
  rw [e] at h
  cases o with
  | cells c t fr =>
   injection h with h
   subst h
   exact ⟨t, fr, rfl⟩
  | _ => cases h
end Lx
end Go.Proofs.YtemdkkphmldgjaaGreatDoor
