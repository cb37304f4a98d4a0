/-
  Texts of the proof, put together: SchSty SchCk.
-/
import Derived.Test.YtemdkkphmldgjaaGreatDoorPkA18
import Derived.Test.YtemdkkphmldgjaaGreatDoorPkA20
import Derived.Test.YtemdkkphmldgjaaGreatDoorPkA26
set_option maxRecDepth 100000
set_option maxHeartbeats 25600000
namespace Go.Proofs.YtemdkkphmldgjaaGreatDoor
open Go.RowKit Lx
namespace Lx
theorem prec_step {P : List (List UInt8)} {ln : Int} {used vs : List (List UInt8)} {j : Nat} {v : List UInt8} (h : vs[j]? = some v) :
    precGo P ln (used ++ vs.take j) (vs.drop j) = if !P.contains v then ((2, ln), used ++ vs.take j) else if (used ++ vs.take j).contains v then ((3, ln), used ++ vs.take j) else precGo P ln (used ++ vs.take (j + 1)) (vs.drop (j + 1)) := by
 rw [drop_get h, precGo, take_snoc h, List.append_assoc]
theorem prec_end {P : List (List UInt8)} {ln : Int} {used vs : List (List UInt8)} {j : Nat} (h : vs.length <= j) : precGo P ln (used ++ vs.take j) (vs.drop j) = ((0, 0), used ++ vs) := by
 rw [List.drop_eq_nil_of_le h, List.take_of_length_le h]
 rfl
theorem cont_bad {P : List (List UInt8)} {ln : Int} {vs : List (List UInt8)} {v : List UInt8} {j : Nat} (h : vs[j]? = some v) (hv : P.contains v = false) : contE P ln vs = (2, ln) := by
 unfold contE
 rw [if_neg]
 intro e
 have := List.all_eq_true.1 e v (List.mem_of_getElem? h)
 rw [hv] at this
 cases this
theorem cont_ok {P : List (List UInt8)} {ln : Int} {vs : List (List UInt8)} (h : ∀ (t : Nat) v, vs[t]? = some v -> P.contains v = true) : contE P ln vs = (0, 0) := by
 unfold contE
 rw [if_pos]
 rw [List.all_eq_true]
 intro x hx
 obtain ⟨i, hi, rfl⟩ := List.mem_iff_getElem.1 hx
 exact h i _ (List.getElem?_eq_getElem hi)
theorem styles_step {P C used : List (List UInt8)} {b : SBlc} {r : List SBlc} : stylesGo P C used (b :: r) =
    if (precGo P (fldOr b kPrecincts).line used (fldOr b kPrecincts).vals).1.1 ≠ 0 then (precGo P (fldOr b kPrecincts).line used (fldOr b kPrecincts).vals).1
    else if (contE C (fldOr b wContests).line (fldOr b wContests).vals).1 ≠ 0 then contE C (fldOr b wContests).line (fldOr b wContests).vals
    else stylesGo P C (precGo P (fldOr b kPrecincts).line used (fldOr b kPrecincts).vals).2 r := by
 rw [stylesGo, valuesOf_or, lineF_or, valuesOf_or, lineF_or]
end Lx
theorem keeps_low2 {B : Nat} {a b c : World} (h7 : Below B a b) (h8 : Below B a c) : Keeps (lowF B) b c := fun k _ hk => (h8.block k hk).trans (h7.block k hk).symm
theorem checkStyles_c (bs : List SBlc) (ao : Option Addr) (n c : Nat) (w : World) (h : BlkS anyF w ao n c bs) (hn : n <= 2000000) (hp : (precNames bs).length <= 4000000) (hq : ((ofKind kStyle bs).flatMap fun b => (fldOr b kPrecincts).vals).length <= 4000000) :
    Calls Tryz.prog 62 #[.slice ao n c] w fun e w' => e = .returned (.agg #[.int .i64 (((stylesGo (precNames bs) (contNames bs) [] (ofKind kStyle bs)).1 : Nat) : Int), .int .i64 (stylesGo (precNames bs) (contNames bs) [] (ofKind kStyle bs)).2]) /\ Below w.heap.size w w' := by
 obtain ⟨V, e1, AV, BV, hz⟩ := new_box w 37 [.int .i64 0, .int .i64 0]
 have HP := precinctNames_c bs ao n c V (h.below BV) hn hp
 have HC := fun w1 (hb : Below V.heap.size V w1) => contestNames_c bs ao n c w1 ((h.below BV).below hb) hn
 have HK : ∀ w1 (_ : Below V.heap.size V w1), Calls Tryz.prog 61 #[.slice ao n c, .string ⟨#[115, 116, 121, 108, 101]⟩] w1 fun e w' => ∃ ro m d, e = .returned (.slice ro m d) /\ BlkS anyF w' ro m d (ofKind kStyle bs) /\ Below w1.heap.size w1 w' := fun w1 hb => ofKind_c bs kStyle ao n c w1 ((h.below BV).below hb) hn
 obtain ⟨PN, hPN⟩ : ∃ P, Hid (precNames bs = P) := ⟨_, rfl⟩
 obtain ⟨CN, hCN⟩ : ∃ P, Hid (contNames bs = P) := ⟨_, rfl⟩
 obtain ⟨SB, hSB⟩ : ∃ P, Hid (ofKind kStyle bs = P) := ⟨_, rfl⟩
 rw [hPN.out] at HP
 rw [hCN.out] at HC
 rw [hSB.out] at HK
 rw [hPN.out, hCN.out, hSB.out]
 obtain ⟨TE, hTE⟩ : ∃ T, stylesGo PN CN [] SB = T := ⟨_, rfl⟩
 rw [hTE]
 have hT0 : Hid (TE = stylesGo PN CN [] (SB.drop 0)) := hTE.symm
 have hSl : Hid ((SB.flatMap fun b => (fldOr b kPrecincts).vals).length <= 4000000) := by show _ <= _; rw [<- hSB.out]; exact hq
 obtain ⟨bb, hbb⟩ : ∃ b, w.heap.size = b := ⟨_, rfl⟩
 rw [hbb] at AV
 have A1 := Lib.hid AV
 have HB : Hid (Below w.heap.size w V) := BV
 have hle : Hid (w.heap.size <= bb) := by show _ <= _; omega
 replace HP := Lib.hid HP
 replace HC := Lib.hid HC
 replace HK := Lib.hid HK
 clear h hp hq AV BV hz hTE
 go_enter Tryz.func62, Tryz.ntmps62
 go_wp2_with fail
 refine HP.out.mono ?_
 rintro e w1 ⟨po, pn, pc, rfl, PL, B1⟩
 have HJ := Lib.hid (HC.out w1 B1)
 replace PL := Lib.hid PL
 replace B1 := Lib.hid B1
 clear HP HC
 go_wp2_with fail
 refine HJ.out.mono ?_
 rintro e w2 ⟨co, cn, cc, rfl, CL, B2⟩
 replace PL := Lib.hid (StrL.below PL.out B2)
 replace B2 : Hid (Below V.heap.size V w2) := B1.out.trans (B2.mono B1.out.size)
 have HJ := Lib.hid (HK.out w2 B2.out)
 replace CL := Lib.hid CL
 clear HK B1
 go_wp2_with fail
 refine HJ.out.mono ?_
 rintro e w3 ⟨so, sn, sc, rfl, SL, B3⟩
 replace PL := Lib.hid (StrL.below PL.out B3)
 replace CL := Lib.hid (StrL.below CL.out B3)
 replace B3 : Hid (Below V.heap.size V w3) := B2.out.trans (B3.mono B2.out.size)
 have hlen := Lib.hid SL.len
 have hpl := Lib.hid (StrL.len PL.out)
 obtain ⟨hcap, hroom⟩ := SL.caps
 have hpcap := Row.cap PL.out
 have hproom := Row.room PL.out
 have SLl := Lib.hid SL.low
 have PLl := Lib.hid (Row.low PL.out)
 have CLl := Lib.hid (Row.low CL.out)
 clear HJ B2 SL PL CL
 go_wp2_with fail
 clear e1
 have hlow : Hid (bb < w3.heap.size) := Nat.lt_of_lt_of_le A1.out.lt B3.out.size
 have HB3 : Hid (Below w.heap.size w w3) := HB.out.trans (B3.out.mono HB.out.size)
 have A3 := Lib.hid (A1.out.kept B3.out)
 go_loopw [5, 7, 8, 10, 12, 20] (fun u _ _ _ _ i wr => ∃ (j : Nat) (uo : Option Addr) (uc : Nat) (U : List (List UInt8)), j <= sn /\ i = .int .i64 (j : Int) /\ u = .slice uo U.length uc /\ wr.ownsRow w3.heap.size 9 1 (.slice uo U.length uc) U.length (U.map fun v => .string (stg v)) /\ Below w3.heap.size w3 wr /\ Hid (TE = stylesGo PN CN U (SB.drop j)) /\ Hid (U = (SB.take j).flatMap fun b => (fldOr b kPrecincts).vals)) (fun _ _ _ _ _ i _ => sn - (intOf i).toNat)
 case atStart => exact ⟨0, none, 0, [], Nat.zero_le _, rfl, rfl, World.ownsRow_nil _ _ _ _, Below.refl _ _, hT0.out, rfl⟩
 case round =>
  obtain ⟨w4, hw4⟩ : ∃ x, x = wr := ⟨_, rfl⟩
  subst hw4
  obtain ⟨j, uo, uc, U, hj, rfl, rfl, O, B, HX, HU⟩ := hrel
  by_cases hlt : j < sn
  . have hlt' : (j : Int) < (sn : Int) := by omega
    obtain ⟨b, a, fo, fn, fc, hb, i1, c0, c1, c2, c3, FL⟩ := (SLl.out.keep (stable_low _) (keeps_low B)).get j hlt
    have hs := HX.out
    rw [drop_get hb, styles_step] at hs
    have hUs : Hid (U ++ (fldOr b kPrecincts).vals = (SB.take (j + 1)).flatMap fun b => (fldOr b kPrecincts).vals) := by
     show _ = _
     rw [take_snoc hb, List.flatMap_append, <- HU.out, List.flatMap_cons, List.flatMap_nil, List.append_nil]
    have hUl : Hid ((U ++ (fldOr b kPrecincts).vals).length <= 4000000) := by
     show _ <= _
     rw [hUs.out]
     have h1 := hSl.out
     have h2 : ((SB.take (j + 1)).flatMap fun b => (fldOr b kPrecincts).vals).length <= (SB.flatMap fun b => (fldOr b kPrecincts).vals).length := by
      conv => rhs; rw [<- List.take_append_drop (j + 1) SB, List.flatMap_append, List.length_append]
      omega
     omega
    obtain ⟨V1, W5, e1, e2, AW, BW, zW, f0, f1, f2, f3, f4, f5, f6, f7⟩ := new_put4 w4 55 (.string ⟨#[]⟩) (.string ⟨#[]⟩) (.slice none 0 0) (.int .i64 0) (.string (stg b.kind)) (.string (stg b.name)) (.slice fo fn fc) (.int .i64 b.line)
    obtain ⟨g7, hg7⟩ : ∃ g, w4.heap.size = g := ⟨_, rfl⟩
    rw [hg7] at AW e2 f0 f1 f2 f3 f4 f5 f6 f7
    have hz4 : w3.heap.size <= w4.heap.size := B.size
    have hz5 : w3.heap.size <= W5.heap.size := Nat.le_trans hz4 BW.size
    have FL5 := FL.keep (stable_low _) (keeps_low (BW.mono hz4))
    have HF1 := fieldOfB_c w3.heap.size b kPrecincts fo fn fc W5 FL5 hz5
    obtain ⟨F1, hF1⟩ : ∃ F, fldOr b kPrecincts = F := ⟨_, rfl⟩
    obtain ⟨F2, hF2⟩ : ∃ F, fldOr b wContests = F := ⟨_, rfl⟩
    rw [hF1] at hs HF1 hUs hUl
    rw [hF2] at hs
    obtain ⟨KD, hKD⟩ : ∃ K, Hid (stg b.kind = K) := ⟨_, rfl⟩
    obtain ⟨KN, hKN⟩ : ∃ K, Hid (stg b.name = K) := ⟨_, rfl⟩
    obtain ⟨LN, hLN⟩ : ∃ K, Hid (b.line = K) := ⟨_, rfl⟩
    rw [hKD.out] at c0 e2 AW f2 f3 f4 f5 f6 f7 HF1
    rw [hKN.out] at c1 e2 AW f4 f5 f6 f7 HF1
    rw [hLN.out] at c3 e2 AW HF1
    replace HF1 : Hid (Calls Tryz.prog 115 #[.agg #[.string KD, .string KN, .slice fo fn fc, .int .i64 LN], .string ⟨#[112, 114, 101, 99, 105, 110, 99, 116, 115]⟩] W5 fun e w' => ∃ vo vn vc, e = .returned (.agg #[.string (stg F1.key), .slice vo vn vc, .int .i64 F1.line]) /\ StrL (lowF w3.heap.size) w' vo vn vc F1.vals /\ Below W5.heap.size W5 w') := HF1
    have y0 : W5.cell? ⟨g7, 0, none⟩ = some (.string KD) := AW.cell 0
    have y1 : W5.cell? ⟨g7, 1, none⟩ = some (.string KN) := AW.cell 1
    have y2 : W5.cell? ⟨g7, 2, none⟩ = some (.slice fo fn fc) := AW.cell 2
    have y3 : W5.cell? ⟨g7, 3, none⟩ = some (.int .i64 LN) := AW.cell 3
    have B5 : Hid (Below w3.heap.size w3 W5) := B.trans (BW.mono hz4)
    have O5 := Lib.hid (ownsRow_keep O BW)
    have AG := Lib.hid AW
    have FL5 := Lib.hid FL5
    have hF2' := Lib.hid hF2
    have hs := Lib.hid hs
    clear O B BW FL AW zW hb hz4 hz5 hF1 hF2
    go_wp2_with fail
    clear e1 e2 f0 f1 f2 f3 f4 f5 f6 f7 y0 y1 y2 y3 c0 c1 c2 c3 i1 hg7
    refine HF1.out.mono ?_
    rintro e w6 ⟨vo, vn, vc, rfl, SV, B6⟩
    obtain ⟨FK, hFK⟩ : ∃ K, Hid (stg F1.key = K) := ⟨_, rfl⟩
    obtain ⟨FLn, hFLn⟩ : ∃ K, Hid (F1.line = K) := ⟨_, rfl⟩
    rw [hFK.out, hFLn.out]
    obtain ⟨V2, W7, e1, e2, AW, BW, zW, f0, f1, f2, f3, f4, f5⟩ := new_put3 w6 63 (.string ⟨#[]⟩) (.slice none 0 0) (.int .i64 0) (.string FK) (.slice vo vn vc) (.int .i64 FLn)
    obtain ⟨g8, hg8⟩ : ∃ g, w6.heap.size = g := ⟨_, rfl⟩
    rw [hg8] at AW e2 f0 f1 f2 f3 f4 f5
    have hg8le : Hid (w3.heap.size <= g8) := by show _ <= _; rw [<- hg8]; exact Nat.le_trans B5.out.size B6.size
    have BW5 : Below W5.heap.size W5 W7 := B6.trans (BW.mono B6.size)
    have z5 := B5.out.size
    have B7 : Hid (Below w3.heap.size w3 W7) := B5.out.trans (BW5.mono z5)
    have O7 := Lib.hid (ownsRow_keep O5.out BW5)
    have AG7 := Lib.hid (AG.out.kept BW5)
    have FL7 := Lib.hid (FL5.out.keep (stable_low _) (keeps_low (BW5.mono z5)))
    have SV7 := Lib.hid (Row.keep SV (stable_low _) (keeps_low (BW.mono (Nat.le_trans z5 B6.size))))
    have AH7 := Lib.hid AW
    have y1 : W7.cell? ⟨g8, 1, none⟩ = some (.slice vo vn vc) := AW.cell 1
    have hvl : Hid (F1.vals.length = vn) := StrL.len SV
    have hvcap := Row.cap SV
    have hvroom := Row.room SV
    obtain ⟨X, hX⟩ : ∃ X, precGo PN F1.line U F1.vals = X := ⟨_, rfl⟩
    have hX0 : Hid (X = precGo PN F1.line (U ++ F1.vals.take 0) (F1.vals.drop 0)) := by show _ = _; rw [List.take_zero, List.append_nil]; exact hX.symm
    have hs2 := hs.out
    rw [hX] at hs2
    replace hs2 := Lib.hid hs2
    clear HF1 B5 O5 AG FL5 SV B6 AW BW zW BW5 z5 hs hX
    go_wp2_with fail
    clear e1 e2 f0 f1 f2 f3 f4 f5 y1 hg8
    go_loopw [5, 10, 29] (fun u _ ii wr => ∃ (i : Nat) (uo : Option Addr) (uc k : Nat), i <= vn /\ ii = .int .i64 (i : Int) /\ u = .slice uo k uc /\ wr.ownsRow w3.heap.size 9 1 (.slice uo k uc) k ((U ++ F1.vals.take i).map fun v => .string (stg v)) /\ Arr wr g7 55 [.string KD, .string KN, .slice fo fn fc, .int .i64 LN] /\ Arr wr g8 63 [.string FK, .slice vo vn vc, .int .i64 FLn] /\ Below w3.heap.size w3 wr /\ Hid (X = precGo PN F1.line (U ++ F1.vals.take i) (F1.vals.drop i))) (fun _ _ ii _ => vn - (intOf ii).toNat)
    case atStart => exact ⟨0, _, _, _, Nat.zero_le _, rfl, rfl, by rw [List.take_zero, List.append_nil]; exact O7.out, AG7.out, AH7.out, B7.out, hX0.out⟩
    case round =>
     obtain ⟨w8, hw8⟩ : ∃ x, x = wr := ⟨_, rfl⟩
     subst hw8
     clear O7 AG7 AH7 hX0
     obtain ⟨i, uo2, uc2, k, hi, rfl, rfl, O, AG, AH, B, HX2⟩ := hrel
     have hkl : Hid ((U ++ F1.vals.take i).length = k) := by
      have h1 := O.1
      rw [List.length_map, Nat.mul_one] at h1
      exact h1
     have hkb : k <= 4000000 := by
      have h1 := hUl.out
      have h2 := hkl.out
      rw [List.length_append] at h1 h2
      rw [List.length_take] at h2
      omega
     have HPc := fun v => sContains_c PN v po pn pc w8 (Row.keep PLl.out (stable_low _) (keeps_low B))
     have HUc := fun v => sContains_c (U ++ F1.vals.take i) v uo2 k uc2 w8 (Row.own O (by decide))
     have SVw := Row.keep SV7.out (stable_low _) (keeps_low2 B7.out B)
     have y2 : w8.cell? ⟨g8, 2, none⟩ = some (.int .i64 FLn) := AH.cell 2
     by_cases hlt2 : i < vn
     . have hlt2' : (i : Int) < (vn : Int) := by omega
       obtain ⟨v, a2, hv, i2, d1⟩ := StrL.get SVw i hlt2
       have hs3 := HX2.out
       rw [prec_step hv] at hs3
       have HPv := HPc v
       have HUv := HUc v
       have hsn : Hid ((U ++ F1.vals.take (i + 1)).map (fun v => Value.string (stg v)) = (U ++ F1.vals.take i).map (fun v => Value.string (stg v)) ++ [.string (stg v)]) := by
        show _ = _
        rw [take_snoc hv, <- List.append_assoc, List.map_append, List.map_singleton]
       obtain ⟨K, hK⟩ : ∃ K, Hid (stg v = K) := ⟨_, rfl⟩
       rw [hK.out] at d1 HPv HUv hsn
       obtain ⟨zp, hzp⟩ : ∃ z, PN.contains v = z := ⟨_, rfl⟩
       obtain ⟨zu, hzu⟩ : ∃ z, (U ++ F1.vals.take i).contains v = z := ⟨_, rfl⟩
       rw [hzp, hzu] at hs3
       rw [hzp] at HPv
       rw [hzu] at HUv
       replace HPv := Lib.hid HPv
       replace HUv := Lib.hid HUv
       clear hzp hzu HPc HUc SVw hv HX2
       have hz : w3.heap.size <= w8.heap.size := B.size
       cases zp with
       | false =>
        replace hs3 : X = ((2, F1.line), U ++ F1.vals.take i) := hs3
        have hT : Hid (TE = (2, FLn)) := by
         show _ = _
         rw [hs2.out, hs3, if_pos (show ¬ ((2 : Nat) = 0) by decide), <- hFLn.out]
        clear hs3
        have BF0 : Below w.heap.size w w8 := HB3.out.trans (B.mono HB3.out.size)
        obtain ⟨Y, e9, r0, r1, BF, q0, q1, q2, q3⟩ := fault_box (A3.out.kept B) w BF0 hle.out (.int .i64 2) (.int .i64 FLn)
        replace BF := Lib.hid BF
        clear BF0 O AG AH B hz
        go_wp2_with fail
        refine HPv.out.mono ?_
        rintro e w9 ⟨rfl, rfl⟩
        clear HPv HUv
        go_wp2_with fail
        refine bodyPost_ret (v := .agg #[.int .i64 2, .int .i64 FLn]) (by simp [results, Tryz.results62, go_sem, r0, r1]) rfl ?_
        exact ⟨by rw [hT.out]; rfl, by first | exact BF.out | (rw [<- hbb]; exact BF.out)⟩
       | true =>
        cases zu with
        | true =>
         replace hs3 : X = ((3, F1.line), U ++ F1.vals.take i) := hs3
         have hT : Hid (TE = (3, FLn)) := by
          show _ = _
          rw [hs2.out, hs3, if_pos (show ¬ ((3 : Nat) = 0) by decide), <- hFLn.out]
         clear hs3
         have BF0 : Below w.heap.size w w8 := HB3.out.trans (B.mono HB3.out.size)
         obtain ⟨Y, e9, r0, r1, BF, q0, q1, q2, q3⟩ := fault_box (A3.out.kept B) w BF0 hle.out (.int .i64 3) (.int .i64 FLn)
         replace BF := Lib.hid BF
         clear BF0 O AG AH B hz
         go_wp2_with fail
         refine HPv.out.mono ?_
         rintro e w9 ⟨rfl, rfl⟩
         clear HPv
         go_wp2_with fail
         refine HUv.out.mono ?_
         rintro e w9 ⟨rfl, rfl⟩
         clear HUv
         go_wp2_with fail
         refine bodyPost_ret (v := .agg #[.int .i64 3, .int .i64 FLn]) (by simp [results, Tryz.results62, go_sem, r0, r1]) rfl ?_
         exact ⟨by rw [hT.out]; rfl, by first | exact BF.out | (rw [<- hbb]; exact BF.out)⟩
        | false =>
         replace hs3 : Hid (X = precGo PN F1.line (U ++ F1.vals.take (i + 1)) (F1.vals.drop (i + 1))) := hs3
         have AGh := Lib.hid AG
         have AHh := Lib.hid AH
         clear AG AH
         go_wp2_with fail
         refine HPv.out.mono ?_
         rintro e w9 ⟨rfl, rfl⟩
         clear HPv
         go_wp2_with fail
         refine HUv.out.mono ?_
         rintro e w9 ⟨rfl, rfl⟩
         clear HUv
         go_wp2_with (at_builtin; refine wpList_appK (vs := [.string K]) Tryz.underlying26 infoS3 rfl (by decide) (by decide) O hz hkb rfl (by intro u hu; simp at hu; subst hu; rfl) rfl rfl ?_)
         intro ao9 d9 w9 O3 G3 B9
         have AG9 := Lib.hid (AGh.out.row O (by decide) G3)
         have AH9 := Lib.hid (AHh.out.row O (by decide) G3)
         have B4 : Hid (Below w3.heap.size w3 w9) := B.trans B9
         rw [<- hsn.out] at O3
         have O4 := Lib.hid O3
         clear O3 G3 B9 AGh AHh O hz y2 d1 i2
         go_wp2_with fail
         go_roundw
         case rel => exact ⟨i + 1, ao9, d9, k + 1, by omega, by go_num, rfl, O4.out, AG9.out, AH9.out, B4.out, hs3.out⟩
         case measure => simp [intOf]; omega
     . have hlt2' : ¬ (i : Int) < (vn : Int) := by omega
       have hi2 : F1.vals.length <= i := by rw [hvl.out]; omega
       have hs3 := HX2.out
       rw [prec_end hi2] at hs3
       rw [List.take_of_length_le hi2] at O
       rw [List.take_of_length_le hi2] at hkl
       have hs4 := hs2.out
       rw [hs3, if_neg (show ¬ ((0 : Nat) ≠ 0) by decide)] at hs4
       clear hs2 hs3 HX2 HPc HUc SVw y2
       have y0 : w8.cell? ⟨g7, 0, none⟩ = some (.string KD) := AG.cell 0
       have y1 : w8.cell? ⟨g7, 1, none⟩ = some (.string KN) := AG.cell 1
       have y2 : w8.cell? ⟨g7, 2, none⟩ = some (.slice fo fn fc) := AG.cell 2
       have y3 : w8.cell? ⟨g7, 3, none⟩ = some (.int .i64 LN) := AG.cell 3
       have FL8 := FL7.out.keep (stable_low _) (keeps_low2 B7.out B)
       have HF2 := fieldOfB_c w3.heap.size b wContests fo fn fc w8 FL8 B.size
       rw [hF2'.out, hKD.out, hKN.out, hLN.out] at HF2
       replace HF2 : Hid (Calls Tryz.prog 115 #[.agg #[.string KD, .string KN, .slice fo fn fc, .int .i64 LN], .string ⟨#[99, 111, 110, 116, 101, 115, 116, 115]⟩] w8 fun e w' => ∃ vo vn vc, e = .returned (.agg #[.string (stg F2.key), .slice vo vn vc, .int .i64 F2.line]) /\ StrL (lowF w3.heap.size) w' vo vn vc F2.vals /\ Below w8.heap.size w8 w') := HF2
       have hs4 := Lib.hid hs4
       have hB8 := Lib.hid B
       have O8 := Lib.hid O
       have AHh := Lib.hid AH
       clear B O AG AH FL8 hkb hi2
       go_wp2_with fail
       refine HF2.out.mono ?_
       rintro e w9 ⟨xo, xn, xc, rfl, SX, B9⟩
       clear HF2
       obtain ⟨FK2, hFK2⟩ : ∃ K, Hid (stg F2.key = K) := ⟨_, rfl⟩
       obtain ⟨FL2, hFL2⟩ : ∃ K, Hid (F2.line = K) := ⟨_, rfl⟩
       rw [hFK2.out, hFL2.out]
       obtain ⟨W10, e2, hW, AJ, f0, f1, f2, f3, f4, f5⟩ := put_box3 (AHh.out.kept B9) (.string FK2) (.slice xo xn xc) (.int .i64 FL2)
       have B10 : Below w3.heap.size w3 W10 := by
        have h1 : Below w3.heap.size w3 w9 := hB8.out.trans (B9.mono hB8.out.size)
        rw [hW.out]
        exact ((h1.setCell (p := ⟨_, 0, none⟩) hg8le.out _).setCell (p := ⟨_, 1, none⟩) hg8le.out _).setCell (p := ⟨_, 2, none⟩) hg8le.out _
       have O10 : Hid (W10.ownsRow w3.heap.size 9 1 (.slice uo2 k uc2) k ((U ++ F1.vals).map fun v => .string (stg v))) := by
        have h1 := ownsRow_keep O8.out B9
        have h2 := AHh.out.kept B9
        have hne := row_ne_box h1 h2 (by decide)
        rw [hW.out]
        exact ownsRow_set (ownsRow_set (ownsRow_set h1 (p := ⟨g8, 0, none⟩) hne _) (p := ⟨g8, 1, none⟩) hne _) (p := ⟨g8, 2, none⟩) hne _
       have SX10 : Hid (StrL (lowF w3.heap.size) W10 xo xn xc F2.vals) := Row.keep SX (stable_low _) (keeps_low2 (hB8.out.trans (B9.mono hB8.out.size)) B10)
       have hXl := Lib.hid (StrL.len SX)
       have hxcap := Row.cap SX
       have hxroom := Row.room SX
       have y1 : W10.cell? ⟨g8, 1, none⟩ = some (.slice xo xn xc) := AJ.cell 1
       have y2' : W10.cell? ⟨g8, 2, none⟩ = some (.int .i64 FL2) := AJ.cell 2
       replace B10 := Lib.hid B10
       clear SX B9 hW AJ AHh O8
       go_wp2_with fail
       clear e2 f0 f1 f2 f3 f4 f5 y0 y1 y2 y3
       go_loopw [12, 56] (fun _ ii wr => ∃ (t : Nat), t <= xn /\ ii = .int .i64 (t : Int) /\ W10 = wr /\ Hid (∀ s v, s < t -> F2.vals[s]? = some v -> CN.contains v = true)) (fun _ ii _ => xn - (intOf ii).toNat)
       case atStart => exact ⟨0, Nat.zero_le _, rfl, rfl, fun s v hs => absurd hs (Nat.not_lt_zero _)⟩
       case round =>
        obtain ⟨t, ht, rfl, hw, HA⟩ := hrel
        subst hw
        by_cases hlt3 : t < xn
        . have hlt3' : (t : Int) < (xn : Int) := by omega
          obtain ⟨v, a3, hv, i3, d3⟩ := StrL.get SX10.out t hlt3
          have HCv := sContains_c CN v co cn cc W10 (Row.keep CLl.out (stable_low _) (keeps_low B10.out))
          obtain ⟨K, hK⟩ : ∃ K, Hid (stg v = K) := ⟨_, rfl⟩
          rw [hK.out] at d3 HCv
          obtain ⟨z, hz⟩ : ∃ z, CN.contains v = z := ⟨_, rfl⟩
          rw [hz] at HCv
          replace HCv := Lib.hid HCv
          cases z with
          | false =>
           have hT : Hid (TE = (2, FL2)) := by
            show _ = _
            rw [hs4.out, cont_bad hv hz, if_pos (show (2 : Nat) ≠ 0 by decide), <- hFL2.out]
           have BF0 : Below w.heap.size w W10 := HB3.out.trans (B10.out.mono HB3.out.size)
           obtain ⟨Y, e9, r0, r1, BF, q0, q1, q2, q3⟩ := fault_box (A3.out.kept B10.out) w BF0 hle.out (.int .i64 2) (.int .i64 FL2)
           replace BF := Lib.hid BF
           clear BF0 hv hz
           go_wp2_with fail
           refine HCv.out.mono ?_
           rintro e w11 ⟨rfl, rfl⟩
           clear HCv
           go_wp2_with fail
           refine bodyPost_ret (v := .agg #[.int .i64 2, .int .i64 FL2]) (by simp [results, Tryz.results62, go_sem, r0, r1]) rfl ?_
           exact ⟨by rw [hT.out]; rfl, by first | exact BF.out | (rw [<- hbb]; exact BF.out)⟩
          | true =>
           have HA2 : Hid (∀ s v, s < t + 1 -> F2.vals[s]? = some v -> CN.contains v = true) := by
            intro s v' hs' hv'
            by_cases e : s = t
            . subst e
              rw [hv] at hv'
              injection hv' with hv'
              subst hv'
              exact hz
            . exact HA.out s v' (by omega) hv'
           clear hv hz HA
           go_wp2_with fail
           refine HCv.out.mono ?_
           rintro e w11 ⟨rfl, rfl⟩
           clear HCv
           go_wp2_with fail
           go_roundw
           case rel => exact ⟨t + 1, by omega, by go_num, by first | rfl | trivial, HA2.out⟩
           case measure => simp [intOf]; omega
        . have hlt3' : ¬ (t : Int) < (xn : Int) := by omega
          have hT : Hid (TE = stylesGo PN CN (U ++ F1.vals) (SB.drop (j + 1))) := by
           show _ = _
           have hk : contE CN F2.line F2.vals = (0, 0) := cont_ok fun s v hv => HA.out s v (by
            have h1 := hXl.out
            have h2 := (List.getElem?_eq_some_iff.1 hv).1
            omega) hv
           rw [hs4.out, hk, if_neg (show ¬ ((0 : Nat) ≠ 0) by decide)]
          obtain ⟨k2, hk2⟩ : ∃ q, k = q := ⟨_, rfl⟩
          have hkk : Hid (k = (U ++ F1.vals).length) := hkl.out.symm
          clear HA
          go_wp2_with fail
          go_roundw
          case rel => exact ⟨j + 1, uo2, uc2, U ++ F1.vals, by omega, by go_num, by rw [hkk.out], by rw [<- hkk.out]; exact O10.out, B10.out, hT.out, hUs.out⟩
          case measure => simp [intOf]; omega
  . have hlt' : ¬ (j : Int) < (sn : Int) := by omega
    have hs := HX.out
    rw [List.drop_eq_nil_of_le (by rw [hlen.out]; omega), stylesGo, hpl.out] at hs
    by_cases hm : U.length < pn
    . have b1 : decide ((U.length : Int) < (pn : Int)) = true := decide_eq_true (by omega)
      rw [if_pos hm] at hs
      have hT := Lib.hid hs
      have BF0 : Below w.heap.size w w4 := HB3.out.trans (B.mono HB3.out.size)
      obtain ⟨Y, e9, r0, r1, BF, q0, q1, q2, q3⟩ := fault_box (A3.out.kept B) w BF0 hle.out (.int .i64 6) (.int .i64 0)
      replace BF := Lib.hid BF
      clear BF0 O B hs
      go_wp2_with fail
      refine bodyPost_ret (v := .agg #[.int .i64 6, .int .i64 0]) (by simp [results, Tryz.results62, go_sem, r0, r1]) rfl ?_
      exact ⟨by rw [hT.out]; rfl, by first | exact BF.out | (rw [<- hbb]; exact BF.out)⟩
    . have b1 : decide ((U.length : Int) < (pn : Int)) = false := decide_eq_false (by omega)
      rw [if_neg hm] at hs
      have hT := Lib.hid hs
      have BF0 : Below w.heap.size w w4 := HB3.out.trans (B.mono HB3.out.size)
      obtain ⟨Y, e9, r0, r1, BF, q0, q1, q2, q3⟩ := fault_box (A3.out.kept B) w BF0 hle.out (.int .i64 0) (.int .i64 0)
      replace BF := Lib.hid BF
      clear BF0 O B hs
      go_wp2_with fail
      refine bodyPost_ret (v := .agg #[.int .i64 0, .int .i64 0]) (by simp [results, Tryz.results62, go_sem, r0, r1]) rfl ?_
      exact ⟨by rw [hT.out]; rfl, by first | exact BF.out | (rw [<- hbb]; exact BF.out)⟩
end Go.Proofs.YtemdkkphmldgjaaGreatDoor
namespace Go.Proofs.YtemdkkphmldgjaaGreatDoor
open Go.RowKit Lx
namespace Lx
theorem miss_at {bs : List SBlc} {j : Nat} {r : BRule} (h : blkRules[j]? = some r) (he : (ofKind r.kind bs).isEmpty = true) : missK bs = true := by
 unfold missK
 rw [List.any_eq_true]
 exact ⟨r, List.mem_of_getElem? h, he⟩
theorem miss_no {bs : List SBlc} (h : ∀ (t : Nat) r, blkRules[t]? = some r -> (ofKind r.kind bs).isEmpty = false) : missK bs = false := by
 unfold missK
 rw [List.any_eq_false]
 intro x hx
 obtain ⟨i, hi, rfl⟩ := List.mem_iff_getElem.1 hx
 rw [h i _ (List.getElem?_eq_getElem hi)]
 simp
structure SmallS (s : SSrc) : Prop where
 blks : s.blks.length <= 2000000
 short : ∀ b ∈ s.blks, shortBlc b
 prec : (precNames s.blks).length <= 4000000
 used : ((ofKind kStyle s.blks).flatMap fun b => (fldOr b kPrecincts).vals).length <= 4000000
end Lx
theorem below_new {v V : World} (h : Below v.heap.size v V) : Below v.heap.size v V := h
theorem below_X {U W V X : World} {g : Nat} {u0 u1 : Value} (h : Below U.heap.size U W) (k : Below W.heap.size W V) (hg : U.heap.size <= g) (hX : Hid (X = put2 V g u0 u1)) : Below U.heap.size U X := by
 rw [hX.out]
 exact below_put2 (h.trans (k.mono h.size)) hg u0 u1
theorem check_c (s : SSrc) (ao : Option Addr) (n c : Nat) (w : World) (h : BlkS anyF w ao n c s.blks) (hsm : SmallS s) (hT : Tabs w) :
    Calls Tryz.prog 27 #[.agg #[.string (stg s.title), .slice ao n c]] w fun e w' => e = .returned (.agg #[.int .i64 (((checkS s).1 : Nat) : Int), .int .i64 (checkS s).2]) /\ Below w.heap.size w w' := by
 obtain ⟨V, e1, AV, BV, hz⟩ := new_box w 24 [.string (stg s.title), .slice ao n c]
 obtain ⟨U, e2, AU, BU, hz2⟩ := new_box V 37 [.int .i64 0, .int .i64 0]
 have HL := Lib.hid ((h.below BV).below BU)
 have HT := Lib.hid ((hT.below BV).below BU)
 have hlen := Lib.hid h.len
 have hn2 : Hid (n <= 2000000) := by show _ <= _; rw [<- h.len]; exact hsm.blks
 obtain ⟨hcap, hroom⟩ := h.caps
 have HX := scText_c s.title 60 U (by omega)
 have HSt := fun w1 (hb : Below U.heap.size U w1) => checkStyles_c s.blks ao n c w1 (HL.out.below hb) hn2.out hsm.prec hsm.used
 obtain ⟨bb, hbb⟩ : ∃ b, w.heap.size = b := ⟨_, rfl⟩
 rw [hbb] at AV hz
 rw [hz] at AU
 have A0 := Lib.hid (AV.kept BU)
 have A1 := Lib.hid AU
 have HB : Hid (Below w.heap.size w U) := BV.trans (BU.mono BV.size)
 have hle : Hid (w.heap.size <= bb + 1) := by show _ <= _; omega
 obtain ⟨TE, hTE⟩ : ∃ T, checkS s = T := ⟨_, rfl⟩
 have hspec : TE = if !textB s.title 60 then (8, 0) else if (blksGo [] s.blks).1 ≠ 0 then blksGo [] s.blks else if missK s.blks then (6, 0) else stylesGo (precNames s.blks) (contNames s.blks) [] (ofKind kStyle s.blks) := hTE.symm
 rw [hTE]
 obtain ⟨TX, hTX⟩ : ∃ T, textB s.title 60 = T := ⟨_, rfl⟩
 rw [hTX] at hspec HX
 obtain ⟨KT, hKT⟩ : ∃ K, Hid (stg s.title = K) := ⟨_, rfl⟩
 rw [hKT.out] at e1 A0 HX
 rw [hKT.out]
 obtain ⟨ST, hST⟩ : ∃ T, stylesGo (precNames s.blks) (contNames s.blks) [] (ofKind kStyle s.blks) = T := ⟨_, rfl⟩
 rw [hST] at hspec HSt
 replace hST := Lib.hid hST
 have y0 : U.cell? ⟨bb, 0, none⟩ = some (.string KT) := A0.out.cell 0
 replace HX : Hid (Calls Tryz.prog 59 #[.string KT, .int .i64 60] U fun e w' => e = .returned (.bool TX) /\ Below U.heap.size U w') := HX
 replace HSt := Lib.hid HSt
 replace hsm := Lib.hid hsm
 clear hT AV AU BV BU hz2 h hTE hTX
 cases TX with
 | false =>
  replace hspec : Hid (TE = (8, 0)) := hspec
  go_enter Tryz.func27, Tryz.ntmps27
  go_wp2_with fail
  refine HX.out.mono ?_
  rintro e w1 ⟨rfl, B1⟩
  obtain ⟨Y, e9, r0, r1, BF, g0, g1, g2, g3⟩ := fault_box (A1.out.kept B1) w (HB.out.trans (B1.mono HB.out.size)) hle.out (.int .i64 8) (.int .i64 0)
  replace BF := Lib.hid BF
  clear HX B1
  go_wp2_with fail
  refine bodyPost_ret (v := .agg #[.int .i64 8, .int .i64 0]) (by simp [results, Tryz.results27, go_sem, r0, r1]) rfl ?_
  exact ⟨by rw [hspec.out]; rfl, by first | exact BF.out | (rw [<- hbb]; exact BF.out)⟩
 | true =>
  replace hspec : TE = if (blksGo [] s.blks).1 ≠ 0 then blksGo [] s.blks else if missK s.blks then (6, 0) else ST := hspec
  obtain ⟨X, hX⟩ : ∃ X, blksGo [] s.blks = X := ⟨_, rfl⟩
  have hX0 : Hid (X = blksGo (s.blks.take 0) (s.blks.drop 0)) := hX.symm
  rw [hX] at hspec
  replace hspec := Lib.hid hspec
  clear hX
  go_enter Tryz.func27, Tryz.ntmps27
  go_wp2_with fail
  refine HX.out.mono ?_
  rintro e w1 ⟨rfl, B1⟩
  have y4 : w1.cell? ⟨bb, 1, none⟩ = some (.slice ao n c) := (A0.out.kept B1).cell 1
  replace B1 := Lib.hid B1
  clear HX
  go_wp2_with fail
  clear e1 e2 y0 y4
  go_loopw [3, 4, 5, 16] (fun _ _ _ i wr => ∃ j : Nat, j <= n /\ i = .int .i64 (j : Int) /\ Below U.heap.size U wr /\ Hid (X = blksGo (s.blks.take j) (s.blks.drop j))) (fun _ _ _ i _ => n - (intOf i).toNat)
  case atStart => exact ⟨0, Nat.zero_le _, rfl, B1.out, hX0.out⟩
  case round =>
   obtain ⟨w2, hw2⟩ : ∃ x, x = wr := ⟨_, rfl⟩
   subst hw2
   clear B1 hX0
   obtain ⟨j, hj, rfl, B, HX⟩ := hrel
   by_cases hlt : j < n
   . have hlt' : (j : Int) < (n : Int) := by omega
     have hjc : (j : Int) <= (c : Int) := by omega
     have hj0 : (0 : Int) <= (j : Int) := by omega
     obtain ⟨b, a, fo, fn, fc, hb, i1, c0, c1, c2, c3, FL⟩ := (HL.out.below B).get j hlt
     have hs := HX.out
     rw [blks_step hb] at hs
     obtain ⟨V1, W1, e3, e4, AW, BW, zW, f0, f1, f2, f3, f4, f5, f6, f7⟩ := new_put4 w2 55 (.string ⟨#[]⟩) (.string ⟨#[]⟩) (.slice none 0 0) (.int .i64 0) (.string (stg b.kind)) (.string (stg b.name)) (.slice fo fn fc) (.int .i64 b.line)
     obtain ⟨p, hp⟩ : ∃ p, w2.heap.size = p := ⟨_, rfl⟩
     rw [hp] at AW e4 f0 f1 f2 f3 f4 f5 f6 f7
     have BW1 : Below U.heap.size U W1 := B.trans (BW.mono B.size)
     obtain ⟨V5, m5, AV5, BV5, zV5⟩ := new_box W1 37 [.int .i64 0, .int .i64 0]
     obtain ⟨q, hq⟩ : ∃ q, W1.heap.size = q := ⟨_, rfl⟩
     rw [hq] at AV5
     have BW5 : Below U.heap.size U V5 := BW1.trans (BV5.mono BW1.size)
     have hsh := hsm.out.short b (List.mem_of_getElem? hb)
     have HC1 := checkBlock_c (s.blks.take j) b ao fo j c fn fc W1.drew ((HL.out.below BW1.drew).take (by omega)) (by have := hn2.out; omega) (FL.below BW.drew) hsh (HT.out.below BW1.drew)
     have HC2 := checkBlock_c (s.blks.take j) b ao fo j c fn fc V5.drew ((HL.out.below BW5.drew).take (by omega)) (by have := hn2.out; omega) ((FL.below BW).below BV5.drew) hsh (HT.out.below BW5.drew)
     obtain ⟨FE, hFE⟩ : ∃ F, blockE (s.blks.take j) b = F := ⟨_, rfl⟩
     rw [hFE] at hs HC1 HC2
     obtain ⟨F1, hF1⟩ : ∃ F, ((FE.1 : Nat) : Int) = F := ⟨_, rfl⟩
     obtain ⟨F2, hF2⟩ : ∃ F, FE.2 = F := ⟨_, rfl⟩
     rw [hF1, hF2] at HC1 HC2
     obtain ⟨KK, hKK⟩ : ∃ K, Hid (stg b.kind = K) := ⟨_, rfl⟩
     obtain ⟨KN, hKN⟩ : ∃ K, Hid (stg b.name = K) := ⟨_, rfl⟩
     obtain ⟨LN, hLN⟩ : ∃ K, Hid (b.line = K) := ⟨_, rfl⟩
     rw [hKK.out] at c0 e4 AW f2 f3 f4 f5 f6 f7 HC1 HC2
     rw [hKN.out] at c1 e4 AW f4 f5 f6 f7 HC1 HC2
     rw [hLN.out] at c3 e4 AW HC1 HC2
     replace HC1 := Lib.hid HC1
     replace HC2 := Lib.hid HC2
     have AFd := Lib.hid AW
     have A2 := Lib.hid (A0.out.kept BW1)
     have A3 := Lib.hid (A1.out.kept BW1)
     have A5 := Lib.hid AV5
     have x1 : W1.cell? ⟨bb, 1, none⟩ = some (.slice ao n c) := A2.out.cell 1
     have z0 : W1.cell? ⟨p, 0, none⟩ = some (.string KK) := AFd.out.cell 0
     have z1 : W1.cell? ⟨p, 1, none⟩ = some (.string KN) := AFd.out.cell 1
     have z2 : W1.cell? ⟨p, 2, none⟩ = some (.slice fo fn fc) := AFd.out.cell 2
     have z3 : W1.cell? ⟨p, 3, none⟩ = some (.int .i64 LN) := AFd.out.cell 3
     have v1 : V5.drew.cell? ⟨bb, 1, none⟩ = some (.slice ao n c) := (A2.out.kept BV5).cell 1
     have v2 : V5.drew.cell? ⟨p, 0, none⟩ = some (.string KK) := (AFd.out.kept BV5).cell 0
     have v3 : V5.drew.cell? ⟨p, 1, none⟩ = some (.string KN) := (AFd.out.kept BV5).cell 1
     have v4 : V5.drew.cell? ⟨p, 2, none⟩ = some (.slice fo fn fc) := (AFd.out.kept BV5).cell 2
     have v5 : V5.drew.cell? ⟨p, 3, none⟩ = some (.int .i64 LN) := (AFd.out.kept BV5).cell 3
     have BD : Hid (Below U.heap.size U W1.drew) := BW1.drew
     have hqh : Hid (W1.heap.size <= q) := by show _ <= _; rw [hq]; exact Nat.le_refl _
     have BH5 : Hid (Below W1.heap.size W1 V5.drew) := BV5.drew
     have qle : Hid (U.heap.size <= q) := by show _ <= _; rw [<- hq]; exact BW1.size
     have BD5 : Hid (Below U.heap.size U V5.drew) := BW5.drew
     have hFF : Hid (((FE.1 : Nat) : Int) = F1 /\ FE.2 = F2) := ⟨hF1, hF2⟩
     replace hs := Lib.hid hs
     clear B AW BW zW BW1 hb FL hFE AV5 BV5 zV5 BW5 hsh hF1 hF2
     go_wp2_with fail
     clear e3 e4 f0 f1 f2 f3 f4 f5 f6 f7 c0 c1 c2 c3 i1
     go_region_held3 (fun w' => w'.cell? ⟨bb, 1, none⟩ = some (.slice ao n c) /\ w'.cell? ⟨p, 0, none⟩ = some (.string KK) /\ w'.cell? ⟨p, 1, none⟩ = some (.string KN) /\ w'.cell? ⟨p, 2, none⟩ = some (.slice fo fn fc) /\ w'.cell? ⟨p, 3, none⟩ = some (.int .i64 LN)) (go_keep) (first
       | (go_at_call 60; (with_reducible refine HC1.out.mono ?_); rintro e v9 ⟨rfl, B9⟩; have k0 := cell_keep (w := W1.drew) x1 B9; have k1 := cell_keep (w := W1.drew) z0 B9; have k2 := cell_keep (w := W1.drew) z1 B9; have k3 := cell_keep (w := W1.drew) z2 B9; have k4 := cell_keep (w := W1.drew) z3 B9; obtain ⟨V6, m6, AV6, BV6, zV6⟩ := new_box v9 37 [.int .i64 0, .int .i64 0]; have l0 := cell_keep k0 BV6; have l1 := cell_keep k1 BV6; have l2 := cell_keep k2 BV6; have l3 := cell_keep k3 BV6; have l4 := cell_keep k4 BV6; obtain ⟨X9, m7, hm7, AX, q0, q1, q2, q3⟩ := put_box2 AV6 (.int .i64 F1) (.int .i64 F2); have BX0 : Below v9.heap.size v9 X9 := below_X (Below.refl _ _) BV6 (Nat.le_refl _) hm7; have o0 := cell_keep k0 BX0; have o1 := cell_keep k1 BX0; have o2 := cell_keep k2 BX0; have o3 := cell_keep k3 BX0; have o4 := cell_keep k4 BX0; have BX := Lib.hid (below_X ((BD.out.trans (B9.mono BD.out.size))) (below_new BV6) (Nat.le_trans BD.out.size B9.size) hm7); obtain ⟨g5, hg5⟩ : ∃ g, v9.heap.size = g := ⟨_, rfl⟩; rw [hg5] at AX m7 q0 q1 q2 q3; clear AV6 BV6 zV6 hm7 BX0)
       | (go_at_call 60; (with_reducible refine HC2.out.mono ?_); rintro e v9 ⟨rfl, B9⟩; have k0 := cell_keep (w := V5.drew) v1 B9; have k1 := cell_keep (w := V5.drew) v2 B9; have k2 := cell_keep (w := V5.drew) v3 B9; have k3 := cell_keep (w := V5.drew) v4 B9; have k4 := cell_keep (w := V5.drew) v5 B9; obtain ⟨X9, m7, hm7, AX, q0, q1, q2, q3⟩ := put_box2 (Arr.kept (w := V5.drew) A5.out B9) (.int .i64 F1) (.int .i64 F2); have BX0 : Below W1.heap.size W1 X9 := below_X BH5.out B9 hqh.out hm7; have o0 := cell_keep x1 BX0; have o1 := cell_keep z0 BX0; have o2 := cell_keep z1 BX0; have o3 := cell_keep z2 BX0; have o4 := cell_keep z3 BX0; have BX := Lib.hid (below_X BD5.out B9 qle.out hm7); obtain ⟨g5, hg5⟩ : ∃ g, q = g := ⟨_, rfl⟩; rw [hg5] at AX m7 q0 q1 q2 q3; clear hm7 BX0))
     all_goals
       have u0 : X9.cell? ⟨g5, 0, none⟩ = some (.int .i64 F1) := AX.cell 0
       have u1 : X9.cell? ⟨g5, 1, none⟩ = some (.int .i64 F2) := AX.cell 1
       have qf : (F1 == 0) = decide (FE.1 = 0) := by rw [<- hFF.out.1]; exact int_nat_eq FE.1 0 0 rfl
       by_cases h0 : FE.1 = 0
       . rw [decide_eq_true h0] at qf
         have qn : (F1 != 0) = false := by unfold bne; rw [qf]; rfl
         have hs2 : Hid (X = blksGo (s.blks.take (j + 1)) (s.blks.drop (j + 1))) := by show _ = _; rw [hs.out, if_neg (fun e => e h0)]
         clear h0 AX
         go_wp2_with fail
         go_roundw
         case rel => exact ⟨j + 1, by omega, by go_num, BX.out, hs2.out⟩
         case measure => simp [intOf]; omega
       . rw [decide_eq_false h0] at qf
         have qn : (F1 != 0) = true := by unfold bne; rw [qf]; rfl
         have hTE : Hid (TE = FE) := by
          show _ = _
          have hX : X = FE := by rw [hs.out, if_pos h0]
          rw [hspec.out, hX, if_pos h0]
         obtain ⟨Y, e9, r0, r1, BF, g0, g1, g2, g3⟩ := fault_box (A1.out.kept BX.out) w (HB.out.trans (BX.out.mono HB.out.size)) hle.out (.int .i64 F1) (.int .i64 F2)
         replace BF := Lib.hid BF
         clear h0 AX
         go_wp2_with fail
         refine bodyPost_ret (v := .agg #[.int .i64 F1, .int .i64 F2]) (by simp [results, Tryz.results27, go_sem, r0, r1]) rfl ?_
         exact ⟨by rw [hTE.out, hFF.out.1, hFF.out.2], by first | exact BF.out | (rw [<- hbb]; exact BF.out)⟩
   . have hlt' : ¬ (j : Int) < (n : Int) := by omega
     have hs : X = (0, 0) := by rw [HX.out]; exact blks_end (by rw [hlen.out]; omega)
     have hs2 := hspec.out
     rw [hs] at hs2
     replace hs2 : Hid (TE = if missK s.blks then (6, 0) else ST) := hs2
     obtain ⟨tt, fr, hg⟩ := (HT.out.below B).blk
     replace hg := Lib.hid hg
     have B1 := Lib.hid B
     clear B hs HX hspec
     go_wp2_with (with_reducible refine wpList_load_row rfl 113 _ rfl 0 rfl tt bCells.toArray fr _ hg.out Tryz.underlying113 rfl (by kernel_rfl) ?_)
     go_loopw [7, 33] (fun _ i wr => ∃ j : Nat, j <= 7 /\ i = .int .i64 (j : Int) /\ Below U.heap.size U wr /\ Hid (∀ (t : Nat) r, t < j -> blkRules[t]? = some r -> (ofKind r.kind s.blks).isEmpty = false)) (fun _ i _ => 7 - (intOf i).toNat)
     case atStart => exact ⟨0, Nat.zero_le _, rfl, B1.out, fun t g ht => absurd ht (by omega)⟩
     case round =>
      obtain ⟨w3, hw3⟩ : ∃ x, x = wr := ⟨_, rfl⟩
      subst hw3
      clear B1
      obtain ⟨i, hi, rfl, B, HZ⟩ := hrel
      by_cases hlt2 : i < 7
      . have hlt2' : (i : Int) < 7 := by omega
        obtain ⟨r, hr⟩ : ∃ r, blkRules[i]? = some r := ⟨_, List.getElem?_eq_getElem (by show i < 7; exact hlt2)⟩
        have hI := blk_index i r hr
        replace hr := Lib.hid hr
        obtain ⟨U2, W1, e3, e4, AW, BW, zW, f0, f1, f2, f3, f4, f5⟩ := new_put3 w3 112 (.string ⟨#[]⟩) (.int .i64 0) (.bool false) (.string (stg r.kind)) (.int .i64 r.most) (.bool r.named)
        obtain ⟨p, hp⟩ : ∃ p, w3.heap.size = p := ⟨_, rfl⟩
        rw [hp] at AW e4 f0 f1 f2 f3 f4 f5
        have BW1 : Below U.heap.size U W1 := B.trans (BW.mono B.size)
        have HK := ofKind_c s.blks r.kind ao n c W1 (HL.out.below BW1) hn2.out
        obtain ⟨RB, hRB⟩ : ∃ R, ofKind r.kind s.blks = R := ⟨_, rfl⟩
        rw [hRB] at HK
        obtain ⟨KK, hKK⟩ : ∃ K, Hid (stg r.kind = K) := ⟨_, rfl⟩
        rw [hKK.out] at hI e4 AW f2 f3 f4 f5 HK
        replace HK := Lib.hid HK
        have y0 : W1.cell? ⟨p, 0, none⟩ = some (.string KK) := AW.cell 0
        have x1 : W1.cell? ⟨bb, 1, none⟩ = some (.slice ao n c) := (A0.out.kept BW1).cell 1
        have BD : Hid (Below U.heap.size U W1) := BW1
        replace hRB := Lib.hid hRB
        clear B AW BW zW BW1
        go_wp2_with fail
        clear e3 e4 f0 f1 f2 f3 f4 f5 hI
        refine HK.out.mono ?_
        rintro e w5 ⟨ro, m, d, rfl, BL, B5⟩
        have hml : Hid (RB.length = m) := BL.len
        have B6 : Hid (Below U.heap.size U w5) := BD.out.trans (B5.mono BD.out.size)
        have qm := int_nat_eq m 0 0 rfl
        clear HK BL B5
        by_cases hm : m = 0
        . rw [decide_eq_true hm] at qm
          have hTE : Hid (TE = (6, 0)) := by
           show _ = _
           rw [hs2.out, miss_at hr.out (by rw [hRB.out]; exact List.isEmpty_iff.2 (List.eq_nil_of_length_eq_zero (by rw [hml.out]; exact hm)))]
           rfl
          obtain ⟨Y, e9, r0, r1, BF, g0, g1, g2, g3⟩ := fault_box (A1.out.kept B6.out) w (HB.out.trans (B6.out.mono HB.out.size)) hle.out (.int .i64 6) (.int .i64 0)
          replace BF := Lib.hid BF
          replace hm := Lib.hid hm
          go_wp2_with fail
          refine bodyPost_ret (v := .agg #[.int .i64 6, .int .i64 0]) (by simp [results, Tryz.results27, go_sem, r0, r1]) rfl ?_
          exact ⟨by rw [hTE.out]; rfl, by first | exact BF.out | (rw [<- hbb]; exact BF.out)⟩
        . rw [decide_eq_false hm] at qm
          have HZ2 : Hid (∀ (t : Nat) r, t < i + 1 -> blkRules[t]? = some r -> (ofKind r.kind s.blks).isEmpty = false) := by
           intro t r2 ht hr2
           by_cases e : t = i
           . subst e
             rw [hr.out] at hr2
             injection hr2 with hr2
             subst hr2
             rw [hRB.out]
             cases hE : RB with
             | nil => exact absurd (by rw [<- hml.out, hE]; rfl) hm
             | cons _ _ => rfl
           . exact HZ.out t r2 (by omega) hr2
          clear hm HZ
          go_wp2_with fail
          go_roundw
          case rel => exact ⟨i + 1, by omega, by go_num, B6.out, HZ2.out⟩
          case measure => simp [intOf]; omega
      . have hlt2' : ¬ (i : Int) < 7 := by omega
        have hTE : TE = ST := by
         rw [hs2.out, miss_no fun t r hr => HZ.out t r (by
          have h1 := (List.getElem?_eq_some_iff.1 hr).1
          have h2 : blkRules.length = 7 := rfl
          omega) hr]
         rfl
        have HK := HSt.out w3 B
        rw [<- hTE] at HK
        obtain ⟨T1, hT1⟩ : ∃ T, ((TE.1 : Nat) : Int) = T := ⟨_, rfl⟩
        obtain ⟨T2, hT2⟩ : ∃ T, TE.2 = T := ⟨_, rfl⟩
        rw [hT1, hT2] at HK
        replace HK := Lib.hid HK
        have x1 : w3.cell? ⟨bb, 1, none⟩ = some (.slice ao n c) := (A0.out.kept B).cell 1
        have HT12 : Hid (((TE.1 : Nat) : Int) = T1 /\ TE.2 = T2) := ⟨hT1, hT2⟩
        replace B := Lib.hid B
        clear hTE hT1 hT2 HZ hs2
        go_wp2_with fail
        refine HK.out.mono ?_
        rintro e w5 ⟨rfl, B5⟩
        have B6 : Below U.heap.size U w5 := B.out.trans (B5.mono B.out.size)
        obtain ⟨Y, e9, r0, r1, BF, g0, g1, g2, g3⟩ := fault_box (A1.out.kept B6) w (HB.out.trans (B6.mono HB.out.size)) hle.out (.int .i64 T1) (.int .i64 T2)
        replace BF := Lib.hid BF
        clear HK B5 B6
        go_wp2_with fail
        refine bodyPost_ret (v := .agg #[.int .i64 T1, .int .i64 T2]) (by simp [results, Tryz.results27, go_sem, r0, r1]) rfl ?_
        exact ⟨by rw [HT12.out.1, HT12.out.2], by first | exact BF.out | (rw [<- hbb]; exact BF.out)⟩
end Go.Proofs.YtemdkkphmldgjaaGreatDoor
