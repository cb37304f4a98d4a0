/-
  Texts of the proof, put together: SchHead SchPn SchIdx SchChk.
-/
import Derived.Laws.AppendOwnNone
import Derived.Test.YtemdkkphmldgjaaGreatDoorPkA6
import Derived.Test.YtemdkkphmldgjaaGreatDoorPkA17
set_option maxRecDepth 100000
set_option maxHeartbeats 6400000
namespace Go.Proofs.YtemdkkphmldgjaaGreatDoor
open Go.RowKit Lx
theorem infoS3 : (Tryz.prog.info? 9).map (fun i => (i.zero, i.size, i.bytes)) = some (some (.string ⟨#[]⟩), 1, 16) := by kernel_rfl
theorem namesOf_w (bs : List SBlc) (ao : Option Addr) (n c : Nat) (w : World) (h : BlkS anyF w ao n c bs) (hn : n <= 2000000) :
    Calls Tryz.prog 117 #[.slice ao n c] w fun e w' => ∃ ro m d, e = .returned (.slice ro m d) /\ StrL (ownF w.heap.size [9]) w' ro m d (namesOf bs) /\ Below w.heap.size w w' := by
 obtain ⟨hcap, hroom⟩ := h.caps
 have hlen := Lib.hid h.len
 have H := Lib.hid h.low
 clear h
 go_enter Tryz.func117, Tryz.ntmps117
 go_wp2_with fail
 go_loopw [3, 5, 8] (fun v _ i wr => ∃ (j : Nat) (ro : Option Addr) (d : Nat), j <= n /\ i = .int .i64 (j : Int) /\ v = .slice ro j d /\ wr.ownsRow w.heap.size 9 1 (.slice ro j d) j ((namesOf (bs.take j)).map fun v => .string (stg v)) /\ Below w.heap.size w wr) (fun _ _ i _ => n - (intOf i).toNat)
 case atStart => exact ⟨0, none, 0, Nat.zero_le _, rfl, rfl, World.ownsRow_nil _ _ _ _, Below.refl _ _⟩
 case round =>
  obtain ⟨w1, hw1⟩ : ∃ x, x = wr := ⟨_, rfl⟩
  subst hw1
  obtain ⟨j, ro, d, hj, rfl, rfl, O, B⟩ := hrel
  by_cases hlt : j < n
  . have hlt' : (j : Int) < (n : Int) := by omega
    obtain ⟨b, a, fo, fn, fc, hb, i1, c0, c1, c2, c3, FL⟩ := (H.out.keep (stable_low _) (keeps_low B)).get j hlt
    obtain ⟨V, W1, e1, e2, AW, BW, zW, f0, f1, f2, f3, f4, f5, f6, f7⟩ := new_put4 w1 55 (.string ⟨#[]⟩) (.string ⟨#[]⟩) (.slice none 0 0) (.int .i64 0) (.string (stg b.kind)) (.string (stg b.name)) (.slice fo fn fc) (.int .i64 b.line)
    have y1 : W1.cell? ⟨w1.heap.size, 1, none⟩ = some (.string (stg b.name)) := AW.cell 1
    obtain ⟨K, hK⟩ : ∃ K, Hid (stg b.kind = K) := ⟨_, rfl⟩
    obtain ⟨N, hN⟩ : ∃ K, Hid (stg b.name = K) := ⟨_, rfl⟩
    rw [hK.out] at c0 e2 f2 f3 f4 f5 f6 f7
    rw [hN.out] at c1 e2 y1 f4 f5 f6 f7
    have B2 : Hid (Below w.heap.size w W1) := B.trans (BW.mono B.size)
    have O2 : Hid (W1.ownsRow w.heap.size 9 1 (.slice ro j d) j ((namesOf (bs.take j)).map fun v => .string (stg v))) := ownsRow_keep O BW
    have HS : Hid ((namesOf (bs.take (j + 1))).map (fun v => Value.string (stg v)) = (namesOf (bs.take j)).map (fun v => Value.string (stg v)) ++ [.string N]) := by
     show _ = _
     unfold namesOf
     rw [take_snoc hb, List.map_append, List.map_append, <- hN.out]
     rfl
    have hz : w.heap.size <= W1.heap.size := B2.out.size
    clear O B BW FL AW zW hb
    go_wp2_with (at_builtin; refine wpList_appK (vs := [.string N]) Tryz.underlying26 infoS3 rfl (by decide) (by decide) O2.out hz (by omega) rfl (by intro u hu; simp at hu; subst hu; rfl) rfl rfl ?_)
    intro ao3 d3 w3 O3 G3 B3
    have B4 : Hid (Below w.heap.size w w3) := B2.out.trans B3
    rw [<- HS.out] at O3
    have O4 := Lib.hid O3
    clear O3 G3 B3 e1 e2 f0 f1 f2 f3 f4 f5 f6 f7 y1 c0 c1 c2 c3 i1 hz
    go_wp2_with fail
    go_roundw
    case rel => exact ⟨j + 1, ao3, d3, by omega, by go_num, rfl, O4.out, B4.out⟩
    case measure => simp [intOf]; omega
  . have hlt' : ¬ (j : Int) < (n : Int) := by omega
    have hR : Hid (bs.take j = bs) := List.take_of_length_le (by have := hlen.out; omega)
    rw [hR.out] at O
    replace O := Lib.hid O
    replace B := Lib.hid B
    go_wp2_with fail
    go_ret
    exact ⟨ro, j, d, rfl, Row.own O.out (by decide), B.out⟩
theorem namesOf_c (bs : List SBlc) (ao : Option Addr) (n c : Nat) (w : World) (h : BlkS anyF w ao n c bs) (hn : n <= 2000000) :
    Calls Tryz.prog 117 #[.slice ao n c] w fun e w' => ∃ ro m d, e = .returned (.slice ro m d) /\ StrL anyF w' ro m d (namesOf bs) /\ Below w.heap.size w w' :=
 (namesOf_w bs ao n c w h hn).mono fun _ _ ⟨ro, m, d, h1, h2, h3⟩ => ⟨ro, m, d, h1, Row.mono h2 any_of, h3⟩
theorem contestNames_w (bs : List SBlc) (ao : Option Addr) (n c : Nat) (w : World) (h : BlkS anyF w ao n c bs) (hn : n <= 2000000) :
    Calls Tryz.prog 64 #[.slice ao n c] w fun e w' => ∃ ro m d, e = .returned (.slice ro m d) /\ (∃ B, w.heap.size <= B /\ StrL (ownF B [9]) w' ro m d (contNames bs)) /\ Below w.heap.size w w' := by
 have HK : Hid (Calls Tryz.prog 61 #[.slice ao n c, .string ⟨#[99, 111, 110, 116, 101, 115, 116]⟩] w fun e w' => ∃ ro m d, e = .returned (.slice ro m d) /\ BlkS anyF w' ro m d (ofKind kContest bs) /\ Below w.heap.size w w') := ofKind_c bs kContest ao n c w h hn
 have hlen := Lib.hid h.len
 clear h
 go_enter Tryz.func64, Tryz.ntmps64
 go_wp2_with fail
 refine HK.out.mono ?_
 rintro e w1 ⟨ro, m, d, rfl, BL, B1⟩
 have hle1 : Hid (w.heap.size <= w1.heap.size) := B1.size
 have HN := namesOf_w (ofKind kContest bs) ro m d w1 BL (by have h1 := BL.len; have h2 := ofKind_len kContest bs; have := hlen.out; omega)
 replace HN := Lib.hid HN
 replace B1 := Lib.hid B1
 clear HK BL
 go_wp2_with fail
 refine HN.out.mono ?_
 rintro e w2 ⟨ro2, m2, d2, rfl, SL, B2⟩
 replace B2 : Hid (Below w.heap.size w w2) := B1.out.trans (B2.mono B1.out.size)
 replace SL := Lib.hid SL
 clear HN
 go_wp2_with fail
 go_ret
 exact ⟨ro2, m2, d2, rfl, ⟨_, hle1.out, SL.out⟩, B2.out⟩
theorem contestNames_c (bs : List SBlc) (ao : Option Addr) (n c : Nat) (w : World) (h : BlkS anyF w ao n c bs) (hn : n <= 2000000) :
    Calls Tryz.prog 64 #[.slice ao n c] w fun e w' => ∃ ro m d, e = .returned (.slice ro m d) /\ StrL anyF w' ro m d (contNames bs) /\ Below w.heap.size w w' :=
 (contestNames_w bs ao n c w h hn).mono fun _ _ ⟨ro, m, d, h1, ⟨_, _, h2⟩, h3⟩ => ⟨ro, m, d, h1, Row.mono h2 any_of, h3⟩
namespace Lx
def namedE (most : Nat) (same : List SBlc) (name : List UInt8) : Nat := if name = [] then 6 else if 24 < name.length || !wordB name then 8 else if (namesOf same).contains name then 3 else if most <= same.length then 7 else 0
theorem headE_of (earlier : List SBlc) (b : SBlc) : headE earlier b = match blkRule b.kind with
 | none => 2
 | some r => if r.named then namedE r.most (ofKind b.kind earlier) b.name else if b.name ≠ [] then 2 else if r.most <= (ofKind b.kind earlier).length then 3 else 0 := rfl
end Lx
theorem checkNamed_c (r : BRule) (same : List SBlc) (name : List UInt8) (ao : Option Addr) (n c : Nat) (w : World) (h : BlkS anyF w ao n c same) (hn : n <= 2000000) :
    Calls Tryz.prog 167 #[.agg #[.string (stg r.kind), .int .i64 r.most, .bool r.named], .slice ao n c, .string (stg name)] w fun e w' => e = .returned (.int .i64 ((namedE r.most same name : Nat) : Int)) /\ Below w.heap.size w w' := by
 obtain ⟨V, e1, AV, BV, hz⟩ := new_box w 112 [.string (stg r.kind), .int .i64 r.most, .bool r.named]
 have HN := namesOf_c same ao n c
 have HL := h.below BV
 have hlen := Lib.hid h.len
 obtain ⟨hcap, hroom⟩ := h.caps
 have hsz : (stg name).size = name.length := by rw [<- bys_len, bys_stg]
 obtain ⟨E, hE⟩ : ∃ E, Hid (namedE r.most same name = E) := ⟨_, rfl⟩
 rw [hE.out]
 have hspec : E = if name = [] then 6 else if 24 < name.length || !wordB name then 8 else if (namesOf same).contains name then 3 else if r.most <= same.length then 7 else 0 := hE.out.symm
 obtain ⟨X1, hX1⟩ : ∃ K, Hid (stg r.kind = K) := ⟨_, rfl⟩
 obtain ⟨M1, hM1⟩ : ∃ M, Hid (((r.most : Nat) : Int) = M) := ⟨_, rfl⟩
 rw [hX1.out, hM1.out] at e1 AV
 rw [hX1.out, hM1.out]
 have A0 := Lib.hid AV
 have HB : Hid (Below w.heap.size w V) := BV
 clear h AV BV hz
 by_cases h0 : name = []
 . subst h0
   rw [if_pos rfl] at hspec
   replace hspec := Lib.hid hspec
   have t0 : (stg []).toList = [] := by rw [ByteArray.toList_eq]; rfl
   have t1 : (stg []).toList.isEmpty = true := by rw [t0]; rfl
   clear HN HL hsz
   go_enter Tryz.func167, Tryz.ntmps167
   go_wp2_with fail
   go_ret
   exact ⟨by rw [hspec.out]; rfl, HB.out⟩
 rw [if_neg h0] at hspec
 have hne : (stg name).toList ≠ [] := by rw [ByteArray.toList_eq]; exact h0
 have hie : (stg name).toList.isEmpty = false := by rw [List.isEmpty_eq_false_iff]; exact hne
 by_cases h1 : 24 < name.length
 . rw [decide_eq_true h1, Bool.true_or, if_pos rfl] at hspec
   replace hspec := Lib.hid hspec
   obtain ⟨K, hK⟩ : ∃ K, Hid (stg name = K) := ⟨_, rfl⟩
   rw [hK.out] at hsz hne hie |-
   have b1 : decide (24 < K.size) = true := decide_eq_true (by omega)
   have b2 : decide ((24 : Int) < (K.size : Int)) = true := decide_eq_true (by omega)
   have b3 : 24 < K.size := by omega
   clear HN HL hsz h0 h1
   go_enter Tryz.func167, Tryz.ntmps167
   go_wp2_with fail
   go_ret
   exact ⟨by rw [hspec.out]; rfl, HB.out⟩
 rw [decide_eq_false h1, Bool.false_or] at hspec
 have HW := scWord_c name V (by omega)
 have HC := fun (vs : List (List UInt8)) ao n c w2 h => sContains_c (S := anyF) vs name ao n c w2 h
 obtain ⟨K, hK⟩ : ∃ K, Hid (stg name = K) := ⟨_, rfl⟩
 rw [hK.out] at hsz hne hie HW HC |-
 have b1 : decide (24 < K.size) = false := decide_eq_false (by omega)
 have b2 : decide ((24 : Int) < (K.size : Int)) = false := decide_eq_false (by omega)
 have b3 : K.size <= 24 := by omega
 cases hw : wordB name with
 | false =>
  rw [hw] at hspec HW
  replace hspec : Hid (E = 8) := hspec
  replace HW := Lib.hid HW
  clear HN HL HC hsz h0 h1 hw
  go_enter Tryz.func167, Tryz.ntmps167
  go_wp2_with fail
  refine HW.out.mono ?_
  rintro e w1 ⟨rfl, B1⟩
  replace B1 : Hid (Below w.heap.size w w1) := HB.out.trans (B1.mono HB.out.size)
  clear HW
  go_wp2_with fail
  go_ret
  exact ⟨by rw [hspec.out]; rfl, B1.out⟩
 | true =>
  rw [hw] at hspec HW
  replace hspec : E = if (namesOf same).contains name then 3 else if r.most <= same.length then 7 else 0 := hspec
  obtain ⟨Z, hZ⟩ : ∃ Z, (namesOf same).contains name = Z := ⟨_, rfl⟩
  rw [hZ, hlen.out] at hspec
  have HC2 := fun ao n c w2 h => HC (namesOf same) ao n c w2 h
  rw [hZ] at HC2
  have HN2 := fun w1 (hb : Below V.heap.size V w1) => HN w1 (HL.below hb) hn
  replace HW := Lib.hid HW
  replace HC2 := Lib.hid HC2
  replace HN2 := Lib.hid HN2
  replace hspec := Lib.hid hspec
  clear HN HL HC hsz h0 h1 hw hZ
  go_enter Tryz.func167, Tryz.ntmps167
  go_wp2_with fail
  refine HW.out.mono ?_
  rintro e w1 ⟨rfl, B1⟩
  have HJ := Lib.hid (HN2.out w1 B1)
  have A1 := Lib.hid (A0.out.kept B1)
  replace B1 : Hid (Below w.heap.size w w1) := HB.out.trans (B1.mono HB.out.size)
  clear HW HN2
  go_wp2_with fail
  refine HJ.out.mono ?_
  rintro e w2 ⟨ro, m, d, rfl, SL, B2⟩
  have HJ := Lib.hid (HC2.out ro m d w2 SL)
  have A2 := Lib.hid (A1.out.kept B2)
  have y1 : w2.cell? ⟨w.heap.size, 1, none⟩ = some (.int .i64 M1) := A2.out.cell 1
  replace B2 : Hid (Below w.heap.size w w2) := B1.out.trans (B2.mono B1.out.size)
  clear HC2 SL
  cases Z with
  | true =>
   replace hspec : Hid (E = 3) := hspec.out
   go_wp2_with fail
   refine HJ.out.mono ?_
   rintro e w3 ⟨rfl, rfl⟩
   clear HJ
   go_wp2_with fail
   go_ret
   exact ⟨by rw [hspec.out]; rfl, B2.out⟩
  | false =>
   replace hspec : E = if r.most <= n then 7 else 0 := hspec.out
   by_cases h2 : r.most <= n
   . rw [if_pos h2] at hspec
     have b4 : decide (M1 <= (n : Int)) = true := decide_eq_true (by rw [<- hM1.out]; omega)
     replace hspec := Lib.hid hspec
     clear h2
     go_wp2_with fail
     refine HJ.out.mono ?_
     rintro e w3 ⟨rfl, rfl⟩
     clear HJ
     go_wp2_with fail
     go_ret
     exact ⟨by rw [hspec.out]; rfl, B2.out⟩
   . rw [if_neg h2] at hspec
     have b4 : decide (M1 <= (n : Int)) = false := decide_eq_false (by rw [<- hM1.out]; omega)
     replace hspec := Lib.hid hspec
     clear h2
     go_wp2_with fail
     refine HJ.out.mono ?_
     rintro e w3 ⟨rfl, rfl⟩
     clear HJ
     go_wp2_with fail
     go_ret
     exact ⟨by rw [hspec.out]; rfl, B2.out⟩
end Go.Proofs.YtemdkkphmldgjaaGreatDoor
namespace Go.Proofs.YtemdkkphmldgjaaGreatDoor
open Go.RowKit Lx
section
variable {w : World} {ops : Array Oper} {rest : List Oper} {a : Act} {Q : Exit -> Act -> World -> Prop} {d : Option Tmp} {p q : Operand} {ty : TypeId} {pos : String} {after : Array Edge}
theorem ownsRow_shape {E : TypeId} {s B n : Nat} {v : Value} {us : List Value} (h : w.ownsRow B E s v n us) : ∃ ao c, v = .slice ao n c := by
 rcases h.2 with ⟨hv, h0⟩ | ⟨g, cap, _, hv, _⟩
 . exact ⟨none, 0, by rw [hv, h0]⟩
 . exact ⟨_, cap, hv⟩
theorem wpList_appS {S : World -> Nat -> Prop} {B : Nat} {ao : Option Addr} {n c : Nat} {us : List Value} {bo : Option Addr} {m e : Nat} {ys : List (List UInt8)} (hO : w.ownsRow B 9 1 (.slice ao n c) n us) (hL : StrL S w bo m e ys) (hB : B <= w.heap.size) (hn : n + m <= 8000000)
    (hp : a.eval p = .slice ao n c) (hq : a.eval q = .slice bo m e)
    (h : ∀ ao' c' w', w'.ownsRow B 9 1 (.slice ao' (n + m) c') (n + m) (us ++ ys.map fun v => .string (stg v)) -> Below B w w' -> wpList Tryz.prog ops Q rest (a.put d (.slice ao' (n + m) c')) w') :
    wpList Tryz.prog ops Q (⟨d, .call { callee := .builtin .append, args := #[p, q], argTypes := #[26, 26] }, ty, pos, after, none⟩ :: rest) a w := by
 obtain ⟨i0, hi, hz0, hz1, hz2⟩ := info_parts infoS3
 have hlen := StrL.len hL
 cases bo with
 | none =>
  have hm0 : m = 0 := by
   rcases Nat.eq_zero_or_pos m with h1 | h1
   . exact h1
   . obtain ⟨a, ha⟩ := Row.isSome hL h1; cases ha
  have hc0 := Row.nil0 hL rfl
  subst hm0; subst hc0
  have hx0 : ys = [] := List.eq_nil_of_length_eq_zero hlen
  subst hx0
  refine wpList_append_own_none rfl p q 26 rfl B 9 i0 1 Tryz.underlying26 hi _ n _ hp hO hq ?_
  exact h ao c w (by simpa using hO) (Below.refl _ _)
 | some ad =>
  refine wpList_append_own w rfl p q 26 rfl B 9 i0 (.string ⟨#[]⟩) 1 16 Tryz.underlying26 hi hz0 hz1 hz2 rfl (by decide) _ n _ hp hO ad m e (ys.map fun v => .string (stg v)) hq (by simp [hlen]) ?_ ?_ (by unfold maxLen; omega) (by omega) hB ?_
  . intro j u hj
    exact (Row.cell hL j u hj).1
  . intro u hu
    obtain ⟨_, _, rfl⟩ := List.mem_map.1 hu
    rfl
  . intro v' w' ho' hg _
    obtain ⟨av, cv, hv⟩ := ownsRow_shape ho'
    subst hv
    exact h av cv w' ho' ((Below.refl _ _).grown hg hB (fun k hk => (World.ownsRow.lt hO k hk).1))
end
namespace Lx
theorem precN_snoc {bs : List SBlc} {j : Nat} {b : SBlc} (h : bs[j]? = some b) : (bs.take (j + 1)).flatMap (fun b => valuesOf b wNames) = (bs.take j).flatMap (fun b => valuesOf b wNames) ++ (fldOr b wNames).vals := by
 rw [take_snoc h, List.flatMap_append, List.flatMap_cons, List.flatMap_nil, List.append_nil, valuesOf_or]
theorem precN_le (bs : List SBlc) (j : Nat) : ((bs.take j).flatMap fun b => valuesOf b wNames).length <= (bs.flatMap fun b => valuesOf b wNames).length := by
 conv => rhs; rw [<- List.take_append_drop j bs, List.flatMap_append, List.length_append]
 omega
end Lx
theorem precinctNames_w (bs : List SBlc) (ao : Option Addr) (n c : Nat) (w : World) (h : BlkS anyF w ao n c bs) (hn : n <= 2000000) (hp : (precNames bs).length <= 4000000) :
    Calls Tryz.prog 63 #[.slice ao n c] w fun e w' => ∃ ro m d, e = .returned (.slice ro m d) /\ (∃ B, w.heap.size <= B /\ StrL (ownF B [9]) w' ro m d (precNames bs)) /\ Below w.heap.size w w' := by
 have HK : Hid (Calls Tryz.prog 61 #[.slice ao n c, .string ⟨#[112, 114, 101, 99, 105, 110, 99, 116, 115]⟩] w fun e w' => ∃ ro m d, e = .returned (.slice ro m d) /\ BlkS anyF w' ro m d (ofKind kPrecincts bs) /\ Below w.heap.size w w') := ofKind_c bs kPrecincts ao n c w h hn
 have hp2 : Hid ((precNames bs).length <= 4000000) := hp
 clear h hp
 go_enter Tryz.func63, Tryz.ntmps63
 go_wp2_with fail
 refine HK.out.mono ?_
 rintro e w1 ⟨so, m, d, rfl, BL, B1⟩
 obtain ⟨PB, hPB⟩ : ∃ P, Hid (ofKind kPrecincts bs = P) := ⟨_, rfl⟩
 have hPN : Hid (precNames bs = PB.flatMap fun b => valuesOf b wNames) := by show _ = _; rw [<- hPB.out]; rfl
 rw [hPB.out] at BL
 have hlen := Lib.hid BL.len
 obtain ⟨hcap, hroom⟩ := BL.caps
 replace BL := Lib.hid BL
 replace B1 := Lib.hid B1
 clear HK
 go_wp2_with fail
 go_loopw [3, 5, 9] (fun v _ i wr => ∃ (j : Nat) (ro : Option Addr) (k e : Nat), j <= m /\ i = .int .i64 (j : Int) /\ v = .slice ro k e /\ wr.ownsRow w1.heap.size 9 1 (.slice ro k e) k (((PB.take j).flatMap fun b => valuesOf b wNames).map fun v => .string (stg v)) /\ Below w1.heap.size w1 wr) (fun _ _ i _ => m - (intOf i).toNat)
 case atStart => exact ⟨0, none, 0, 0, Nat.zero_le _, rfl, rfl, World.ownsRow_nil _ _ _ _, Below.refl _ _⟩
 case round =>
  obtain ⟨w2, hw2⟩ : ∃ x, x = wr := ⟨_, rfl⟩
  subst hw2
  obtain ⟨j, ro, k, e, hj, rfl, rfl, O, B⟩ := hrel
  by_cases hlt : j < m
  . have hlt' : (j : Int) < (m : Int) := by omega
    obtain ⟨b, a, fo, fn, fc, hb, i1, c0, c1, c2, c3, FL⟩ := (BL.out.below B).get j hlt
    obtain ⟨V, W1, e1, e2, AW, BW, zW, f0, f1, f2, f3, f4, f5, f6, f7⟩ := new_put4 w2 55 (.string ⟨#[]⟩) (.string ⟨#[]⟩) (.slice none 0 0) (.int .i64 0) (.string (stg b.kind)) (.string (stg b.name)) (.slice fo fn fc) (.int .i64 b.line)
    have y0 : W1.cell? ⟨w2.heap.size, 0, none⟩ = some (.string (stg b.kind)) := AW.cell 0
    have y1 : W1.cell? ⟨w2.heap.size, 1, none⟩ = some (.string (stg b.name)) := AW.cell 1
    have y2 : W1.cell? ⟨w2.heap.size, 2, none⟩ = some (.slice fo fn fc) := AW.cell 2
    have y3 : W1.cell? ⟨w2.heap.size, 3, none⟩ = some (.int .i64 b.line) := AW.cell 3
    have HF := fieldOf_c b wNames fo fn fc W1 (FL.below BW)
    obtain ⟨K, hK⟩ : ∃ K, Hid (stg b.kind = K) := ⟨_, rfl⟩
    obtain ⟨N, hN⟩ : ∃ K, Hid (stg b.name = K) := ⟨_, rfl⟩
    obtain ⟨LN, hLN⟩ : ∃ K, Hid (b.line = K) := ⟨_, rfl⟩
    rw [hK.out] at c0 e2 f2 f3 f4 f5 f6 f7 y0 HF
    rw [hN.out] at c1 e2 y1 f4 f5 f6 f7 HF
    rw [hLN.out] at c3 e2 y3 HF
    have B2 : Hid (Below w1.heap.size w1 W1) := B.trans (BW.mono B.size)
    have O2 : Hid (W1.ownsRow w1.heap.size 9 1 (.slice ro k e) k (((PB.take j).flatMap fun b => valuesOf b wNames).map fun v => .string (stg v))) := ownsRow_keep O BW
    have HS := Lib.hid (precN_snoc hb)
    have hkl : Hid (((PB.take j).flatMap fun b => valuesOf b wNames).length = k) := by
     have h1 := O.1
     rw [List.length_map, Nat.mul_one] at h1
     exact h1
    have hle2 : Hid (((PB.take (j + 1)).flatMap fun b => valuesOf b wNames).length <= 4000000) := by
     show _ <= _
     have h1 := precN_le PB (j + 1)
     have h2 := hp2.out
     rw [hPN.out] at h2
     omega
    replace HF : Hid (Calls Tryz.prog 115 #[.agg #[.string K, .string N, .slice fo fn fc, .int .i64 LN], .string ⟨#[110, 97, 109, 101, 115]⟩] W1 fun e w' => ∃ vo vn vc, e = .returned (.agg #[.string (stg (fldOr b wNames).key), .slice vo vn vc, .int .i64 (fldOr b wNames).line]) /\ StrL anyF w' vo vn vc (fldOr b wNames).vals /\ Below W1.heap.size W1 w') := HF
    clear O B BW FL AW zW hb
    go_wp2_with fail
    clear e1 e2 f0 f1 f2 f3 f4 f5 f6 f7 y0 y1 y2 y3 c0 c1 c2 c3 i1
    refine HF.out.mono ?_
    rintro e w3 ⟨vo, vn, vc, rfl, SL, B3⟩
    have hfd := field_1 (.string (stg (fldOr b wNames).key)) (.int .i64 (fldOr b wNames).line) vo vn vc
    have B4 : Hid (Below w1.heap.size w1 w3) := B2.out.trans (B3.mono B2.out.size)
    have O4 := Lib.hid (ownsRow_keep O2.out B3)
    have hvl : Hid ((fldOr b wNames).vals.length = vn) := StrL.len SL
    have hsum : k + vn <= 8000000 := by
     have h1 := hle2.out
     rw [HS.out, List.length_append, hkl.out, hvl.out] at h1
     omega
    have hz : w1.heap.size <= w3.heap.size := B4.out.size
    have SL := Lib.hid SL
    clear HF B3
    go_wp2_with (at_builtin; refine wpList_appS O4.out SL.out hz hsum rfl rfl ?_)
    intro ao3 d3 w4 O5 B5
    have B6 : Hid (Below w1.heap.size w1 w4) := B4.out.trans B5
    rw [<- List.map_append, <- HS.out] at O5
    have O6 := Lib.hid O5
    clear O5 B5 hz
    go_wp2_with fail
    go_roundw
    case rel => exact ⟨j + 1, ao3, k + vn, d3, by omega, by go_num, rfl, O6.out, B6.out⟩
    case measure => simp [intOf]; omega
  . have hlt' : ¬ (j : Int) < (m : Int) := by omega
    have hR : Hid (PB.take j = PB) := List.take_of_length_le (by have := hlen.out; omega)
    rw [hR.out, <- hPN.out] at O
    have BF : Hid (Below w.heap.size w w2) := B1.out.trans (B.mono B1.out.size)
    replace O := Lib.hid O
    clear B
    go_wp2_with fail
    go_ret
    exact ⟨ro, k, e, rfl, ⟨_, B1.out.size, Row.own O.out (by decide)⟩, BF.out⟩
theorem precinctNames_c (bs : List SBlc) (ao : Option Addr) (n c : Nat) (w : World) (h : BlkS anyF w ao n c bs) (hn : n <= 2000000) (hp : (precNames bs).length <= 4000000) :
    Calls Tryz.prog 63 #[.slice ao n c] w fun e w' => ∃ ro m d, e = .returned (.slice ro m d) /\ StrL anyF w' ro m d (precNames bs) /\ Below w.heap.size w w' :=
 (precinctNames_w bs ao n c w h hn hp).mono fun _ _ ⟨ro, m, d, h1, ⟨_, _, h2⟩, h3⟩ => ⟨ro, m, d, h1, Row.mono h2 any_of, h3⟩
end Go.Proofs.YtemdkkphmldgjaaGreatDoor
namespace Go.Proofs.YtemdkkphmldgjaaGreatDoor
open Go.RowKit Lx
theorem infoI3 : (Tryz.prog.info? 3).map (fun i => (i.zero, i.size, i.bytes)) = some (some (.int .i64 0), 1, 8) := by kernel_rfl
theorem indices_c {S1 S2 : World -> Nat -> Prop} (L vs : List (List UInt8)) (lo ao : Option Addr) (ln lc n c : Nat) (w : World) (hl : StrL S1 w lo ln lc L) (h : StrL S2 w ao n c vs) (hn : n <= 4000000) :
    Calls Tryz.prog 120 #[.slice lo ln lc, .slice ao n c] w fun e w' => ∃ ro m d, e = .returned (.slice ro m d) /\ IntL .i64 (ownF w.heap.size [3]) w' ro m d (vs.map (idxI L)) /\ Below w.heap.size w w' := by
 have hcap := Row.cap h
 have hroom := Row.room h
 have hlen := Lib.hid (StrL.len h)
 have H := Lib.hid (Row.low (Row.mono h any_of))
 have HLs := Lib.hid (Row.low (Row.mono hl any_of))
 clear h hl
 go_enter Tryz.func120, Tryz.ntmps120
 go_wp2_with fail
 go_loopw [5, 7, 10] (fun v _ i wr => ∃ (j : Nat) (ro : Option Addr) (d : Nat), j <= n /\ i = .int .i64 (j : Int) /\ v = .slice ro j d /\ wr.ownsRow w.heap.size 3 1 (.slice ro j d) j ((vs.take j).map fun v => .int .i64 (idxI L v)) /\ Below w.heap.size w wr) (fun _ _ i _ => n - (intOf i).toNat)
 case atStart => exact ⟨0, none, 0, Nat.zero_le _, rfl, rfl, World.ownsRow_nil _ _ _ _, Below.refl _ _⟩
 case round =>
  obtain ⟨w1, hw1⟩ : ∃ x, x = wr := ⟨_, rfl⟩
  subst hw1
  obtain ⟨j, ro, d, hj, rfl, rfl, O, B⟩ := hrel
  by_cases hlt : j < n
  . have hlt' : (j : Int) < (n : Int) := by omega
    obtain ⟨v, a, hv, i1, c1⟩ := StrL.get (Row.keep H.out (stable_low _) (keeps_low B)) j hlt
    have HI := sIndex_c L v lo ln lc w1 (Row.keep HLs.out (stable_low _) (keeps_low B))
    obtain ⟨R, hR⟩ : ∃ R, Hid (idxI L v = R) := ⟨_, rfl⟩
    rw [hR.out] at HI
    have HS : Hid ((vs.take (j + 1)).map (fun v => Value.int .i64 (idxI L v)) = (vs.take j).map (fun v => Value.int .i64 (idxI L v)) ++ [.int .i64 R]) := by
     show _ = _
     rw [take_snoc hv, List.map_append, <- hR.out]
     rfl
    obtain ⟨K, hK⟩ : ∃ K, Hid (stg v = K) := ⟨_, rfl⟩
    rw [hK.out] at c1 HI
    replace HI := Lib.hid HI
    have hz : w.heap.size <= w1.heap.size := B.size
    clear hv
    go_wp2_with fail
    refine HI.out.mono ?_
    rintro e w2 ⟨rfl, rfl⟩
    clear HI
    go_wp2_with (at_builtin; refine wpList_appK (vs := [.int .i64 R]) Tryz.underlying58 infoI3 rfl (by decide) (by decide) O hz (by omega) rfl (by intro u hu; simp at hu; subst hu; rfl) rfl rfl ?_)
    intro ao3 d3 w3 O3 G3 B3
    have B4 : Hid (Below w.heap.size w w3) := B.trans B3
    rw [<- HS.out] at O3
    have O4 := Lib.hid O3
    clear O3 G3 B3 c1 i1 hz O B
    go_wp2_with fail
    go_roundw
    case rel => exact ⟨j + 1, ao3, d3, by omega, by go_num, rfl, O4.out, B4.out⟩
    case measure => simp [intOf]; omega
  . have hlt' : ¬ (j : Int) < (n : Int) := by omega
    have hR : Hid (vs.take j = vs) := List.take_of_length_le (by have := hlen.out; omega)
    rw [hR.out] at O
    have O2 : Hid (IntL .i64 (ownF w.heap.size [3]) w1 ro j d (vs.map (idxI L))) := by
     show Row _ _ _ _ _ _ _
     have := Row.own O (by decide)
     rw [List.map_map]
     exact this
    replace B := Lib.hid B
    clear O
    go_wp2_with fail
    go_ret
    exact ⟨ro, j, d, rfl, O2.out, B.out⟩
theorem sClone_c {S : World -> Nat -> Prop} (vs : List (List UInt8)) (ao : Option Addr) (n c : Nat) (w : World) (h : StrL S w ao n c vs) (hn : n <= 8000000) :
    Calls Tryz.prog 92 #[.slice ao n c] w fun e w' => ∃ ro m d, e = .returned (.slice ro m d) /\ StrL (ownF w.heap.size [9]) w' ro m d vs /\ Below w.heap.size w w' := by
 cases ao with
 | none =>
  have hx : vs = [] := by
   have h1 := Row.nil0 h rfl
   have h2 := Row.cap h
   have h3 := StrL.len h
   exact List.eq_nil_of_length_eq_zero (by omega)
  subst hx
  exact (Tryz.slices_Clone_string_nil n c w).mono fun e w' ⟨h1, h2⟩ => ⟨none, 0, 0, h1, Row.nil _ _ _, by rw [h2]; exact Below.refl _ _⟩
 | some a =>
  have q26 := fun (w : World) (a : Option Addr) (n c n' c' : Nat) => Lib.run_eql_slice_nil (P := Tryz.prog) w 26 _ a n c n' c' Tryz.underlying26
  have OM : (w.alloc (.cells #[] 9)).ownsRow w.heap.size 9 1 (.slice (some ⟨w.heap.size, 0, none⟩) 0 0) 0 [] := World.ownsRow_made w #[] 0 (Nat.le_refl _) (Nat.zero_le _) rfl
  obtain ⟨V, e1, AV, BV, hz⟩ := new_box w 9 []
  rw [show w.alloc (.cells #[] 9) = V from e1] at OM
  have H := Row.keep (Row.low (Row.mono h any_of)) (stable_low _) (keeps_low BV)
  have HB : Hid (Below w.heap.size w V) := BV
  have hzV : w.heap.size <= V.heap.size := BV.size
  clear h AV BV hz
  go_enter Tryz.func92, Tryz.ntmps92
  go_wp2_with (at_builtin; refine wpList_appS OM H hzV (by omega) rfl rfl ?_)
  intro ro d w2 O2 B2
  rw [Nat.zero_add] at O2
  have O3 : Hid (StrL (ownF w.heap.size [9]) w2 ro n d vs) := Row.own O2 (by decide)
  have B3 : Hid (Below w.heap.size w w2) := HB.out.trans B2
  clear O2 B2 OM H hzV
  go_wp2_with fail
  go_ret
  exact ⟨ro, n, d, rfl, O3.out, B3.out⟩
end Go.Proofs.YtemdkkphmldgjaaGreatDoor
namespace Go.Proofs.YtemdkkphmldgjaaGreatDoor
open Go.RowKit Lx
theorem checkNumber_c (r : FRule) (v : List UInt8) (w : World) (hv : v.length <= 1000000) (hT : Tabs w) :
    Calls Tryz.prog 218 #[.agg #[.string (stg r.kind), .string (stg r.key), .int .i64 r.form, .int .i64 r.least, .int .i64 r.most], .string (stg v)] w fun e w' => e = .returned (.int .i64 ((numE r v : Nat) : Int)) /\ Below w.heap.size w w' := by
 obtain ⟨V, e1, AV, BV, hz⟩ := new_box w 212 [.string (stg r.kind), .string (stg r.key), .int .i64 r.form, .int .i64 r.least, .int .i64 r.most]
 have HN := scNumber_c v V hv
 have HI := fun hn w1 hb => scInt_c v w1 (Or.inr hn) ((hT.below BV).below hb)
 obtain ⟨R, hR⟩ : ∃ R, Hid (numE r v = R) := ⟨_, rfl⟩
 rw [hR.out]
 have A0 := Lib.hid AV
 have HB : Hid (Below w.heap.size w V) := BV
 obtain ⟨K, hK⟩ : ∃ K, Hid (stg v = K) := ⟨_, rfl⟩
 obtain ⟨Vn, hVn⟩ : ∃ K, Hid (numV v = K) := ⟨_, rfl⟩
 rw [hK.out] at HN HI |-
 rw [hVn.out] at HI
 cases hn : numB v with
 | false =>
  rw [hn] at HN
  have h5 : Hid (R = 5) := by show _ = _; rw [<- hR.out]; unfold numE; rw [hn]; rfl
  replace HN := Lib.hid HN
  clear HI hT AV BV hz hn hv
  go_enter Tryz.func218, Tryz.ntmps218
  go_wp2_with fail
  refine HN.out.mono ?_
  rintro e w1 ⟨rfl, B1⟩
  replace B1 : Hid (Below w.heap.size w w1) := HB.out.trans (B1.mono HB.out.size)
  clear HN
  go_wp2_with fail
  go_ret
  exact ⟨by rw [h5.out]; rfl, B1.out⟩
 | true =>
  rw [hn] at HN
  have hlt := num_lt hn
  rw [hVn.out] at hlt
  have hE : Hid (R = if Vn < r.least || r.most < Vn then 4 else 0) := by
   show _ = _
   rw [<- hR.out]
   unfold numE
   rw [hn, hVn.out]
   rfl
  replace HI := Lib.hid (HI hn)
  replace HN := Lib.hid HN
  clear hT AV BV hz hn hv
  obtain ⟨M1, hM1⟩ : ∃ M, Hid (((r.least : Nat) : Int) = M) := ⟨_, rfl⟩
  obtain ⟨M2, hM2⟩ : ∃ M, Hid (((r.most : Nat) : Int) = M) := ⟨_, rfl⟩
  by_cases h1 : Vn < r.least
  . have hE4 : Hid (R = 4) := by show _ = _; rw [hE.out, decide_eq_true h1]; rfl
    have b1 : decide ((Vn : Int) < M1) = true := decide_eq_true (by rw [<- hM1.out]; omega)
    rw [hM1.out, hM2.out] at e1 A0
    rw [hM1.out, hM2.out]
    clear h1
    go_enter Tryz.func218, Tryz.ntmps218
    go_wp2_with fail
    refine HN.out.mono ?_
    rintro e w1 ⟨rfl, B1⟩
    have HJ := Lib.hid (HI.out w1 B1)
    have A1 := Lib.hid (A0.out.kept B1)
    replace B1 : Hid (Below w.heap.size w w1) := HB.out.trans (B1.mono HB.out.size)
    clear HN HI
    go_wp2_with fail
    refine HJ.out.mono ?_
    rintro e w2 ⟨rfl, B2⟩
    have y3 : w2.cell? ⟨w.heap.size, 3, none⟩ = some (.int .i64 M1) := (A1.out.kept B2).cell 3
    replace B2 : Hid (Below w.heap.size w w2) := B1.out.trans (B2.mono B1.out.size)
    clear HJ
    go_wp2_with fail
    go_ret
    exact ⟨by rw [hE4.out]; rfl, B2.out⟩
  . have b1 : decide ((Vn : Int) < M1) = false := decide_eq_false (by rw [<- hM1.out]; omega)
    obtain ⟨z, hz4⟩ : ∃ z, decide (M2 < (Vn : Int)) = z := ⟨_, rfl⟩
    have hE4 : Hid (R = if z then 4 else 0) := by
     show _ = _
     rw [hE.out, decide_eq_false h1, Bool.false_or, <- hz4, <- hM2.out]
     by_cases h2 : r.most < Vn
     . rw [if_pos (decide_eq_true h2), decide_eq_true (show ((r.most : Nat) : Int) < (Vn : Int) by omega)]; rfl
     . rw [if_neg (by simpa using h2), decide_eq_false (show ¬ ((r.most : Nat) : Int) < (Vn : Int) by omega)]; rfl
    rw [hM1.out, hM2.out] at e1 A0
    rw [hM1.out, hM2.out]
    clear h1
    cases z with
    | true =>
     go_enter Tryz.func218, Tryz.ntmps218
     go_wp2_with fail
     refine HN.out.mono ?_
     rintro e w1 ⟨rfl, B1⟩
     have HJ := Lib.hid (HI.out w1 B1)
     have A1 := Lib.hid (A0.out.kept B1)
     replace B1 : Hid (Below w.heap.size w w1) := HB.out.trans (B1.mono HB.out.size)
     clear HN HI
     go_wp2_with fail
     refine HJ.out.mono ?_
     rintro e w2 ⟨rfl, B2⟩
     have y3 : w2.cell? ⟨w.heap.size, 3, none⟩ = some (.int .i64 M1) := (A1.out.kept B2).cell 3
     have y4 : w2.cell? ⟨w.heap.size, 4, none⟩ = some (.int .i64 M2) := (A1.out.kept B2).cell 4
     replace B2 : Hid (Below w.heap.size w w2) := B1.out.trans (B2.mono B1.out.size)
     clear HJ
     go_wp2_with fail
     go_ret
     exact ⟨by rw [hE4.out]; rfl, B2.out⟩
    | false =>
     go_enter Tryz.func218, Tryz.ntmps218
     go_wp2_with fail
     refine HN.out.mono ?_
     rintro e w1 ⟨rfl, B1⟩
     have HJ := Lib.hid (HI.out w1 B1)
     have A1 := Lib.hid (A0.out.kept B1)
     replace B1 : Hid (Below w.heap.size w w1) := HB.out.trans (B1.mono HB.out.size)
     clear HN HI
     go_wp2_with fail
     refine HJ.out.mono ?_
     rintro e w2 ⟨rfl, B2⟩
     have y3 : w2.cell? ⟨w.heap.size, 3, none⟩ = some (.int .i64 M1) := (A1.out.kept B2).cell 3
     have y4 : w2.cell? ⟨w.heap.size, 4, none⟩ = some (.int .i64 M2) := (A1.out.kept B2).cell 4
     replace B2 : Hid (Below w.heap.size w w2) := B1.out.trans (B2.mono B1.out.size)
     clear HJ
     go_wp2_with fail
     go_ret
     exact ⟨by rw [hE4.out]; rfl, B2.out⟩
end Go.Proofs.YtemdkkphmldgjaaGreatDoor
