/-
  DiskScript.
-/
import Derived.Test.YtbnomkcliejcaaaDskSt
import Derived.Test.YtbnomkcliejcaaaDskLaw4
namespace Go.Proofs.Ytbnomkcliejcaaa
open Go.RowKit Ds
attribute [local go_sem] Oper.semAt_some
set_option linter.unusedSimpArgs false

section
variable {w0 W W' : World} {g a m c q s l t n sc lc tc K : Nat} {d e : Dk} {r : Rf}
theorem Two.drew (h : Two w0 W g a m c q s l t n sc lc tc K d e r) : Two w0 W.drew g a m c q s l t n sc lc tc K d e r := h.below (Below.refl _ _).drew
end
/-- A call as it came in: where it lies, its kind, its number, its bytes, its bools. -/
structure OpAt (W : World) (P : Addr) (kd I : Int) (bo : Option Addr) (bn bc : Nat) (xs : List Int) (ko : Option Addr) (kn kc : Nat) (ks : List Bool) : Prop where
  c0 : W.cell? P = some (.int .i64 kd)
  c1 : W.cell? ⟨P.block, P.off + 1, none⟩ = some (.int .i64 I)
  c2 : W.cell? ⟨P.block, P.off + 2, none⟩ = some (.slice bo bn bc)
  c3 : W.cell? ⟨P.block, P.off + 3, none⟩ = some (.slice ko kn kc)
  low : -9223372036854775808 ≤ I
  high : I ≤ 9223372036854775807
  b : Lst .u8 W bo bn bc xs
  b0 : bo = none → bc = 0
  k : LstT W ko kn kc ks
  k0 : ko = none → kc = 0
/-- The calls as they came in. -/
structure OpsL (W : World) (ao : Option Addr) (n c : Nat) : Prop where
  cap : n ≤ c
  room : c ≤ 9223372036854775807
  isSome : 0 < n → ∃ a, ao = some a
  at_ : ∀ i, i < n → ∃ kd I bo bn bc xs ko kn kc ks, OpAt W (pt ao (i * 4)) kd I bo bn bc xs ko kn kc ks
theorem sizeOp : (Try.prog.info? 30).map (·.size) = some 4 := by kernel_rfl
theorem ixOp {W : World} {ao : Option Addr} {n c : Nat} (h : OpsL W ao n c) (i : Nat) (hi : i < n) : ∀ W, (Instr.indexAt 22 (.slice ao n c) (.int .i64 (i : Int))).run Try.prog W = .ok (.pointer (some (pt ao (i * 4)))) W := by
  intro W
  obtain ⟨a, rfl⟩ := h.isSome (by omega)
  obtain ⟨inf, hinf, hs⟩ := Option.map_eq_some_iff.1 sizeOp
  simp [Instr.indexAt, run_underlying Try.underlying22, asIntOf, sizeOf, typeInfo, hinf, hs, pt, hi]
theorem count8 (x : Int) : ∃ p : Nat, (IntKind.i64.wrap (x.tmod 8 + 8)).tmod 8 = (p : Int) ∧ p < 8 ∧ IntKind.i64.wrap (1 + (p : Int)) = ((1 + p : Nat) : Int) := by
  have h1 : -8 < x.tmod 8 := Int.lt_tmod_of_pos x (by omega)
  have h2 : x.tmod 8 < 8 := Int.tmod_lt_of_pos x (by omega)
  have hw : IntKind.i64.wrap (x.tmod 8 + 8) = x.tmod 8 + 8 := by rw [IntKind.wrap_i64]; omega
  rw [hw, Int.tmod_eq_emod_of_nonneg (by omega)]
  exact ⟨((x.tmod 8 + 8) % 8).toNat, by omega, by omega, by rw [IntKind.wrap_i64]; omega⟩
set_option maxHeartbeats 25600000 in
set_option maxRecDepth 100000 in
theorem scriptLaw_c (x : Int) (oo : Option Addr) (on oc : Nat) (w : World) (_h0 : -9223372036854775808 ≤ x) (_h1 : x ≤ 9223372036854775807) (hO : OpsL w oo on oc) :
    Calls Try.prog 3 #[.int .i64 x, .slice oo on oc] w fun e w' => e = .returned (.bool true) ∧ Below w.heap.size w w' := by
  obtain ⟨p, hp1, hp2, hp3⟩ := count8 x
  obtain ⟨N, hN⟩ : ∃ N, 1 + p = N := ⟨_, rfl⟩
  rw [hN] at hp3
  have e64 : ∀ z, wrap64 z = IntKind.i64.wrap z := fun z => by unfold wrap64; rw [IntKind.wrap_i64]
  have hq1 : (wrap64 (x.tmod 8 + 8)).tmod 8 = (p : Int) := by rw [e64]; exact hp1
  have hq3 : wrap64 (1 + (p : Int)) = (N : Int) := by rw [e64]; exact hp3
  clear e64
  have hN1 : 1 ≤ N := by omega
  have hN8 : N ≤ 8 := by omega
  have hNP := newN_c N hN1 (by omega) w
  have hNR : ∀ W, DskN w W (w.heap.size + 2) w.heap.size (w.heap.size + 1) N (Ds.blank N) → Calls Try.prog 9 #[.int .i64 (N : Int)] W fun e w' => ∃ s l t sc lc tc, e = .returned (.pointer (some ⟨W.heap.size, 0, none⟩)) ∧ Hid (Two w w' (w.heap.size + 2) w.heap.size (w.heap.size + 1) N W.heap.size s l t N sc lc tc 0 (Ds.blank N) (Ds.blank N) (Rf.blank N)) := fun W h => by
    have hz := h.bel.size
    exact (rnew_c N hN1 (by omega) W).mono fun _ _ ⟨s, l, t, sc, lc, tc, r1, r2, r3, r4, r5, r6⟩ => ⟨s, l, t, sc, lc, tc, r1, ⟨h.below r6, blank_ok hN1 (by omega), r2, rel_blank N, hz, by omega, by omega, by omega⟩⟩
  have HO := Lib.hid hO
  have hoc := hO.cap
  have hor := hO.room
  clear hO
  go_enter Try.func3, Try.ntmps3
  go_wp2_with (first
    | (go_at_call 8; (with_reducible refine hNP.mono ?_); rintro e w1 ⟨rfl, D1⟩; have hn2 := hNR w1 D1; clear hNR)
    | (go_at_call 9; (with_reducible refine hn2.mono ?_); rintro e w2 ⟨s, l, t, sc, lc, tc, rfl, T0⟩; clear hn2 D1))
  clear hNP hp1 hp3 hq1 hq3
  go_loopw [5, 6, 7, 8, 9, 10, 11, 12] (fun v5 v6 i _ _ _ _ _ wr => ∃ (j g a m c q s l t sc lc tc K : Nat) (d : Dk) (r : Rf), j ≤ 30 ∧ i = .int .i64 (j : Int) ∧ v5 = .pointer (some ⟨g, 0, none⟩) ∧ v6 = .pointer (some ⟨q, 0, none⟩) ∧ K ≤ j ∧ Hid (Two w wr g a m c q s l t N sc lc tc K d d r)) (fun _ _ i _ _ _ _ _ _ => 30 - (intOf i).toNat)
  case atStart => exact ⟨0, _, _, _, _, _, _, _, _, _, _, _, 0, _, _, by omega, rfl, rfl, rfl, by omega, T0⟩
  case round =>
    obtain ⟨u, hu⟩ : ∃ x, x = wr := ⟨_, rfl⟩
    subst hu
    obtain ⟨j, g, a, m, c, q, s, l, t, sc, lc, tc, K, d, r, hj, rfl, rfl, rfl, hKj, TU⟩ := hrel
    clear T0
    by_cases hlt : j < on ∧ j < 30
    · obtain ⟨l1, l2⟩ := hlt
      have l1' : (j : Int) < (on : Int) := by omega
      have l2' : (j : Int) < 30 := by omega
      have hix := ixOp HO.out j l1
      obtain ⟨kd, I, bo, bn, bc, xs, ko, kn, kc, ks, hop⟩ := HO.out.at_ j l1
      obtain ⟨P, hP⟩ : ∃ P, pt oo (j * 4) = P := ⟨_, rfl⟩
      rw [hP] at hix hop
      have cb : ∀ {A : Addr} {v : Value}, w.cell? A = some v → u.cell? A = some v := fun h => (World.cell?_of_block (TU.out.dn.bel.block _ (World.block_lt_of_cell? w _ h))).trans h
      have p0 := cb hop.c0
      have p1 := cb hop.c1
      have p2 := cb hop.c2
      have p3 := cb hop.c3
      clear cb hP
      obtain ⟨kb, hkb⟩ : ∃ k, min bn 70 = k := ⟨_, rfl⟩
      obtain ⟨kk, hkk⟩ : ∃ k, min kn 9 = k := ⟨_, rfl⟩
      have hminB : min (bn : Int) 70 = (kb : Int) := by omega
      have hkbn : kb ≤ bn := by omega
      have hcutB := cut8 bo bn bc kb (by have := hop.b.cap; omega) hop.b0
      have HLb := Lib.hid (hop.b.take hkbn)
      have h0b := Lib.hid hop.b0
      have hlb : Hid (∀ i, i < kb → (pt bo i).block < w.heap.size) := fun i hi => HLb.out.block i hi
      have HKk := Lib.hid (hop.k.take (show kk ≤ kn by omega))
      have h0k := Lib.hid hop.k0
      have hIl := Lib.hid hop.low
      have hIh := Lib.hid hop.high
      have hkc := Lib.hid hop.k.cap
      obtain ⟨V, eV⟩ : ∃ V, u.alloc (.cells #[.int .i64 kd, .int .i64 I, .slice bo kb bc, .slice ko kn kc] 30) = V := ⟨_, rfl⟩
      have AV : Arr V u.heap.size 30 [.int .i64 kd, .int .i64 I, .slice bo kb bc, .slice ko kn kc] := by rw [← eV]; exact Arr.new u _ _
      have BV : Below u.heap.size u V := by rw [← eV]; exact (Below.refl _ _).alloc (Nat.le_refl _) _
      have TV := Lib.hid (TU.out.below BV)
      have v0 : V.cell? ⟨u.heap.size, 0, none⟩ = some (.int .i64 kd) := AV.cell 0
      have v1 : V.cell? ⟨u.heap.size, 1, none⟩ = some (.int .i64 I) := AV.cell 1
      have v2 : V.cell? ⟨u.heap.size, 2, none⟩ = some (.slice bo kb bc) := AV.cell 2
      have v3 : V.cell? ⟨u.heap.size, 3, none⟩ = some (.slice ko kn kc) := AV.cell 3
      have hOlt := Lib.hid (show u.heap.size < V.heap.size ∧ u.heap.size ≠ g ∧ u.heap.size ≠ a ∧ u.heap.size ≠ m by have h1 := TU.out.dn.lt; have h2 := AV.lt; omega)
      clear hop AV BV hkb
      by_cases k0 : kd = 0
      · subst k0
        have hwP := writeP_c TV.out.drew I (HLb.out.below TV.out.dn.bel.drew) hlb.out
        obtain ⟨E, hE⟩ : ∃ E, (d.write I (xs.take kb)).1 = E := ⟨_, rfl⟩
        rw [hE] at hwP
        go_wp2_with fail
        refine wp_region_L [(5, fun w' => w'.cell? ⟨u.heap.size, 1, none⟩ = some (.int .i64 I) ∧ w'.cell? ⟨u.heap.size, 2, none⟩ = some (.slice bo kb bc)), (11, fun w' => w'.cell? ⟨u.heap.size, 1, none⟩ = some (.int .i64 I) ∧ w'.cell? ⟨u.heap.size, 2, none⟩ = some (.slice bo kb bc))] (by kernel_rfl) (fun c hc _ => by simp only [List.mem_cons, List.not_mem_nil, or_false] at hc; rcases hc with rfl | rfl; exact ⟨v1, v2⟩; exact ⟨v1, v2⟩) (fun hS => ?_)
        refine regL_pure (i := 0) rfl (by rfl) (by kernel_rfl) (by kernel_rfl) (by kernel_rfl) (fun _ _ _ h => h) (by rfl) hS (v := ?vr1) ?hyr1 ?rtr1
        case hyr1 => (intro w'; go_simp <;> try rfl)
        intro hS
        try simp only [Act.put, List.setIfInBounds_toArray, List.set_cons_zero, List.set_cons_succ]
        refine regL_pure (i := 1) rfl (by rfl) (by kernel_rfl) (by kernel_rfl) (by kernel_rfl) (fun _ _ _ h => h) (by rfl) hS (v := ?vr2) ?hyr2 ?rtr2
        case hyr2 => (intro w'; go_simp <;> try rfl)
        intro hS
        try simp only [Act.put, List.setIfInBounds_toArray, List.set_cons_zero, List.set_cons_succ]
        refine regL_take (i := 2) (5, fun w' => w'.cell? ⟨u.heap.size, 1, none⟩ = some (.int .i64 I) ∧ w'.cell? ⟨u.heap.size, 2, none⟩ = some (.slice bo kb bc)) rfl (by simp) (by rfl) (by kernel_rfl) (by rfl) (by kernel_rfl) (by kernel_rfl) (by kernel_rfl) (fun _ _ _ h => h) (by rfl) hS (v := ?vr3) ?hyr3 ?rtr3
        case hyr3 => (intro w' hc; dsimp only at hc; obtain ⟨z1, z2⟩ := hc; go_simp <;> try rfl)
        intro hS
        try simp only [Act.put, List.setIfInBounds_toArray, List.set_cons_zero, List.set_cons_succ]
        refine regL_pure (i := 3) rfl (by rfl) (by kernel_rfl) (by kernel_rfl) (by kernel_rfl) (fun _ _ _ h => h) (by rfl) hS (v := ?vr4) ?hyr4 ?rtr4
        case hyr4 => (intro w'; go_simp <;> try rfl)
        intro hS
        try simp only [Act.put, List.setIfInBounds_toArray, List.set_cons_zero, List.set_cons_succ]
        refine regL_take (i := 4) (5, fun w' => w'.cell? ⟨u.heap.size, 1, none⟩ = some (.int .i64 I) ∧ w'.cell? ⟨u.heap.size, 2, none⟩ = some (.slice bo kb bc)) rfl (by simp) (by rfl) (by kernel_rfl) (by rfl) (by kernel_rfl) (by kernel_rfl) (by kernel_rfl) (fun _ _ _ h => h) (by rfl) hS (v := ?vr5) ?hyr5 ?rtr5
        case hyr5 => (intro w' hc; dsimp only at hc; obtain ⟨z1, z2⟩ := hc; go_simp <;> try rfl)
        intro hS
        try simp only [Act.put, List.setIfInBounds_toArray, List.set_cons_zero, List.set_cons_succ]
        refine regL_pure (i := 6) rfl (by rfl) (by kernel_rfl) (by kernel_rfl) (by kernel_rfl) (fun _ _ _ h => h) (by rfl) hS (v := ?vr6) ?hyr6 ?rtr6
        case hyr6 => (intro w'; go_simp <;> try rfl)
        intro hS
        try simp only [Act.put, List.setIfInBounds_toArray, List.set_cons_zero, List.set_cons_succ]
        refine regL_pure (i := 7) rfl (by rfl) (by kernel_rfl) (by kernel_rfl) (by kernel_rfl) (fun _ _ _ h => h) (by rfl) hS (v := ?vr7) ?hyr7 ?rtr7
        case hyr7 => (intro w'; go_simp <;> try rfl)
        intro hS
        try simp only [Act.put, List.setIfInBounds_toArray, List.set_cons_zero, List.set_cons_succ]
        refine regL_take (i := 8) (11, fun w' => w'.cell? ⟨u.heap.size, 1, none⟩ = some (.int .i64 I) ∧ w'.cell? ⟨u.heap.size, 2, none⟩ = some (.slice bo kb bc)) rfl (by simp) (by rfl) (by kernel_rfl) (by rfl) (by kernel_rfl) (by kernel_rfl) (by kernel_rfl) (fun _ _ _ h => h) (by rfl) hS (v := ?vr8) ?hyr8 ?rtr8
        case hyr8 => (intro w' hc; dsimp only at hc; obtain ⟨z1, z2⟩ := hc; go_simp <;> try rfl)
        intro hS
        try simp only [Act.put, List.setIfInBounds_toArray, List.set_cons_zero, List.set_cons_succ]
        refine regL_pure (i := 9) rfl (by rfl) (by kernel_rfl) (by kernel_rfl) (by kernel_rfl) (fun _ _ _ h => h) (by rfl) hS (v := ?vr9) ?hyr9 ?rtr9
        case hyr9 => (intro w'; go_simp <;> try rfl)
        intro hS
        try simp only [Act.put, List.setIfInBounds_toArray, List.set_cons_zero, List.set_cons_succ]
        refine regL_take (i := 10) (11, fun w' => w'.cell? ⟨u.heap.size, 1, none⟩ = some (.int .i64 I) ∧ w'.cell? ⟨u.heap.size, 2, none⟩ = some (.slice bo kb bc)) rfl (by simp) (by rfl) (by kernel_rfl) (by rfl) (by kernel_rfl) (by kernel_rfl) (by kernel_rfl) (fun _ _ _ h => h) (by rfl) hS (v := ?vr10) ?hyr10 ?rtr10
        case hyr10 => (intro w' hc; dsimp only at hc; obtain ⟨z1, z2⟩ := hc; go_simp <;> try rfl)
        intro hS
        try simp only [Act.put, List.setIfInBounds_toArray, List.set_cons_zero, List.set_cons_succ]
        refine regL_ready (rs := [5]) (by kernel_rfl) (by simp) ?_
        refine regL_cons rfl (by rfl) (fun K hK => ?_) regL_nil
        go_simp
        go_at_call 10
        refine hwP.mono ?_
        rintro e w1 ⟨rfl, T1, o1⟩
        have q1 : w1.cell? ⟨u.heap.size, 1, none⟩ = some (.int .i64 I) := (World.cell?_of_block (o1.block _ hOlt.out.1 hOlt.out.2.1 hOlt.out.2.2.1 hOlt.out.2.2.2)).trans v1
        have q2 : w1.cell? ⟨u.heap.size, 2, none⟩ = some (.slice bo kb bc) := (World.cell?_of_block (o1.block _ hOlt.out.1 hOlt.out.2.1 hOlt.out.2.2.1 hOlt.out.2.2.2)).trans v2
        have hwR := writeR_c I T1 (by omega) (HLb.out.below T1.dn.bel) h0b.out hlb.out
        rw [hE] at hwR
        refine hK.out _ _ (fun c hc hl => by simp only [List.mem_cons, List.not_mem_nil, or_false] at hc; rcases hc with rfl | rfl; exact Bool.noConfusion (show true = false from hl); exact ⟨q1, q2⟩) ?_
        clear hK K
        intro hS
        try simp only [Act.put, List.setIfInBounds_toArray, List.set_cons_zero, List.set_cons_succ]
        refine regL_ready (rs := [11]) (by kernel_rfl) (by simp) ?_
        refine regL_cons rfl (by rfl) (fun K hK => ?_) regL_nil
        go_simp
        go_at_call 11
        refine hwR.mono ?_
        rintro e w2 ⟨rfl, r', T2⟩
        refine hK.out _ _ (fun c hc hl => by simp only [List.mem_cons, List.not_mem_nil, or_false] at hc; rcases hc with rfl | rfl; exact Bool.noConfusion (show true = false from hl); exact Bool.noConfusion (show true = false from hl)) ?_
        clear hK K
        intro hS
        try simp only [Act.put, List.setIfInBounds_toArray, List.set_cons_zero, List.set_cons_succ]
        refine regL_pure (i := 12) rfl (by rfl) (by kernel_rfl) (by kernel_rfl) (by kernel_rfl) (fun _ _ _ h => h) (by rfl) hS (v := ?vr11) ?hyr11 ?rtr11
        case hyr11 => (intro w'; go_simp <;> try rfl)
        intro hS
        try simp only [Act.put, List.setIfInBounds_toArray, List.set_cons_zero, List.set_cons_succ]
        refine regL_done (by kernel_rfl) ?_ _
        have hsm := same_c T2.dn.dsk T2.ok T2.rf T2.rel
        replace T2 := Lib.hid T2
        clear T1 o1 q1 q2 hwP hwR
        go_wp2_with (first
          | (go_at_call 21; (with_reducible refine hsm.mono ?_); rintro e w9 ⟨rfl, B9⟩; have T9 := Lib.hid (T2.out.below B9); clear B9 hsm))
        go_roundw
        case rel => exact ⟨j + 1, _, _, _, _, _, _, _, _, _, _, _, _, _, _, by omega, by go_num, rfl, rfl, by omega, T9⟩
        case measure => simp [intOf]; omega
      · have e0 : (kd == 0) = false := by simpa using k0
        by_cases k1 : kd = 1
        · subst k1
          cases hd : d.dead with
          | true =>
            have hr1 := readDown_c TV.out.dn.dsk hd I
            have hr2 := rreadDown_c TV.out.rf (by rw [TV.out.rel.gone]; exact hd) I
            have hE := eqT_c (Lst.nil .u8 V) (Lst.nil .u8 V)
            have TX := TV
            go_wp2_with (first
              | (go_at_call 12; (with_reducible refine hr1.mono ?_); rintro e w2 ⟨rfl, rfl⟩)
              | (go_at_call 13; (with_reducible refine hr2.mono ?_); rintro e w3 ⟨rfl, rfl⟩)
              | (go_at_call 14; (with_reducible refine hE.mono ?_); rintro e w4 ⟨rfl, E4⟩; have T4 := TX.out.below E4; have hsm := same_c T4.dn.dsk T4.ok T4.rf T4.rel; replace T4 := Lib.hid T4; clear E4 hE)
              | (go_at_call 21; (with_reducible refine hsm.mono ?_); rintro e w9 ⟨rfl, B9⟩; have T9 := Lib.hid (T4.out.below B9); clear B9 hsm))
            go_roundw
            case rel => exact ⟨j + 1, _, _, _, _, _, _, _, _, _, _, _, _, _, _, by omega, by go_num, rfl, rfl, by omega, T9⟩
            case measure => simp [intOf]; omega
          | false =>
            by_cases hx : 0 ≤ I ∧ I < N
            · obtain ⟨i, rfl⟩ : ∃ i : Nat, I = i := ⟨I.toNat, by omega⟩
              have hi : i < N := by omega
              have hr1 := read_c TV.out.dn.dsk TV.out.ok hd i hi
              have hgo : r.gone = false := by rw [TV.out.rel.gone]; exact hd
              go_wp2_with (first
                | (go_at_call 12; (with_reducible refine hr1.mono ?_); rintro e w2 ⟨ro, b, rfl, O2, B2⟩; have TX := TV.out.below B2; have x1 := (World.cell?_of_block (B2.block _ hOlt.out.1)).trans v1; have hr2 := rread_c TX.rf hgo i hi; have L2 := Lib.hid O2.lst; replace TX := Lib.hid TX; clear O2 B2 hr1)
                | (go_at_call 13; (with_reducible refine hr2.mono ?_); rintro e w3 ⟨v, rfl, hB, rfl⟩; obtain ⟨p, cc, rfl, LB, xx⟩ := hB; clear xx; rw [TX.out.rel.last] at LB; have hE := eqT_c L2.out LB; clear LB hr2)
                | (go_at_call 14; (with_reducible refine hE.mono ?_); rintro e w4 ⟨rfl, E4⟩; have T4 := TX.out.below E4; have hsm := same_c T4.dn.dsk T4.ok T4.rf T4.rel; replace T4 := Lib.hid T4; clear E4 hE)
                | (go_at_call 21; (with_reducible refine hsm.mono ?_); rintro e w9 ⟨rfl, B9⟩; have T9 := Lib.hid (T4.out.below B9); clear B9 hsm))
              go_roundw
              case rel => exact ⟨j + 1, _, _, _, _, _, _, _, _, _, _, _, _, _, _, by omega, by go_num, rfl, rfl, by omega, T9⟩
              case measure => simp [intOf]; omega
            · have hd' := hd
              have hr1 := readOut_c TV.out.dn.dsk TV.out.ok hd I hx
              have hr2 := rreadOut_c TV.out.rf (by rw [TV.out.rel.gone]; exact hd) I hx
              have hE := eqT_c (Lst.nil .u8 V) (Lst.nil .u8 V)
              have TX := TV
              go_wp2_with (first
                | (go_at_call 12; (with_reducible refine hr1.mono ?_); rintro e w2 ⟨rfl, rfl⟩)
                | (go_at_call 13; (with_reducible refine hr2.mono ?_); rintro e w3 ⟨rfl, rfl⟩)
                | (go_at_call 14; (with_reducible refine hE.mono ?_); rintro e w4 ⟨rfl, E4⟩; have T4 := TX.out.below E4; have hsm := same_c T4.dn.dsk T4.ok T4.rf T4.rel; replace T4 := Lib.hid T4; clear E4 hE)
                | (go_at_call 21; (with_reducible refine hsm.mono ?_); rintro e w9 ⟨rfl, B9⟩; have T9 := Lib.hid (T4.out.below B9); clear B9 hsm))
              go_roundw
              case rel => exact ⟨j + 1, _, _, _, _, _, _, _, _, _, _, _, _, _, _, by omega, by go_num, rfl, rfl, by omega, T9⟩
              case measure => simp [intOf]; omega
        · have e1 : (kd == 1) = false := by simpa using k1
          by_cases k2 : kd = 2
          · subst k2
            have hsP := syncP_c TV.out
            obtain ⟨E, hE⟩ : ∃ E, d.sync.1 = E := ⟨_, rfl⟩
            rw [hE] at hsP
            go_wp2_with (first
              | (go_at_call 15; (with_reducible refine hsP.mono ?_); rintro e w1 ⟨rfl, T1⟩; have hsR := syncR_c T1 (by omega); rw [hE] at hsR; clear T1 hsP)
              | (go_at_call 16; (with_reducible refine hsR.mono ?_); rintro e w2 ⟨rfl, r', T2⟩; have hsm := same_c T2.dn.dsk T2.ok T2.rf T2.rel; replace T2 := Lib.hid T2; clear hsR)
              | (go_at_call 21; (with_reducible refine hsm.mono ?_); rintro e w9 ⟨rfl, B9⟩; have T9 := Lib.hid (T2.out.below B9); clear B9 hsm))
            go_roundw
            case rel => exact ⟨j + 1, _, _, _, _, _, _, _, _, _, _, _, _, _, _, by omega, by go_num, rfl, rfl, by omega, T9⟩
            case measure => simp [intOf]; omega
          · have e2 : (kd == 2) = false := by simpa using k2
            by_cases k3 : kd = 3
            · subst k3
              have hfP := fuseP_c TV.out I
              go_wp2_with (first
                | (go_at_call 17; (with_reducible refine hfP.mono ?_); rintro e w1 ⟨rfl, T1, o1⟩; have q1 : w1.cell? ⟨u.heap.size, 1, none⟩ = some (.int .i64 I) := (World.cell?_of_block (o1.block _ hOlt.out.1 hOlt.out.2.1 hOlt.out.2.2.1 hOlt.out.2.2.2)).trans v1; have hfR := fuseR_c I T1 hIl.out hIh.out; clear T1 o1 hfP)
                | (go_at_call 18; (with_reducible refine hfR.mono ?_); rintro e w2 ⟨rfl, r', T2⟩; have hsm := same_c T2.dn.dsk T2.ok T2.rf T2.rel; replace T2 := Lib.hid T2; clear hfR)
                | (go_at_call 21; (with_reducible refine hsm.mono ?_); rintro e w9 ⟨rfl, B9⟩; have T9 := Lib.hid (T2.out.below B9); clear B9 hsm))
              go_roundw
              case rel => exact ⟨j + 1, _, _, _, _, _, _, _, _, _, _, _, _, _, _, by omega, by go_num, rfl, rfl, by omega, T9⟩
              case measure => simp [intOf]; omega
            · have e3 : (kd == 3) = false := by simpa using k3
              clear k0 k1 k2 k3
              have hcP := crashL_c TV.out.drew.dn TV.out.ok (HKk.out.below TV.out.dn.bel.drew)
              have hminK := fun ts ty W => run_min ts ty kn 9 W
              rw [hkk] at hminK
              have hcutK := cutT ko kn kc kk (by have := hkc.out; omega) h0k.out
              go_wp2_with fail
              refine wp_region_L [(19, fun w' => w'.cell? ⟨u.heap.size, 3, none⟩ = some (.slice ko kn kc) ∧ True)] (by kernel_rfl) (fun c hc _ => by simp only [List.mem_cons, List.not_mem_nil, or_false] at hc; subst hc; exact ⟨v3, trivial⟩) (fun hS => ?_)
              refine regL_pure (i := 0) rfl (by rfl) (by kernel_rfl) (by kernel_rfl) (by kernel_rfl) (fun _ _ _ h => h) (by rfl) hS (v := ?vr12) ?hyr12 ?rtr12
              case hyr12 => (intro w'; go_simp <;> try rfl)
              intro hS
              try simp only [Act.put, List.setIfInBounds_toArray, List.set_cons_zero, List.set_cons_succ]
              refine regL_pure (i := 1) rfl (by rfl) (by kernel_rfl) (by kernel_rfl) (by kernel_rfl) (fun _ _ _ h => h) (by rfl) hS (v := ?vr13) ?hyr13 ?rtr13
              case hyr13 => (intro w'; go_simp <;> try rfl)
              intro hS
              try simp only [Act.put, List.setIfInBounds_toArray, List.set_cons_zero, List.set_cons_succ]
              refine regL_take (i := 2) (19, fun w' => w'.cell? ⟨u.heap.size, 3, none⟩ = some (.slice ko kn kc) ∧ True) rfl (by simp) (by rfl) (by kernel_rfl) (by rfl) (by kernel_rfl) (by kernel_rfl) (by kernel_rfl) (fun _ _ _ h => h) (by rfl) hS (v := ?vr14) ?hyr14 ?rtr14
              case hyr14 => (intro w' hc; dsimp only at hc; obtain ⟨z1, z2⟩ := hc; go_simp <;> try rfl)
              intro hS
              try simp only [Act.put, List.setIfInBounds_toArray, List.set_cons_zero, List.set_cons_succ]
              refine regL_pure (i := 3) rfl (by rfl) (by kernel_rfl) (by kernel_rfl) (by kernel_rfl) (fun _ _ _ h => h) (by rfl) hS (v := ?vr15) ?hyr15 ?rtr15
              case hyr15 => (intro w'; go_simp <;> try rfl)
              intro hS
              try simp only [Act.put, List.setIfInBounds_toArray, List.set_cons_zero, List.set_cons_succ]
              refine regL_take (i := 4) (19, fun w' => w'.cell? ⟨u.heap.size, 3, none⟩ = some (.slice ko kn kc) ∧ True) rfl (by simp) (by rfl) (by kernel_rfl) (by rfl) (by kernel_rfl) (by kernel_rfl) (by kernel_rfl) (fun _ _ _ h => h) (by rfl) hS (v := ?vr16) ?hyr16 ?rtr16
              case hyr16 => (intro w' hc; dsimp only at hc; obtain ⟨z1, z2⟩ := hc; go_simp <;> try rfl)
              intro hS
              try simp only [Act.put, List.setIfInBounds_toArray, List.set_cons_zero, List.set_cons_succ]
              refine regL_pure (i := 5) rfl (by rfl) (by kernel_rfl) (by kernel_rfl) (by kernel_rfl) (fun _ _ _ h => h) (by rfl) hS (v := ?vr17) ?hyr17 ?rtr17
              case hyr17 => (intro w'; go_simp <;> try rfl)
              intro hS
              try simp only [Act.put, List.setIfInBounds_toArray, List.set_cons_zero, List.set_cons_succ]
              refine regL_pure (i := 6) rfl (by rfl) (by kernel_rfl) (by kernel_rfl) (by kernel_rfl) (fun _ _ _ h => h) (by rfl) hS (v := .int .i64 (kk : Int)) ?hyr18 ?rtr18
              case hyr18 => (intro w'; exact exec_minBy (X := .int .i64 (kn : Int)) (Y := .int .i64 9) (by rfl) (by rfl) (fun ts ty => hminK ts ty w'))
              intro hS
              try simp only [Act.put, List.setIfInBounds_toArray, List.set_cons_zero, List.set_cons_succ]
              refine regL_pure (i := 7) rfl (by rfl) (by kernel_rfl) (by kernel_rfl) (by kernel_rfl) (fun _ _ _ h => h) (by rfl) hS (v := .slice ko kk kc) ?hyr19 ?rtr19
              case hyr19 => (intro w'; exact exec_sliceBy (X := .slice ko kn kc) (Y := .int .i64 (kk : Int)) (by rfl) (by rfl) (hcutK w'))
              intro hS
              try simp only [Act.put, List.setIfInBounds_toArray, List.set_cons_zero, List.set_cons_succ]
              refine regL_pure (i := 9) rfl (by rfl) (by kernel_rfl) (by kernel_rfl) (by kernel_rfl) (fun _ _ _ h => h) (by rfl) hS (v := ?vr20) ?hyr20 ?rtr20
              case hyr20 => (intro w'; go_simp <;> try rfl)
              intro hS
              try simp only [Act.put, List.setIfInBounds_toArray, List.set_cons_zero, List.set_cons_succ]
              refine regL_pure (i := 10) rfl (by rfl) (by kernel_rfl) (by kernel_rfl) (by kernel_rfl) (fun _ _ _ h => h) (by rfl) hS (v := ?vr21) ?hyr21 ?rtr21
              case hyr21 => (intro w'; go_simp <;> try rfl)
              intro hS
              try simp only [Act.put, List.setIfInBounds_toArray, List.set_cons_zero, List.set_cons_succ]
              refine regL_take (i := 11) (19, fun w' => w'.cell? ⟨u.heap.size, 3, none⟩ = some (.slice ko kn kc) ∧ True) rfl (by simp) (by rfl) (by kernel_rfl) (by rfl) (by kernel_rfl) (by kernel_rfl) (by kernel_rfl) (fun _ _ _ h => h) (by rfl) hS (v := ?vr22) ?hyr22 ?rtr22
              case hyr22 => (intro w' hc; dsimp only at hc; obtain ⟨z1, z2⟩ := hc; go_simp <;> try rfl)
              intro hS
              try simp only [Act.put, List.setIfInBounds_toArray, List.set_cons_zero, List.set_cons_succ]
              refine regL_pure (i := 12) rfl (by rfl) (by kernel_rfl) (by kernel_rfl) (by kernel_rfl) (fun _ _ _ h => h) (by rfl) hS (v := ?vr23) ?hyr23 ?rtr23
              case hyr23 => (intro w'; go_simp <;> try rfl)
              intro hS
              try simp only [Act.put, List.setIfInBounds_toArray, List.set_cons_zero, List.set_cons_succ]
              refine regL_take (i := 13) (19, fun w' => w'.cell? ⟨u.heap.size, 3, none⟩ = some (.slice ko kn kc) ∧ True) rfl (by simp) (by rfl) (by kernel_rfl) (by rfl) (by kernel_rfl) (by kernel_rfl) (by kernel_rfl) (fun _ _ _ h => h) (by rfl) hS (v := ?vr24) ?hyr24 ?rtr24
              case hyr24 => (intro w' hc; dsimp only at hc; obtain ⟨z1, z2⟩ := hc; go_simp <;> try rfl)
              intro hS
              try simp only [Act.put, List.setIfInBounds_toArray, List.set_cons_zero, List.set_cons_succ]
              refine regL_pure (i := 14) rfl (by rfl) (by kernel_rfl) (by kernel_rfl) (by kernel_rfl) (fun _ _ _ h => h) (by rfl) hS (v := ?vr25) ?hyr25 ?rtr25
              case hyr25 => (intro w'; go_simp <;> try rfl)
              intro hS
              try simp only [Act.put, List.setIfInBounds_toArray, List.set_cons_zero, List.set_cons_succ]
              refine regL_pure (i := 15) rfl (by rfl) (by kernel_rfl) (by kernel_rfl) (by kernel_rfl) (fun _ _ _ h => h) (by rfl) hS (v := .int .i64 (kk : Int)) ?hyr26 ?rtr26
              case hyr26 => (intro w'; exact exec_minBy (X := .int .i64 (kn : Int)) (Y := .int .i64 9) (by rfl) (by rfl) (fun ts ty => hminK ts ty w'))
              intro hS
              try simp only [Act.put, List.setIfInBounds_toArray, List.set_cons_zero, List.set_cons_succ]
              refine regL_pure (i := 16) rfl (by rfl) (by kernel_rfl) (by kernel_rfl) (by kernel_rfl) (fun _ _ _ h => h) (by rfl) hS (v := .slice ko kk kc) ?hyr27 ?rtr27
              case hyr27 => (intro w'; exact exec_sliceBy (X := .slice ko kn kc) (Y := .int .i64 (kk : Int)) (by rfl) (by rfl) (hcutK w'))
              intro hS
              try simp only [Act.put, List.setIfInBounds_toArray, List.set_cons_zero, List.set_cons_succ]
              refine regL_ready (rs := [8]) (by kernel_rfl) (by simp) ?_
              refine regL_cons rfl (by rfl) (fun K hK => ?_) regL_nil
              go_simp
              go_at_call 19
              refine hcP.mono ?_
              rintro e w1 ⟨g', a', m', c', rfl, D1, B1⟩
              have x3 := (World.cell?_of_block (B1.block _ hOlt.out.1)).trans v3
              have T1 := TV.out.drew.below B1
              have hcR := rcrash_c T1.rf hN1 (by omega) (HKk.out.below T1.dn.bel)
              refine hK.out _ _ (fun c hc hl => by simp only [List.mem_cons, List.not_mem_nil, or_false] at hc; subst hc; exact ⟨x3, trivial⟩) ?_
              clear hK K
              intro hS
              try simp only [Act.put, List.setIfInBounds_toArray, List.set_cons_zero, List.set_cons_succ]
              refine regL_ready (rs := [17]) (by kernel_rfl) (by simp) ?_
              refine regL_cons rfl (by rfl) (fun K hK => ?_) regL_nil
              go_simp
              go_at_call 20
              refine hcR.mono ?_
              rintro e w2 ⟨q', s', l', t', sc', lc', tc', rfl, R2, y1, y2, y3, y4, B2⟩
              have x4 := (World.cell?_of_block (B2.block _ (World.block_lt_of_cell? w1 _ x3))).trans x3
              have T2 : Two w w2 g' a' m' c' q' s' l' t' N sc' lc' tc' 0 (d.crash (ks.take kk)) (d.crash (ks.take kk)) (r.crash N (ks.take kk)) := ⟨D1.below B2, TV.out.ok.crash _, R2, TV.out.rel.crash TV.out.ok _, Nat.le_trans D1.bel.size y1, Nat.le_trans D1.bel.size y2, Nat.le_trans D1.bel.size y3, Nat.le_trans D1.bel.size y4⟩
              refine hK.out _ _ (fun c hc hl => by simp only [List.mem_cons, List.not_mem_nil, or_false] at hc; subst hc; exact ⟨x4, trivial⟩) ?_
              clear hK K
              intro hS
              try simp only [Act.put, List.setIfInBounds_toArray, List.set_cons_zero, List.set_cons_succ]
              refine regL_pure (i := 18) rfl (by rfl) (by kernel_rfl) (by kernel_rfl) (by kernel_rfl) (fun _ _ _ h => h) (by rfl) hS (v := ?vr28) ?hyr28 ?rtr28
              case hyr28 => (intro w'; go_simp <;> try rfl)
              intro hS
              try simp only [Act.put, List.setIfInBounds_toArray, List.set_cons_zero, List.set_cons_succ]
              refine regL_ready (rs := [19]) (by kernel_rfl) (by simp) ?_
              refine regL_cons rfl (by rfl) (fun K hK => ?_) regL_nil
              go_simp
              refine hK.out _ _ (fun c hc hl => by simp only [List.mem_cons, List.not_mem_nil, or_false] at hc; subst hc; exact Bool.noConfusion (show true = false from hl)) ?_
              clear hK K
              intro hS
              try simp only [Act.put, List.setIfInBounds_toArray, List.set_cons_zero, List.set_cons_succ]
              refine regL_done (by kernel_rfl) ?_ _
              have hsm := same_c T2.dn.dsk T2.ok T2.rf T2.rel
              replace T2 := Lib.hid T2
              clear T1 D1 R2 B1 B2 x3 x4 y1 y2 y3 y4 hcP hcR
              go_wp2_with (first
                | (go_at_call 21; (with_reducible refine hsm.mono ?_); rintro e w9 ⟨rfl, B9⟩; have T9 := Lib.hid (T2.out.below B9); clear B9 hsm))
              go_roundw
              case rel => exact ⟨j + 1, _, _, _, _, _, _, _, _, _, _, _, _, _, _, by omega, by go_num, rfl, rfl, by omega, T9⟩
              case measure => simp [intOf]; omega
    · have hend : ¬ (j : Int) < (on : Int) ∨ (j : Int) < (on : Int) ∧ ¬ (j : Int) < 30 := by omega
      have B := Lib.hid TU.out.dn.bel
      clear hlt
      rcases hend with h1 | ⟨h1, h2⟩
      · go_wp2_with (go_at_call 22; (with_reducible refine (awake_c u).mono ?_); rintro e w4 ⟨rfl, B4⟩; have hB := Lib.hid (B.out.trans (B4.mono B.out.size)); clear B4)
        go_ret
        exact ⟨rfl, hB.out⟩
      · go_wp2_with (go_at_call 22; (with_reducible refine (awake_c u).mono ?_); rintro e w4 ⟨rfl, B4⟩; have hB := Lib.hid (B.out.trans (B4.mono B.out.size)); clear B4)
        go_ret
        exact ⟨rfl, hB.out⟩
end Go.Proofs.Ytbnomkcliejcaaa
