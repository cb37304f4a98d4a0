/-
  Crash.
-/
import Derived.Test.YtbnomkcliejcaaaDskWr2
import Derived.Test.YtbnomkcliejcaaaDskKeys
namespace Go.Proofs.Ytbnomkcliejcaaa
open Go.RowKit Ds
attribute [local go_sem] Oper.semAt_some
set_option linter.unusedSimpArgs false

/-- A slice value reads as these bools. -/
structure LstT (w : World) (ao : Option Addr) (n c : Nat) (xs : List Bool) : Prop where
  len : xs.length = n
  cap : n ≤ c
  room : c ≤ 9223372036854775807
  isSome : 0 < n → ∃ a, ao = some a
  cell : ∀ i, i < n → w.cell? (pt ao i) = some (.bool (xs.getD i false))
theorem LstT.below {w w' : World} {ao : Option Addr} {n c : Nat} {xs : List Bool} (h : LstT w ao n c xs) (hb : Below w.heap.size w w') : LstT w' ao n c xs :=
  ⟨h.len, h.cap, h.room, h.isSome, fun i hi => (hb.cell (World.block_lt_of_cell? w _ (h.cell i hi))).trans (h.cell i hi)⟩
theorem sizeT : (Try.prog.info? 4).map (·.size) = some 1 := by kernel_rfl
theorem sizeI : (Try.prog.info? 3).map (·.size) = some 1 := by kernel_rfl
theorem ixT {ao : Option Addr} {n c : Nat} {xs : List Bool} {w : World} (h : LstT w ao n c xs) (i : Nat) (hi : i < n) :
    ∀ W, (Instr.indexAt 28 (.slice ao n c) (.int .i64 (i : Int))).run Try.prog W = .ok (.pointer (some (pt ao i))) W := by
  intro W
  obtain ⟨a, rfl⟩ := h.isSome (by omega)
  obtain ⟨inf, hinf, hs⟩ := Option.map_eq_some_iff.1 sizeT
  simp [Instr.indexAt, run_underlying Try.underlying28, asIntOf, sizeOf, typeInfo, hinf, hs, pt, hi]

theorem Secs.cells {w : World} {a c : Nat} {S : List Sec} (h : Secs w a c S) : ∀ j u, (S.flatten.map (Value.int .u8))[j]? = some u → w.cell? ((⟨a, 0, none⟩ : Addr).add j) = some u := by
  intro j u hj
  obtain ⟨_, _, cur, hA, _, ht⟩ := h
  have e := pt_own a j
  simp only [pt, Option.getD_some] at e
  rw [e, hA.cell, ← hj, ← ht]
  have hl : j < (cur.take (64 * S.length)).length := by rw [ht]; exact (List.getElem?_eq_some_iff.1 hj).1
  have hl' : j < 64 * S.length := by rw [List.length_take] at hl; omega
  exact (List.getElem?_take_of_lt hl').symm
set_option maxHeartbeats 3200000 in
set_option maxRecDepth 100000 in
theorem cloneS_c {w : World} {a c : Nat} {S : List Sec} (h : Secs w a c S) (hs : Sized S) (h1 : 1 ≤ S.length) (h2 : S.length ≤ 4096) :
    Calls Try.prog 31 #[.slice (some ⟨a, 0, none⟩) S.length c] w fun e w' => ∃ a' c', e = .returned (.slice (some ⟨a', 0, none⟩) S.length c') ∧ Secs w' a' c' S ∧ w.heap.size ≤ a' ∧ Below w.heap.size w w' := by
  have q26 := fun (w : World) (a : Option Addr) (n c n' c' : Nat) => Lib.run_eql_slice_nil (P := Try.prog) w 51 _ a n c n' c' Try.underlying51
  have OM : (w.alloc (.cells #[] 56)).ownsRow w.heap.size 56 64 (.slice (some ⟨w.heap.size, 0, none⟩) 0 0) 0 [] := World.ownsRow_made w #[] 0 (Nat.le_refl _) (Nat.zero_le _) rfl
  obtain ⟨V, e1⟩ : ∃ V, w.alloc (.cells #[] 56) = V := ⟨_, rfl⟩
  have BV : Below w.heap.size w V := by rw [← e1]; exact (Below.refl _ _).alloc (Nat.le_refl _) _
  rw [e1] at OM
  have H := (h.grown (grown_of_below BV none) (by simp)).cells
  have HB : Hid (Below w.heap.size w V) := BV
  have hzV : w.heap.size ≤ V.heap.size := BV.size
  have hfl : (S.flatten.map (Value.int .u8)).length = S.length * 64 := by rw [List.length_map, flat_len hs]; omega
  obtain ⟨i0, hi, hz0, hz1, hz2⟩ := info_parts infoS
  have hzs : (secV zeroS).cells.size = 64 := by simp [secV, Value.cells, zeroS]
  clear h BV hs
  obtain ⟨n, hn⟩ : ∃ n, S.length = n := ⟨_, rfl⟩
  obtain ⟨us, hus⟩ : ∃ us, Hid (S.flatten.map (Value.int .u8) = us) := ⟨_, rfl⟩
  have hus1 : ∀ u ∈ us, u.oneCell' = true := fun u hu => by
    rw [← hus.out] at hu
    obtain ⟨x, _, rfl⟩ := List.mem_map.1 hu
    rfl
  rw [hus.out] at hfl H
  rw [hn] at hfl h1 h2 ⊢
  go_enter Try.func31, Try.ntmps31
  go_wp2_with (at_builtin; refine wpList_append_own _ rfl _ _ 51 rfl w.heap.size 56 i0 (secV zeroS) 64 64 Try.underlying51 hi hz0 hz1 hz2 hzs (by omega) _ 0 [] rfl OM ⟨a, 0, none⟩ n c us rfl hfl H hus1 (by unfold maxLen; omega) (by omega) hzV ?_)
  intro v' w2 O2 G2 _
  replace O2 : w2.ownsRow w.heap.size 56 64 v' n us := by simpa using O2
  obtain ⟨a', c', rfl, ha'⟩ : ∃ a' c', v' = .slice (some ⟨a', 0, none⟩) n c' ∧ w.heap.size ≤ a' := by
    rcases O2.2 with ⟨_, h0⟩ | ⟨g, cap, _, hv, hg, _⟩
    · omega
    · exact ⟨g, cap, hv, hg⟩
  have S2 : Hid (Secs w2 a' c' S) := Secs.of_row (B := w.heap.size) (by rw [hn, hus.out]; exact O2)
  have B2 : Hid (Below w.heap.size w w2) := HB.out.trans ((Below.refl _ _).grown G2 hzV (fun k hk => by
    have hk : some w.heap.size = some k := hk
    injection hk with hk
    omega))
  clear O2 G2 OM H hzV
  go_wp2_with fail
  go_ret
  exact ⟨a', c', rfl, S2.out, ha', B2.out⟩

/-- What Crash hands back: another disk, in new blocks. -/
def CrOut (w : World) (d : Dk) (keep : List Bool) (e : Ending) (w' : World) : Prop :=
  ∃ g a m c, e = .returned (.pointer (some ⟨g, 0, none⟩)) ∧ Dsk w' g a m c (d.crash keep) ∧ w.heap.size ≤ g ∧ w.heap.size ≤ a ∧ w.heap.size ≤ m ∧ Below w.heap.size w w'
theorem dirtN_at {old : List (Option Sec)} {j : Nat} (hj : j < dirt old) : ∃ (x : Nat) (o : Sec), ((dirtN 0 old).map Int.ofNat).getD j 0 = (x : Int) ∧ (dirtN 0 old).drop j = x :: (dirtN 0 old).drop (j + 1) ∧ old[x]? = some (some o) := by
  have hj' : j < (dirtN 0 old).length := hj
  obtain ⟨x, o, e, ho⟩ := (mem_dirtN old 0 _).1 (List.getElem_mem hj')
  refine ⟨(dirtN 0 old)[j], o, ?_, List.drop_eq_getElem_cons hj', ?_⟩
  · simp [List.getD, hj']
  · rw [e, Nat.zero_add]; exact ho
set_option maxHeartbeats 6400000 in
set_option maxRecDepth 100000 in
theorem crash_c {w : World} {g a m c n : Nat} {d : Dk} (h : Dsk w g a m c d) (hk : d.Ok n) {ko : Option Addr} {kn kc : Nat} {keep : List Bool} (hK : LstT w ko kn kc keep) :
    Calls Try.prog 19 #[.pointer (some ⟨g, 0, none⟩), .slice ko kn kc] w fun e w' => CrOut w d keep e w' := by
  have hlen := hk.len
  have holen := hk.olen
  have hmax := hk.max
  have hpos := hk.pos
  have hF : putAll d.old keep 0 (dirtN 0 d.old) d.cur = crashed keep 0 d.cur d.old := by
    have := putAll_crashed keep d.old d.old 0 0 [] d.cur rfl rfl (by omega)
    simpa using this
  have hcl := cloneS_c h.secs hk.size (by omega) (by omega)
  have k0 := h.cells.1
  obtain ⟨k1, k2⟩ : w.cell? ⟨g, 0, none⟩ = some (.slice (some ⟨a, 0, none⟩) n c) ∧ w.cell? ⟨g, 1, none⟩ = some (.map (some m)) := ⟨by rw [k0, hlen], h.cells.2.1⟩
  rw [hlen] at hcl
  have hKl := Lib.hid hK.len
  have hKc := hK.cap
  have hKr := hK.room
  have HD := Lib.hid h
  have HK := Lib.hid hK
  have HO := Lib.hid hk.size
  have HP := Lib.hid hk.osize
  have HFd := Lib.hid hF
  have hdm : dirt d.old ≤ 4096 := by have := dirtN_le d.old 0; unfold dirt; omega
  obtain ⟨L, hL⟩ : ∃ L, Hid (dirt d.old = L) := ⟨_, rfl⟩
  rw [hL.out] at hdm
  have holn := Lib.hid holen
  have hcln := Lib.hid hlen
  clear h hk hK k0 hF hlen holen
  have c1 : Calls Try.prog 31 #[.slice (some ⟨a, 0, none⟩) n c] w fun e w' => ∃ a' c', e = .returned (.slice (some ⟨a', 0, none⟩) n c') ∧ w'.cell? ⟨g, 1, none⟩ = some (.map (some m)) ∧ Hid (Secs w' a' c' d.cur) ∧ Hid (w.heap.size ≤ a') ∧ Hid (Below w.heap.size w w') := by
    refine hcl.mono ?_
    rintro e w' ⟨a', c', rfl, r1, r2, r3⟩
    exact ⟨a', c', rfl, (World.cell?_of_block (r3.block _ (World.block_lt_of_cell? w _ k2))).trans k2, r1, r2, r3⟩
  clear hcl
  go_enter Try.func19, Try.ntmps19
  go_wp2_with (first
    | (go_at_call 31; (with_reducible refine c1.mono ?_); rintro e w1 ⟨a', c', rfl, k3, S1, ha1, B1⟩)
    | (go_at_call 33; (with_reducible refine (keys_c m w1).mono ?_); rintro e w2 ⟨rfl, rfl⟩; have hsc := sorted_c (HD.out.map.below B1.out) (by rw [holn.out]; omega); rw [hL.out] at hsc)
    | (go_at_call 32; (with_reducible refine hsc.mono ?_); rintro e w3 ⟨ao, d', rfl, O3, B3⟩; have O3 := Lib.hid O3; have B3 := Lib.hid B3))
  have BW : Hid (Below w.heap.size w w3) := B1.out.trans (B3.out.mono B1.out.size)
  have SW : Hid (Secs w3 a' c' d.cur) := S1.out.grown (grown_of_below B3.out none) (by simp)
  have ha2 : Hid (a' < w1.heap.size) := S1.out.lt
  have hdl : Hid ((dirtN 0 d.old).length = L) := hL.out
  clear hsc S1 c1 k3 B3 k1
  go_loopw [6, 7, 22] (fun _ _ i wr => ∃ (j : Nat) (S : List Sec), j ≤ L ∧ i = .int .i64 (j : Int) ∧ Hid (Secs wr a' c' S) ∧ Hid (S.length = n) ∧ Hid (Sized S) ∧ Hid (putAll d.old keep j ((dirtN 0 d.old).drop j) S = crashed keep 0 d.cur d.old) ∧ Hid (Below w.heap.size w wr) ∧ Hid (Own 3 .i64 w1.heap.size wr ao L d' ((dirtN 0 d.old).map Int.ofNat))) (fun _ _ i _ => L - (intOf i).toNat)
  case atStart => exact ⟨0, d.cur, Nat.zero_le _, rfl, SW, hcln, HO, HFd, BW, O3⟩
  case round =>
    obtain ⟨u, hu⟩ : ∃ x, x = wr := ⟨_, rfl⟩
    subst hu
    obtain ⟨j, S, hj, rfl, HS, hSn, hSz, hFn, HB, HOw⟩ := hrel
    clear SW BW O3
    by_cases hlt : j < L
    · have hlt' : (j : Int) < (L : Int) := by omega
      obtain ⟨x, o, hx1, hx2, hx3⟩ := dirtN_at (old := d.old) (j := j) (by rw [hL.out]; exact hlt)
      have hlst := HOw.out.lst
      have hixI := run_index (P := Try.prog) (t := 63) (e := 3) Try.underlying63 sizeI hlst j hlt
      have hcI : u.cell? (pt ao j) = some (.int .i64 (x : Int)) := by rw [hlst.cell j hlt, hx1]
      have hxn : x < n := by
        have h1 := (List.getElem?_eq_some_iff.1 hx3).1
        have h2 := holn.out
        omega
      have hDu := HD.out.below HB.out
      have kd : u.cell? ⟨g, 1, none⟩ = some (.map (some m)) := hDu.cells.2.1
      have hlk := hDu.map.at (i := x) (by omega) hx3
      have hixS := ixS a' n c' x hxn
      have ho64 : o.length = 64 := HP.out o (List.mem_of_getElem? hx3)
      have hxS : x < S.length := by rw [hSn.out]; exact hxn
      obtain ⟨W2, r2, S2, g2, z2⟩ := HS.out.store hSz.out hxS ho64
      have hg : d.old.getD x none = some o := by simp [List.getD, hx3]
      have hF1 := hFn.out
      rw [hx2, putAll, hg] at hF1
      have hcap := (HK.out.below HB.out).cell
      have hixT := ixT HK.out j
      by_cases hkeep : keep.getD j false = true
      · have hjk : j < kn := by
          have h1 := hKl.out
          rcases Nat.lt_or_ge j kn with h2 | h2
          · exact h2
          · rw [List.getD_eq_getElem?_getD, List.getElem?_eq_none (by omega)] at hkeep
            cases hkeep
        have hjk' : ¬ (j : Int) ≥ (kn : Int) := by omega
        have hT1 := hixT hjk
        have hT2 := hcap j hjk
        rw [hkeep] at hT2
        rw [if_pos hkeep] at hF1
        have hF2 := Lib.hid hF1
        clear r2 S2 g2 z2 hF1 hFn hcap hixT hDu hlst hx1 hx2 hx3 hkeep hg
        go_wp2_with fail
        go_roundw
        case rel => exact ⟨j + 1, S, by omega, by go_num, HS, hSn, hSz, hF2, HB, HOw⟩
        case measure => simp [intOf]; omega
      · rw [if_neg hkeep] at hF1
        have hF2 : Hid (putAll d.old keep (j + 1) ((dirtN 0 d.old).drop (j + 1)) (S.set x o) = crashed keep 0 d.cur d.old) := hF1
        have HS2 := Lib.hid S2
        have hSn2 : Hid ((S.set x o).length = n) := by show _ = _; rw [List.length_set]; exact hSn.out
        have hSz2 : Hid (Sized (S.set x o)) := hSz.out.set x ho64
        have HB2 : Hid (Below w.heap.size w W2) := below_grown HB.out g2 HB.out.size ha1.out
        have HOw2 : Hid (Own 3 .i64 w1.heap.size W2 ao L d' ((dirtN 0 d.old).map Int.ofNat)) := by
          refine ⟨HOw.out.1.kept g2 ?_, HOw.out.2⟩
          rcases HOw.out.cases with ⟨rfl, _⟩ | ⟨q, rfl, hq, _⟩
          · exact Or.inr (by simp [Value.ownBlock])
          · refine Or.inr (fun e => ?_)
            have e : some q = some a' := e
            injection e with e
            have := ha2.out
            omega
        have hfalse : keep.getD j false = false := by simpa using hkeep
        clear S2 g2 z2 hF1 hFn hDu hlst hx1 hx2 hx3 hkeep hg
        by_cases hjk : j < kn
        · have hjk' : ¬ (j : Int) ≥ (kn : Int) := by omega
          have hT1 := hixT hjk
          have hT2 := hcap j hjk
          rw [hfalse] at hT2
          clear hcap hixT hfalse
          go_wp2_with (refine wpList_storeBy rfl rfl r2 ?_)
          go_roundw
          case rel => exact ⟨j + 1, S.set x o, by omega, by go_num, HS2, hSn2, hSz2, hF2, HB2, HOw2⟩
          case measure => simp [intOf]; omega
        · have hjk' : (j : Int) ≥ (kn : Int) := by omega
          clear hcap hixT hfalse
          go_wp2_with (refine wpList_storeBy rfl rfl r2 ?_)
          go_roundw
          case rel => exact ⟨j + 1, S.set x o, by omega, by go_num, HS2, hSn2, hSz2, hF2, HB2, HOw2⟩
          case measure => simp [intOf]; omega
    · have hlt' : ¬ (j : Int) < (L : Int) := by omega
      obtain rfl : j = L := by omega
      have hF2 := hFn.out
      rw [List.drop_of_length_le (by rw [hdl.out]; omega), putAll] at hF2
      have hh := holding_c HS.out
      have hE : Hid (∀ W', Dsk W' (u.heap.size + 1) a' u.heap.size c' (fresh S) → Below u.heap.size u W' → CrOut w d keep (.returned (.pointer (some ⟨u.heap.size + 1, 0, none⟩))) W') := by
        intro W' r1 r2
        have hz := HB.out.size
        refine ⟨u.heap.size + 1, a', u.heap.size, c', rfl, ?_, by omega, ha1.out, hz, HB.out.trans (r2.mono hz)⟩
        unfold Dk.crash
        rw [← hF2]
        exact r1
      rw [hSn.out] at hh
      clear hF2 hFn
      go_wp2_with (go_at_call 26; (with_reducible refine hh.mono ?_); rintro e W' ⟨rfl, r1, r2, _⟩; have hr := Lib.hid (hE.out W' r1 r2); clear r1 r2)
      go_ret
      exact hr.out
end Go.Proofs.Ytbnomkcliejcaaa
