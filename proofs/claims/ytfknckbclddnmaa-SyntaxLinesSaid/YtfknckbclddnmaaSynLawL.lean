/-
  The walk of SyntaxLines.
-/
import Derived.Test.YtfknckbclddnmaaSynLawR
import Derived.Deep.QuietTactic
import Derived.BigQuiet
namespace Go.Proofs.Ytfknckbclddnmaa
open Go.RowKit Lx

namespace Lx
/-- How many lines lie ahead of block j. -/
def lnN : List Blc → Nat → Nat
  | b :: r, j + 1 => b.flds.length + 2 + lnN r j
  | _, _ => 0
theorem blks_at : ∀ {bs : List Blc} {ln j : Nat} {x : Blc}, (blksL bs ln)[j]? = some x → ∃ b, bs[j]? = some b ∧ x.line = ln + lnN bs j ∧ x.flds = fldsL b.flds (x.line + 1) ∧ lnN bs (j + 1) = lnN bs j + (b.flds.length + 2)
  | [], _, _, _, h => by simp [blksL] at h
  | b :: r, ln, 0, x, h => by
    have e : blkL b ln = x := by simpa [blksL] using h
    subst e
    exact ⟨b, rfl, rfl, rfl, by cases r <;> simp [lnN]⟩
  | b :: r, ln, j + 1, x, h => by
    have h' : (blksL r (ln + 2 + b.flds.length))[j]? = some x := by simpa [blksL] using h
    obtain ⟨b', h1, h2, h3, h4⟩ := blks_at h'
    refine ⟨b', by simpa using h1, by rw [h2, lnN]; omega, h3, by rw [lnN, h4, lnN]; omega⟩
theorem flds_at : ∀ {fs : List Fld} {ln k : Nat} {f : Fld}, (fldsL fs ln)[k]? = some f → f.line = ln + k
  | [], _, _, _, h => by simp [fldsL] at h
  | g :: r, ln, 0, f, h => by
    have e : fldL g ln = f := by simpa [fldsL] using h
    subst e
    rfl
  | g :: r, ln, k + 1, f, h => by
    have h' : (fldsL r (ln + 1))[k]? = some f := by simpa [fldsL] using h
    have := flds_at h'
    omega
theorem fldsL_len : ∀ (fs : List Fld) (ln : Nat), (fldsL fs ln).length = fs.length
  | [], _ => rfl
  | _ :: r, ln => by rw [fldsL, List.length_cons, List.length_cons, fldsL_len r]
theorem blksL_len : ∀ (bs : List Blc) (ln : Nat), (blksL bs ln).length = bs.length
  | [], _ => rfl
  | _ :: r, ln => by rw [blksL, List.length_cons, List.length_cons, blksL_len r]
theorem lnN_le : ∀ (bs : List Blc) (j : Nat), (∀ b ∈ bs, b.flds.length ≤ 12) → lnN bs j ≤ 14 * bs.length
  | [], j, _ => by cases j <;> simp [lnN]
  | b :: r, 0, _ => by simp [lnN]
  | b :: r, j + 1, h => by
    have := lnN_le r j (fun x hx => h x (List.mem_cons_of_mem _ hx))
    have := h b (List.mem_cons_self ..)
    rw [lnN, List.length_cons]
    omega
theorem cut_lens (s : Src) : (cutD s).blks.length ≤ 12 ∧ ∀ b ∈ (cutD s).blks, b.flds.length ≤ 12 := by
  refine ⟨?_, fun b hb => ?_⟩
  · show ((List.take 12 s.blks).map cutB).length ≤ 12
    rw [List.length_map, List.length_take]
    omega
  · obtain ⟨y, _, rfl⟩ := List.mem_map.1 hb
    show ((List.take 12 y.flds).map cutF).length ≤ 12
    rw [List.length_map, List.length_take]
    omega
end Lx
theorem below_drewN {B : Nat} {w w' : World} (h : Below B w w') (n : Nat) : Below B w (w'.drewN n) := ⟨h.os, h.tape, h.output, h.size, h.block⟩
theorem cell_kept {w w' : World} {p : Addr} {v : Value} (h : w.cell? p = some v) (hb : Below w.heap.size w w') : w'.cell? p = some v := (World.cell?_of_block (hb.block _ (World.block_lt_of_cell? w p h))).trans h

set_option maxHeartbeats 12800000 in
set_option maxRecDepth 100000 in
theorem linesLaw_c (t : List UInt8) (ao : Option Addr) (n c : Nat) (bs : List Blc) (w : World) (h : BlkL false anyF w ao n c bs) :
    Calls Try.prog 7 #[.agg #[.string (stg t), .slice ao n c]] w fun e w' => e = .returned (.bool true) ∧ Below w.heap.size w w' := by
  obtain ⟨V, T, K, cs, e1, y0, y1, hT, hK, hcs, HC⟩ := cut_start t ao n c bs w h
  have hsm := Lib.hid (small_cut ⟨t, bs⟩)
  obtain ⟨hl1, hl2⟩ := cut_lens ⟨t, bs⟩
  obtain ⟨s, hs⟩ : ∃ s, Hid (cutD ⟨t, bs⟩ = s) := ⟨_, rfl⟩
  have hs1 : Hid (stg s.title = K) := by show _ = _; rw [← hs.out, ← hK.out]; rfl
  have hs2 : Hid (s.blks = cs) := by show _ = _; rw [← hs.out, ← hcs.out]; rfl
  rw [hs.out] at hsm hl1 hl2
  have hl1 := Lib.hid hl1
  have hl2 := Lib.hid hl2
  rw [hT.out]
  go_enter Try.func7, Try.ntmps7
  go_wp2_with fail
  refine HC.out.mono ?_
  rintro e w1 ⟨ro, m, d, rfl, W, e2, f0, f1, f2, f3, AW, BL, HB⟩
  have r0 : W.cell? ⟨w.heap.size, 0, none⟩ = some (.string K) := AW.out.cell 0
  have r1 : W.cell? ⟨w.heap.size, 1, none⟩ = some (.slice ro m d) := AW.out.cell 1
  have HP := pPrint_c false anyF s ro m d W (by rw [hs2.out]; exact BL.out) hsm.out
  unfold PrintOut at HP
  rw [hs1.out] at HP
  cases hF : okP s with
  | false =>
    rw [hF] at HP
    have HP := Lib.hid HP
    clear hF
    go_wp2_with fail
    clear e1 e2 f0 f1 f2 f3 r0 r1 y0 y1
    refine HP.out.mono ?_
    rintro e w2 ⟨rfl, B2⟩
    have HW := Lib.hid (awake_c w2)
    have HB : Hid (Below w.heap.size w w2) := HB.out.trans (B2.mono HB.out.size)
    clear HP B2 HC AW BL
    go_wp2_with fail
    refine HW.out.mono ?_
    rintro e w3 ⟨rfl, B3⟩
    go_wp2_with fail
    go_ret
    exact ⟨rfl, HB.out.trans (B3.mono HB.out.size)⟩
  | true =>
    obtain ⟨g3, g7⟩ := round_facts hF
    obtain ⟨R, hR⟩ : ∃ R, Hid (stg (srcP s) = R) := ⟨_, rfl⟩
    rw [hF, if_pos rfl, hR.out] at HP
    rw [hR.out] at g3 g7
    have HP := Lib.hid HP
    have g3 := Lib.hid g3
    have g7 := Lib.hid g7
    clear hF
    go_wp2_with fail
    clear e1 e2 f0 f1 f2 f3 r0 r1 y0 y1
    refine HP.out.mono ?_
    rintro e w2 ⟨rfl, B2⟩
    have HR := Lib.hid (pParse_c R w2 (by have := g7.out; omega))
    have AV := Lib.hid (AW.out.kept B2)
    have BL := Lib.hid (BlkL.keep BL.out stable_any (keeps_below _ B2))
    have HB : Hid (Below w.heap.size w w2) := HB.out.trans (B2.mono HB.out.size)
    clear HP B2 AW HC
    go_wp2_with fail
    refine HR.out.mono ?_
    rintro e w3 ⟨hO, B3⟩
    rw [g3.out] at hO
    obtain ⟨ao2, m2, d2, rfl, BL2⟩ := hO
    have q1 : (outA (some (.ok (srcL s)))).1 = 0 := rfl
    have q2 : (outA (some (.ok (srcL s)))).2.1 = 0 := rfl
    have q3 : (outA (some (.ok (srcL s)))).2.2 = srcL s := rfl
    have q4 : (srcL s).title = s.title := rfl
    rw [q3] at BL2
    rw [q1, q2, q3, q4, hs1.out]
    obtain ⟨V', U0', W0', X, e3, e4, e5, e6, hz, ⟨k0, k1, k2, k3⟩, ⟨l0, l1, l2, l3⟩, AV2, AU2, BX⟩ := new_res w3 (.string K) (.slice ao2 m2 d2) (.int .i64 0) (.int .i64 0)
    obtain ⟨b2, hb2⟩ : ∃ b, Hid (w3.heap.size = b) := ⟨_, rfl⟩
    have BL := BlkL.keep (BlkL.keep BL.out stable_any (keeps_below _ B3)) stable_any (keeps_below _ BX)
    have BL2 := BlkL.keep BL2 stable_any (keeps_below _ BX)
    obtain rfl : m = m2 := by
      rw [← BL.len, ← BL2.len, ← hs2.out]
      exact (blksL_len _ _).symm
    have hmm : ((m : Int) != (m : Int)) = false := by simp
    have y1 : X.cell? ⟨w.heap.size, 1, none⟩ = some (.slice ro m d) := ((AV.out.kept B3).kept BX).cell 1
    have z1 : X.cell? ⟨w3.heap.size, 1, none⟩ = some (.slice ao2 m d2) := AV2.cell 1
    have z2 : X.cell? ⟨w3.heap.size + 1, 0, none⟩ = some (.int .i64 0) := AU2.cell 0
    have z3 : X.cell? ⟨w3.heap.size + 1, 1, none⟩ = some (.int .i64 0) := AU2.cell 1
    obtain ⟨hc1, hr1⟩ := BL.caps
    obtain ⟨hc2, hr2⟩ := BL2.caps
    have AV := Lib.hid ((AV.out.kept B3).kept BX)
    have AV2 := Lib.hid AV2
    have BL := Lib.hid BL
    have BL2 := Lib.hid BL2
    have HB : Hid (Below w.heap.size w X) := (HB.out.trans (B3.mono HB.out.size)).trans (BX.mono (HB.out.trans (B3.mono HB.out.size)).size)
    clear HR B3 BX AU2 q1 q2 q3
    go_wp2_with fail
    clear e3 e4 e5 e6 k0 k1 k2 k3 l0 l1 l2 l3 hz y1 z1 z2 z3
    rw [hb2.out] at AV2 ⊢
    go_loopw [2, 7, 8, 9, 40, 77] (fun _ lv _ _ cv _ wr => ∃ (j N : Nat), j ≤ m ∧ N = 1 + lnN s.blks j ∧ lv = .int .i64 (N : Int) ∧ cv = .int .i64 (j : Int) ∧ Below X.heap.size X wr) (fun _ _ _ _ cv _ _ => m - (intOf cv).toNat)
    case atStart => exact ⟨0, 1, Nat.zero_le _, by cases s.blks <;> rfl, rfl, rfl, Below.refl _ _⟩
    case round =>
      obtain ⟨v1, hv1⟩ : ∃ x, x = wr := ⟨_, rfl⟩
      subst hv1
      obtain ⟨j, N, hj, hN, rfl, rfl, B⟩ := hrel
      replace hN := Lib.hid hN
      have y1 : v1.cell? ⟨w.heap.size, 1, none⟩ = some (.slice ro m d) := (AV.out.kept B).cell 1
      have z1 : v1.cell? ⟨b2, 1, none⟩ = some (.slice ao2 m d2) := (AV2.out.kept B).cell 1
      by_cases hlt : j < m
      · have hlt' : (j : Int) < (m : Int) := by omega
        obtain ⟨x, a1, fo, fn, fc, z, hx, i1, p0, p1, p2, p3, FL, hz⟩ := (BlkL.keep BL2.out stable_any (keeps_below _ B)).get j hlt
        obtain ⟨x', a2, fo', fn', fc', z', hx', i2, r0, r1, r2, r3, FL', _⟩ := (BlkL.keep BL.out stable_any (keeps_below _ B)).get j hlt
        obtain ⟨b, hb1, hb3, hb4, hb5⟩ := blks_at hx
        rw [hs2.out, hx'] at hb1
        obtain rfl : x' = b := by injection hb1
        have hlb := hl2.out x' (List.mem_of_getElem? (by rw [hs2.out]; exact hx'))
        have hN2 := lnN_le s.blks j hl2.out
        obtain rfl : fn = fn' := by
          rw [← FL.len, ← FL'.len, hb4]
          exact fldsL_len _ _
        have hfn : fn ≤ 12 := by rw [← FL'.len]; exact hlb
        have hNb : N ≤ 200 := by have := hN.out; have := hl1.out; omega
        have hzz : z = (N : Int) + 1 := by rw [hz rfl, hb3, hN.out]; omega
        have hne : (z != (N : Int) + 1) = false := by rw [hzz]; simp
        have hff : ((fn : Int) != (fn : Int)) = false := by simp
        have hnx : Hid (1 + lnN s.blks (j + 1) = N + fn + 2) := by
          show _ = _
          rw [hb5, hN.out, ← FL'.len]
          omega
        have hxl : Hid (x.line = N + 1) := by show _ = _; rw [hb3, hN.out]; omega
        obtain ⟨hfc, hfr⟩ := FL.caps
        have FL := Lib.hid FL
        have hb4 := Lib.hid hb4
        have HBr := Lib.hid B
        clear hx hx' hz hb1 hb3 hb5 hlb hN2 FL' hzz r0 r1 r3 p0 p1 B
        go_wp2_with fail
        go_quiet (fail)
        go_wp2_with fail
        go_loopw [2, 7, 9, 77] (fun _ lv _ cv wx => ∃ (k M : Nat), k ≤ fn ∧ M = N + 1 + k ∧ lv = .int .i64 (M : Int) ∧ cv = .int .i64 (k : Int) ∧ Below v1.heap.size v1 wx) (fun _ _ _ cv _ => fn - (intOf cv).toNat)
        case atStart => exact ⟨0, N + 1, Nat.zero_le _, by omega, by go_num, rfl, by first | exact Below.refl _ _ | exact below_drewN (Below.refl _ _) _⟩
        case round =>
          obtain ⟨k, M, hk, hM, rfl, rfl, B2⟩ := hrel
          replace hM := Lib.hid hM
          have z2 : wr.cell? ⟨b2, 1, none⟩ = some (.slice ao2 m d2) := cell_kept z1 B2
          have p4 : wr.cell? ⟨a1.block, a1.off + 2, none⟩ = some (.slice fo fn fc) := cell_kept p2 B2
          by_cases hmt : k < fn
          · have hmt' : (k : Int) < (fn : Int) := by omega
            obtain ⟨f, a3, vo, vn, vc, u, hf, i3, s0, s1, s2, SL, hu⟩ := (FldL.keep FL.out stable_any (keeps_below _ B2)).get k hmt
            rw [hb4.out] at hf
            have hu2 : u = (M : Int) + 1 := by rw [hu rfl, flds_at hf, hxl.out, hM.out]; omega
            have hne2 : (u != (M : Int) + 1) = false := by rw [hu2]; simp
            have hMb : M ≤ 300 := by have := hM.out; omega
            have hB2 := Lib.hid B2
            clear p2 p3 y1 z1 r2 i2 hu hu2 hf s0 s1 SL B2
            go_wp2_with fail
            go_roundw
            case rel => exact ⟨k + 1, M + 1, by omega, by have := hM.out; omega, by go_num, by go_num, hB2.out⟩
            case measure => simp [intOf]; omega
          · have hkn : ¬ (k : Int) < (fn : Int) := by omega
            have hM2 : Hid (M + 1 = 1 + lnN s.blks (j + 1)) := by show _ = _; have := hM.out; have := hnx.out; omega
            have hMb : M ≤ 300 := by have := hM.out; omega
            have hBx : Hid (Below X.heap.size X wr) := HBr.out.trans (B2.mono HBr.out.size)
            clear p2 p3 p4 y1 z1 z2 r2 i1 i2 B2
            go_wp2_with fail
            go_roundw
            case rel => exact ⟨j + 1, M + 1, by omega, hM2.out, by go_num, by go_num, hBx.out⟩
            case measure => simp [intOf]; omega
      · have hjn : ¬ (j : Int) < (m : Int) := by omega
        have HW := Lib.hid (awake_c v1)
        have hBx : Hid (Below w.heap.size w v1) := HB.out.trans (B.mono HB.out.size)
        clear y1 z1 B
        go_wp2_with fail
        refine HW.out.mono ?_
        rintro e w5 ⟨rfl, B5⟩
        go_wp2_with fail
        go_ret
        exact ⟨rfl, hBx.out.trans (B5.mono hBx.out.size)⟩
end Go.Proofs.Ytfknckbclddnmaa
