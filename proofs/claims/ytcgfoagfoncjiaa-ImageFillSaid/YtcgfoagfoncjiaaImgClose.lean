/-
  The reference's Close.
-/
import Derived.Test.YtcgfoagfoncjiaaImgPx
import Derived.Test.YtcgfoagfoncjiaaImgDecA
import Derived.Deep.OwnRows
import Derived.Deep.CutRange
namespace Go.Proofs.Ytcgfoagfoncjiaa
open Go.RowKit Im

namespace Im
/-- The first n pixels in their order. -/
def pxD (v : Nat) (f : Nat → Nat → Bool) (n : Nat) : List Bool := (List.range n).map fun k => f (k / v) (k % v)
theorem pxD_succ (v : Nat) (f : Nat → Nat → Bool) (n : Nat) : pxD v f (n + 1) = pxD v f n ++ [f (n / v) (n % v)] := by
  unfold pxD
  rw [List.range_succ, List.map_append]
  rfl
theorem pxD_len (v : Nat) (f : Nat → Nat → Bool) (n : Nat) : (pxD v f n).length = n := by simp [pxD]
theorem pxD_bit (v : Nat) (f : Nat → Nat → Bool) (n k : Nat) : bitsD (pxD v f n) k = (decide (k < n) && f (k / v) (k % v)) := by
  unfold bitsD pxD
  by_cases h : k < n
  · rw [List.getElem?_map, List.getElem?_range h, decide_eq_true h]
    rfl
  · rw [List.getElem?_eq_none (by simp; omega), decide_eq_false h]
    rfl
end Im
theorem wr64 (r : Nat) (h : r ≤ 512) : wrap64 (r : Int) = (r : Int) := by unfold wrap64; omega
theorem wi64 (r : Nat) (h : r ≤ 512) : IntKind.i64.wrap (r : Int) = (r : Int) := by rw [IntKind.wrap_i64]; omega
set_option maxHeartbeats 6400000 in
set_option maxRecDepth 100000 in
theorem refClose_c (B go oc v u : Nat) (G : Nat → Nat) (f : Nat → Nat → Bool) (w : World) (h : Pix B w go u oc v G f) (a1 : 1 ≤ v) (a2 : v ≤ 512) (a3 : 1 ≤ u) (a4 : u ≤ 512) :
    Calls Try.prog 22 #[.slice (some ⟨go, 0, none⟩) u oc] w fun e w' => ∃ gc, e = .returned (.agg #[.int .i64 (v : Int), .int .i64 (u : Int), .slice (some ⟨gc, 0, none⟩) ((v * u + 7) / 8) ((v * u + 7) / 8)]) ∧ Own 5 .u8 w.heap.size w' (some ⟨gc, 0, none⟩) ((v * u + 7) / 8) ((v * u + 7) / 8) (packP (bitsD (pxD v f (v * u))) ((v * u + 7) / 8)) ∧ Below w.heap.size w w' := by
  obtain ⟨V, e1, AV, BV, hz⟩ := new_img w 0 0 none 0 0
  obtain ⟨P, hP0⟩ : ∃ P, Hid (v * u = P) := ⟨_, rfl⟩
  have hPb : P ≤ 262144 := by rw [← hP0.out]; exact area_le a2 a4
  have hP : (v : Int) * (u : Int) = (P : Int) := by rw [← hP0.out]; exact (Int.natCast_mul v u).symm
  rw [hP0.out]
  obtain ⟨m, hm⟩ : ∃ m, Hid ((P + 7) / 8 = m) := ⟨_, rfl⟩
  rw [hm.out]
  have hmb : m ≤ 32768 := by rw [← hm.out]; omega
  have hPm : Hid (P ≤ 8 * m) := by show _ ≤ _; rw [← hm.out]; omega
  have hdm : Hid (∀ n, n < P → n / v < u ∧ n % v < v) := fun n hn => ⟨(Nat.div_lt_iff_lt_mul a1).2 (by rw [Nat.mul_comm, hP0.out]; exact hn), Nat.mod_lt n a1⟩
  have d1 : ((P : Int) + 7).tdiv 8 = (m : Int) := by rw [Int.tdiv_eq_ediv_of_nonneg (by omega)]; have := hm.out; omega
  have w1 : wrap64 (m : Int) = (m : Int) := by unfold wrap64; omega
  have hmk := make8 m (Nat.le_trans hmb (by decide))
  have HX : Hid (∀ W, Below w.heap.size w W → Pix B W go u oc v G f) := fun W hb => h.kept hb
  have hr0 : V.cell? ⟨go, 0, none⟩ = some (.slice (some ⟨G 0, 0, none⟩) v v) := (HX.out V BV).rowAt (by omega)
  have hi0 : ∀ W, (Instr.indexAt 45 (.slice (some ⟨go, 0, none⟩) u oc) (.int .i64 0)).run Try.prog W = .ok (.pointer (some ⟨go, 0, none⟩)) W := ixO go u oc 0 (by omega)
  obtain ⟨U1, hU1⟩ : ∃ W, V.alloc (.cells (madeCells #[.int .u8 0] m) 5) = W := ⟨_, rfl⟩
  have BU1 : Below V.heap.size V U1 := by rw [← hU1]; exact (Below.refl _ _).alloc (Nat.le_refl _) _
  have hU1z : U1.heap.size = V.heap.size + 1 := by rw [← hU1]; simp
  have O1 : Own 5 .u8 V.heap.size U1 (some ⟨V.heap.size, 0, none⟩) m m (packP (bitsD []) m) := by
    rw [bitsD_nil, ← hU1]
    exact made_own V m (Nat.le_trans hmb (by decide))
  obtain ⟨V3, W3, e5, e6, AI, BI, hIz, k0, k1, k2, k3, k4, k5⟩ := new_putI U1 (.int .i64 (v : Int)) (.int .i64 (u : Int)) (.slice (some ⟨V.heap.size, 0, none⟩) m m)
  have AR := (AV.kept BU1).kept BI
  have O1 := O1.kept BI
  have BW := (BV.trans (BU1.mono (by omega))).trans (BI.mono (by omega))
  obtain ⟨gb, hgb⟩ : ∃ g, V.heap.size = g := ⟨_, rfl⟩
  obtain ⟨bx, hbx⟩ : ∃ g, U1.heap.size = g := ⟨_, rfl⟩
  have n1 : Hid (w.heap.size < gb) := by show _ < _; omega
  have n2 : Hid (gb < bx) := by show _ < _; omega
  rw [hgb] at e6 O1 AI
  rw [hbx] at e6 AI k0 k1 k2 k3 k4 k5
  clear hU1z hz hIz
  have hS : Hid (DecS w gb bx m v u W3 []) := ⟨BW, O1, AI, AR⟩
  clear BW O1 AI AR BI BU1 AV BV h
  have ha1 : (0 : Int) < (v : Int) := by omega
  go_enter Try.func22, Try.ntmps22
  go_wp2_with fail
  clear hU1 e1 e5 e6 k0 k1 k2 k3 k4 k5 hmk d1 w1 hgb hbx hr0 hi0
  go_loopw [6] (fun iv wr => ∃ n : Nat, n ≤ P ∧ iv = .int .i64 (n : Int) ∧ Hid (DecS w gb bx m v u wr (pxD v f n))) (fun iv _ => P - (intOf iv).toNat)
  case atStart => exact ⟨0, Nat.zero_le _, rfl, hS⟩
  case round =>
    obtain ⟨v1, hv1⟩ : ∃ y, y = wr := ⟨_, rfl⟩
    subst hv1
    clear hS
    obtain ⟨n, hn, rfl, HS⟩ := hrel
    by_cases hnP : n < P
    · have hnP' : (n : Int) < (P : Int) := by omega
      obtain ⟨r, hr⟩ : ∃ r, n / v = r := ⟨_, rfl⟩
      obtain ⟨c, hc⟩ : ∃ c, n % v = c := ⟨_, rfl⟩
      have hdmn := hdm.out n hnP
      rw [hr, hc] at hdmn
      have hrb : r ≤ 512 := by have := hdmn.1; omega
      have hcb : c ≤ 512 := by have := hdmn.2; omega
      have hvz : ¬ (v : Int) = 0 := by omega
      have hvz2 : ((v : Int) == 0) = false := by simp; omega
      have d1 : (n : Int).tdiv (v : Int) = (r : Int) := by rw [Int.tdiv_eq_ediv_of_nonneg (by omega), ← hr]; rfl
      have d2 : (n : Int).tmod (v : Int) = (c : Int) := by rw [Int.tmod_eq_emod_of_nonneg (by omega), ← hc]; rfl
      have w1 := wr64 r hrb
      have w2 := wi64 r hrb
      have w3 := wr64 c hcb
      have w4 := wi64 c hcb
      have HP := HX.out v1 HS.out.1
      have i1 := ixO go u oc r hdmn.1
      have c1 := HP.rowAt hdmn.1
      have i2 := ixR (G r) v v c hdmn.2
      have c2 := HP.cellAt hdmn.1 hdmn.2
      obtain ⟨bt, hbt⟩ : ∃ b, f r c = b := ⟨_, rfl⟩
      rw [hbt] at c2
      have hD : Hid (pxD v f (n + 1) = pxD v f n ++ [bt]) := by show _ = _; rw [pxD_succ, hr, hc, hbt]
      clear HP hr hc hbt
      go_wp2_with fail
      go_quiet (fail)
      obtain ⟨v2, hv2⟩ : ∃ x, x = v1.drewN nq := ⟨_, rfl⟩
      have HS2 : Hid (DecS w gb bx m v u v2 (pxD v f n)) := by
        rw [hv2]
        exact ⟨below_drewN HS.out.1 nq, HS.out.2.1, HS.out.2.2.1, HS.out.2.2.2⟩
      rw [← hv2]
      clear hv2 HS c1 c2 i1 i2 w1 w2 w3 w4 d1 d2 hvz hvz2 hdmn hrb hcb
      cases bt with
      | false =>
        have HS3 : Hid (DecS w gb bx m v u v2 (pxD v f (n + 1))) := by
          refine ⟨HS2.out.1, ?_, HS2.out.2.2⟩
          rw [hD.out, packD_false]
          exact HS2.out.2.1
        clear HS2
        go_wp2_with fail
        go_roundw
        case rel => exact ⟨n + 1, by omega, by go_num, HS3⟩
        case measure => simp [intOf]; omega
      | true =>
        have hK1 : n + 1 ≤ P := by omega
        have hme : P - (n + 1) < P - n := by omega
        have HS4 : DecS w gb bx m v u v2 (pxD v f n ++ List.replicate 0 true) := by rw [List.replicate_zero, List.append_nil]; exact HS2.out
        obtain ⟨q, r', z, uu, Z, d1, d2, w1, w2, w3, i1, c1, f1, hsf, hsf2, hZ, k2, hend, e1, e2, e3, e4⟩ := dec_set HS4 (pxD_len v f n) (Nat.add_zero n).symm hnP hPm.out hmb n1.out n2.out
        have hend2 : Hid (DecS w gb bx m v u Z (pxD v f (n + 1))) := by rw [hD.out]; exact hend.out
        clear HS2 HS4 hend
        go_wp2_with fail
        clear hsf hsf2 d1 d2 w1 w2 w3 i1 c1 f1 hZ k2 e1 e2 e3 e4
        go_roundw
        case rel => exact ⟨n + 1, hK1, by go_num, hend2⟩
        case measure => simp [intOf]; omega
    · obtain rfl : n = P := by omega
      have k0 : v1.cell? ⟨bx, 0, none⟩ = some (.int .i64 (v : Int)) := HS.out.2.2.1.cell 0
      have k1 : v1.cell? ⟨bx, 1, none⟩ = some (.int .i64 (u : Int)) := HS.out.2.2.1.cell 1
      have k2 : v1.cell? ⟨bx, 2, none⟩ = some (.slice (some ⟨gb, 0, none⟩) m m) := HS.out.2.2.1.cell 2
      obtain ⟨Z, m7, A2, GZ, hZz, q0, q1, q2, q3, q4, q5, r0, r1, r2⟩ := put_img HS.out.2.2.2 (.int .i64 (v : Int)) (.int .i64 (u : Int)) (.slice (some ⟨gb, 0, none⟩) m m)
      have hgw : gb ≠ w.heap.size := by have := n1.out; omega
      have hB : Hid (Below w.heap.size w Z) := below_grown HS.out.1 GZ HS.out.1.size (Nat.le_refl _)
      have hO9 : Hid (Own 5 .u8 w.heap.size Z (some ⟨gb, 0, none⟩) m m (packP (bitsD (pxD v f n)) m)) := ⟨(HS.out.2.1.1.mono (by have := n1.out; omega)).kept GZ (Or.inr (fun e => hgw (by injection e))), HS.out.2.1.2⟩
      clear A2 GZ hZz HS hgw
      go_wp2_with fail
      refine bodyPost_ret (v := .agg #[.int .i64 (v : Int), .int .i64 (u : Int), .slice (some ⟨gb, 0, none⟩) m m]) (by simp [results, Try.results22, go_sem, r0, r1, r2]) rfl ?_
      exact ⟨gb, rfl, hO9.out, hB.out⟩
end Go.Proofs.Ytcgfoagfoncjiaa
