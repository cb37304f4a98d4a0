/-
  lex.Quote.
-/
import Derived.Test.YtfknckbclddnmaaLexQuo
namespace Go.Proofs.Ytfknckbclddnmaa
open Go.RowKit Lx

namespace Lx
theorem intsB_const (l : List UInt8) (c : UInt8) {z : Int} (h : z = ((c.toNat : Nat) : Int)) : intsB l ++ [z] = intsB (l ++ [c]) := by simp [intsB, h]
end Lx

set_option maxHeartbeats 3200000 in
set_option maxRecDepth 100000 in
theorem quote_c (s : ByteArray) (w : World) (hs : s.size ≤ 1000000) :
    Calls Try.prog 61 #[.string s] w fun e w' => e = .returned (.tuple #[.string (quoV (bys s)).1, .bool (quoV (bys s)).2]) ∧ Below w.heap.size w w' := by
  obtain ⟨i0, hi, hz0, hz1, hz2⟩ := info_parts info5
  obtain ⟨R, hR⟩ : ∃ R, Hid (quoV (bys s) = R) := ⟨_, rfl⟩
  rw [hR.out]
  go_enter Try.func61, Try.ntmps61
  go_wp2_with (at_make; refine wpList_make_own _ rfl _ _ 61 rfl w.heap.size 5 i0 (.int .u8 0) 1 Try.underlying61 hi hz0 hz1 _ _ _ (s.size + 2) rfl rfl rfl ?b2 ?b3 (Nat.le_refl _) ?_)
  case b2 => rw [hz2]; omega
  case b3 => unfold maxLen; omega
  intro w1 hown hgr
  have O1 : Own 5 .u8 w.heap.size w1 (some ⟨w.heap.size, 0, none⟩) 0 (s.size + 2) (intsB []) := ⟨by simpa [intsB] using hown, fun x hx => by cases hx⟩
  have b1 : Below w.heap.size w w1 := (Below.refl _ _).grown hgr (Nat.le_refl _) (fun k hk => by cases hk)
  have z1 := b1.size
  have O1 := Lib.hid O1
  have B1 := Lib.hid b1
  clear hown hgr b1
  go_wp2_with (at_builtin; refine wpList_app1 (B := w.heap.size) O1.out z1 (by omega) (by omega) (by omega) rfl rfl ?_)
  intro a2 c2 w2 O2 b2
  rw [intsB_const (z := 34) [] 34 rfl] at O2
  have O2 := Lib.hid O2
  have B2 := Lib.hid (B1.out.trans b2)
  clear O1 B1 z1 b2
  go_wp2_with fail
  go_loopw [4, 15] (fun v i wr => ∃ (j : Nat) (T : List UInt8) (a : Option Addr) (c : Nat), j ≤ s.size ∧ i = .int .i64 j ∧ v = .slice a T.length c ∧ T.length ≤ 2 * j + 1 ∧ Own 5 .u8 w.heap.size wr a T.length c (intsB T) ∧ Hid (T = 34 :: escAll ((bys s).take j) ∧ ((bys s).take j).all plainB = true) ∧ Below w.heap.size w wr) (fun _ i _ => s.size - (intOf i).toNat)
  case atStart => exact ⟨0, [34], a2, c2, Nat.zero_le _, rfl, rfl, Nat.le_refl _, O2.out, ⟨rfl, rfl⟩, B2.out⟩
  case round =>
    clear O2 B2
    obtain ⟨j, T, a, c, hj, rfl, rfl, hT, O, hI, B⟩ := hrel
    have zB := B.size
    have O := Lib.hid O
    have B := Lib.hid B
    by_cases hlt : j < s.size
    · have hlt' : (j : Int) < (s.size : Int) := by omega
      obtain ⟨d, hd, x1⟩ := at_s s j hlt
      have HP := isPrintable_c d wr
      have HE := isSpecial_c d wr
      obtain ⟨n, hn⟩ : ∃ n : Nat, Hid (d.toNat = n) := ⟨_, rfl⟩
      obtain ⟨p, hp⟩ : ∃ p, Hid (plainB d = p) := ⟨_, rfl⟩
      obtain ⟨b, hb⟩ : ∃ p, Hid (escB d = p) := ⟨_, rfl⟩
      rw [hn.out] at x1
      rw [hn.out, hp.out] at HP
      rw [hn.out, hb.out] at HE
      have HP := Lib.hid HP
      have HE := Lib.hid HE
      have hlt256 : n < 256 := by rw [← hn.out]; exact UInt8.toNat_lt d
      have g0 : (0 : Int) ≤ (n : Int) := by omega
      have g1 : (n : Int) ≤ 255 := by omega
      clear hlt256
      cases p with
      | false =>
        have hN : Hid (R = (⟨#[]⟩, false)) := by show _ = _; rw [← hR.out, quoV_no (all_split hd.out hp.out)]
        go_wp2_with fail
        refine HP.out.mono ?_
        rintro e w' ⟨rfl, rfl⟩
        go_wp2_with fail
        go_ret2
        exact ⟨quo_ret hN.out, B.out⟩
      | true =>
        have hpl : Hid (((bys s).take (j + 1)).all plainB = true) := by
          show _ = _
          rw [take_next_b hd.out, List.all_append, hI.out.2]; simp [hp.out]
        have hnx : Hid (34 :: escAll ((bys s).take (j + 1)) = (34 :: escAll ((bys s).take j)) ++ escL d) := by
          show _ = _
          rw [take_next_b hd.out, escAll_snoc]; rfl
        cases b with
        | true =>
          have hM : Hid ((T ++ [92]) ++ [d] = 34 :: escAll ((bys s).take (j + 1))) := by
            show _ = _
            rw [hnx.out, hI.out.1, escL_yes hb.out, List.append_assoc]; rfl
          clear hI hnx
          go_wp2_with fail
          refine HP.out.mono ?_
          rintro e w' ⟨rfl, rfl⟩
          go_wp2_with fail
          refine HE.out.mono ?_
          rintro e w' ⟨rfl, rfl⟩
          go_wp2_with (at_builtin; refine wpList_app1 (B := w.heap.size) O.out zB (by omega) (by omega) (by omega) rfl rfl ?_)
          intro a2 c2 w2 O2 b2
          rw [intsB_const (z := 92) T 92 rfl] at O2
          have O2 := Lib.hid O2
          have B2 := Lib.hid (B.out.trans b2)
          have z2 := B2.out.size
          clear b2
          go_wp2_with (at_builtin; refine wpList_app1 (B := w.heap.size) O2.out z2 (by omega) g0 g1 rfl rfl ?_)
          intro a3 c3 w3 O3 b3
          rw [intsB_next (T ++ [92]) hn.out] at O3
          have B3 := Lib.hid (B2.out.trans b3)
          have O3 := Lib.hid O3
          clear b3
          obtain ⟨N, hN⟩ : ∃ N, Hid (T.length + 1 + 1 = N) := ⟨_, rfl⟩
          have hl3 : Hid (N = (T ++ [92] ++ [d]).length) := by show _ = _; rw [← hN.out]; simp
          have hN2 : N ≤ 2 * (j + 1) + 1 := by rw [← hN.out]; omega
          rw [hN.out] at O3 ⊢
          go_wp2_with fail
          go_roundw
          case rel => exact ⟨j + 1, T ++ [92] ++ [d], a3, c3, by omega, by go_num, by rw [← hl3.out], by rw [← hl3.out]; exact hN2, by rw [← hl3.out]; exact O3.out, ⟨hM.out, hpl.out⟩, B3.out⟩
          case measure => simp [intOf]; omega
        | false =>
          have hM : Hid (T ++ [d] = 34 :: escAll ((bys s).take (j + 1))) := by
            show _ = _
            rw [hnx.out, hI.out.1, escL_no hb.out]
          clear hI hnx
          go_wp2_with fail
          refine HP.out.mono ?_
          rintro e w' ⟨rfl, rfl⟩
          go_wp2_with fail
          refine HE.out.mono ?_
          rintro e w' ⟨rfl, rfl⟩
          go_wp2_with (at_builtin; refine wpList_app1 (B := w.heap.size) O.out zB (by omega) g0 g1 rfl rfl ?_)
          intro a3 c3 w3 O3 b3
          rw [intsB_next T hn.out] at O3
          have B3 := Lib.hid (B.out.trans b3)
          have O3 := Lib.hid O3
          clear b3
          obtain ⟨N, hN⟩ : ∃ N, Hid (T.length + 1 = N) := ⟨_, rfl⟩
          have hl3 : Hid (N = (T ++ [d]).length) := by show _ = _; rw [← hN.out]; simp
          have hN2 : N ≤ 2 * (j + 1) + 1 := by rw [← hN.out]; omega
          rw [hN.out] at O3 ⊢
          go_wp2_with fail
          go_roundw
          case rel => exact ⟨j + 1, T ++ [d], a3, c3, by omega, by go_num, by rw [← hl3.out], by rw [← hl3.out]; exact hN2, by rw [← hl3.out]; exact O3.out, ⟨hM.out, hpl.out⟩, B3.out⟩
          case measure => simp [intOf]; omega
    · obtain rfl : j = s.size := by omega
      have hfull : (bys s).take s.size = bys s := List.take_of_length_le (by rw [bys_len]; exact Nat.le_refl _)
      have hN : Hid (R = (stg (T ++ [34]), true)) := by
        show _ = _
        have h1 := hI.out.1
        have h2 := hI.out.2
        rw [hfull] at h1 h2
        rw [← hR.out, quoV_yes h2, h1]
      clear hI hfull
      go_wp2_with (at_builtin; refine wpList_app1 (B := w.heap.size) O.out zB (by omega) (by omega) (by omega) rfl rfl ?_)
      intro a3 c3 w3 O3 b3
      rw [intsB_const (z := 34) T 34 rfl] at O3
      have hcv := own_string O3
      rw [show strOf (intsB (T ++ [34])) = stg (T ++ [34]) from strOf_ints _] at hcv
      have B3 := Lib.hid (B.out.trans b3)
      clear O3 b3
      go_wp2_with fail
      go_ret2
      exact ⟨quo_ret hN.out, B3.out⟩
end Go.Proofs.Ytfknckbclddnmaa
