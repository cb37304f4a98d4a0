/-
  lex.unquote.
-/
import Derived.Test.YtfknckbclddnmaaLexStrs
namespace Go.Proofs.Ytfknckbclddnmaa
open Go.RowKit Lx

namespace Lx
/-- Bytes as the cells' numbers. -/
def intsB (l : List UInt8) : List Int := l.map fun b => ((b.toNat : Nat) : Int)
theorem intsB_len (l : List UInt8) : (intsB l).length = l.length := by simp [intsB]
theorem intsB_next (l : List UInt8) {d : UInt8} {n : Nat} (h : d.toNat = n) : intsB l ++ [(n : Int)] = intsB (l ++ [d]) := by simp [intsB, h]
/-- What unquote hands back: the whole string counts one byte more than its rest. -/
def unqS : Option (List UInt8 × Nat) → ByteArray × Nat
  | none => (⟨#[]⟩, 0)
  | some x => (stg x.1, x.2 + 1)
end Lx
theorem unq_ret {r : Option (List UInt8 × Nat)} {t : ByteArray} {k : Nat} {z : Int} (h : unqS r = (t, k)) (hz : z = k) : Ending.returned (.tuple #[.string t, .int .i64 z]) = .returned (.tuple #[.string (unqS r).1, .int .i64 (((unqS r).2 : Nat) : Int)]) := by rw [h, hz]

set_option maxHeartbeats 3200000 in
set_option maxRecDepth 100000 in
theorem unquote_c (s : ByteArray) (w : World) (hs : s.size ≤ 1000000) (hpos : 0 < s.size) :
    Calls Try.prog 56 #[.string s] w fun e w' => e = .returned (.tuple #[.string (unqS (strS ((bys s).drop 1))).1, .int .i64 (((unqS (strS ((bys s).drop 1))).2 : Nat) : Int)]) ∧ Below w.heap.size w w' := by
  obtain ⟨R, hR⟩ : ∃ R, Hid (strS ((bys s).drop 1) = R) := ⟨_, rfl⟩
  rw [hR.out]
  go_enter Try.func56, Try.ntmps56
  go_wp2_with fail
  go_loopw [4, 5] (fun v i wr => ∃ (j : Nat) (T : List UInt8) (a : Option Addr) (c : Nat), 1 ≤ j ∧ j ≤ s.size ∧ T.length ≤ j ∧ i = .int .i64 j ∧ v = .slice a T.length c ∧ Own 5 .u8 w.heap.size wr a T.length c (intsB T) ∧ Hid (R = addS T (j - 1) (strS ((bys s).drop j))) ∧ Below w.heap.size w wr) (fun _ i _ => s.size - (intOf i).toNat)
  case atStart => exact ⟨1, [], none, 0, Nat.le_refl _, hpos, Nat.zero_le _, rfl, rfl, own_nil _ _ _ _, by show _ = _; rw [hR.out]; exact (addS_zero R).symm, Below.refl _ _⟩
  case round =>
    obtain ⟨j, T, a, c, hj1, hj, hT, rfl, rfl, O, hI, B⟩ := hrel
    have zB := B.size
    by_cases hlt : j < s.size
    · have hlt' : (j : Int) < (s.size : Int) := by omega
      obtain ⟨d, hd, x1⟩ := at_s s j hlt
      have HP := isPrintable_c d wr
      obtain ⟨n, hn⟩ : ∃ n : Nat, Hid (d.toNat = n) := ⟨_, rfl⟩
      obtain ⟨p, hp⟩ : ∃ p, Hid (plainB d = p) := ⟨_, rfl⟩
      rw [hn.out] at x1
      rw [hn.out, hp.out] at HP
      have HP := Lib.hid HP
      have hlt256 : n < 256 := by rw [← hn.out]; exact UInt8.toNat_lt d
      have g0 : (0 : Int) ≤ (n : Int) := by omega
      have g1 : (n : Int) ≤ 255 := by omega
      have HI : Hid (R = addS T (j - 1) (strS (d :: (bys s).drop (j + 1)))) := by show _ = _; rw [hI.out, hd.out]
      clear hI hlt256
      by_cases h34 : n = 34
      · have k34 : ((n : Int) == 34) = true := by simp; omega
        have hN : Hid (unqS R = (stg T, j + 1)) := by
          show _ = _
          rw [HI.out, addS_end _ _ (by rw [hn.out]; exact h34)]
          unfold unqS
          simp only [Prod.mk.injEq, true_and]
          omega
        have hcv := own_string O
        rw [show strOf (intsB T) = stg T from strOf_ints T] at hcv
        clear h34
        go_wp2_with fail
        go_ret2
        exact ⟨unq_ret hN.out (by omega), B⟩
      · have k34 : ((n : Int) == 34) = false := by rw [beq_eq_false_iff_ne]; omega
        have HN34 := Lib.hid h34
        clear h34
        by_cases h92 : n = 92
        · have k92 : ((n : Int) == 92) = true := by simp; omega
          have HN92 := Lib.hid h92
          clear h92
          by_cases hlt2 : j + 1 < s.size
          · have hlt2' : (((j : Int) + 1) == (s.size : Int)) = false := by rw [beq_eq_false_iff_ne]; omega
            obtain ⟨d2, hd2, x2⟩ := at_s s (j + 1) hlt2
            rw [show ((j + 1 : Nat) : Int) = (j : Int) + 1 by omega] at x2
            have HE := isSpecial_c d2 wr
            have HQ := isPrintable_c d2 wr
            obtain ⟨n2, hn2⟩ : ∃ n : Nat, Hid (d2.toNat = n) := ⟨_, rfl⟩
            obtain ⟨b, hb⟩ : ∃ b, Hid (escB d2 = b) := ⟨_, rfl⟩
            rw [hn2.out] at x2
            rw [hn2.out, hb.out] at HE
            rw [hn2.out] at HQ
            have HE := Lib.hid HE
            have HI2 : Hid (R = addS T (j - 1) (strS (d :: d2 :: (bys s).drop (j + 2)))) := by show _ = _; rw [HI.out, hd2.out]
            have hlt256 : n2 < 256 := by rw [← hn2.out]; exact UInt8.toNat_lt d2
            have f0 : (0 : Int) ≤ (n2 : Int) := by omega
            have f1 : (n2 : Int) ≤ 255 := by omega
            clear hlt256
            cases b with
            | true =>
              rw [plain_of_esc hb.out] at HQ
              have HQ := Lib.hid HQ
              have hN : Hid (R = addS (T ++ [d2]) (j + 1) (strS ((bys s).drop (j + 2)))) := by
                show _ = _
                rw [HI2.out, addS_esc _ _ (by rw [hn.out]; exact HN92.out) hb.out, show j - 1 + 2 = j + 1 by omega]
              go_wp2_with fail
              refine HE.out.mono ?_
              rintro e w' ⟨rfl, rfl⟩
              go_wp2_with fail
              refine HQ.out.mono ?_
              rintro e w' ⟨rfl, rfl⟩
              go_wp2_with (at_builtin; refine wpList_app1 (B := w.heap.size) O zB (by omega) f0 f1 rfl rfl ?_)
              intro a2 c2 w2 O2 b2
              rw [intsB_next T hn2.out] at O2
              have B2 := B.trans b2
              clear O B b2
              go_wp2_with fail
              go_roundw
              case rel => exact ⟨j + 2, T ++ [d2], a2, c2, by omega, by omega, by rw [List.length_append]; simp; omega, by go_num, by rw [List.length_append]; rfl, by rw [List.length_append]; exact O2, hN, B2⟩
              case measure => simp [intOf]; omega
            | false =>
              have hN : Hid (unqS R = (⟨#[]⟩, 0)) := by
                show _ = _
                rw [HI2.out, addS_esc_bad _ _ (by rw [hn.out]; exact HN92.out) hb.out]
                rfl
              clear HQ
              go_wp2_with fail
              refine HE.out.mono ?_
              rintro e w' ⟨rfl, rfl⟩
              go_wp2_with fail
              go_ret2
              exact ⟨unq_ret hN.out rfl, B⟩
          · have hlt2' : (((j : Int) + 1) == (s.size : Int)) = true := by simp; omega
            have hN : Hid (unqS R = (⟨#[]⟩, 0)) := by
              show _ = _
              rw [HI.out, List.drop_of_length_le (by rw [bys_len]; omega), addS_esc_end _ _ (by rw [hn.out]; exact HN92.out)]
              rfl
            go_wp2_with fail
            go_ret2
            exact ⟨unq_ret hN.out rfl, B⟩
        · have k92 : ((n : Int) == 92) = false := by rw [beq_eq_false_iff_ne]; omega
          have HN92 := Lib.hid h92
          clear h92
          cases p with
          | true =>
            have hN : Hid (R = addS (T ++ [d]) j (strS ((bys s).drop (j + 1)))) := by
              show _ = _
              rw [HI.out, addS_plain _ _ (by rw [hn.out]; exact HN34.out) (by rw [hn.out]; exact HN92.out) hp.out, show j - 1 + 1 = j by omega]
            go_wp2_with fail
            refine HP.out.mono ?_
            rintro e w' ⟨rfl, rfl⟩
            go_wp2_with (at_builtin; refine wpList_app1 (B := w.heap.size) O zB (by omega) g0 g1 rfl rfl ?_)
            intro a2 c2 w2 O2 b2
            rw [intsB_next T hn.out] at O2
            have B2 := B.trans b2
            clear O B b2
            go_wp2_with fail
            go_roundw
            case rel => exact ⟨j + 1, T ++ [d], a2, c2, by omega, by omega, by rw [List.length_append]; simp; omega, by go_num, by rw [List.length_append]; rfl, by rw [List.length_append]; exact O2, hN, B2⟩
            case measure => simp [intOf]; omega
          | false =>
            have hN : Hid (unqS R = (⟨#[]⟩, 0)) := by
              show _ = _
              rw [HI.out, addS_bad _ _ (by rw [hn.out]; exact HN34.out) hp.out]
              rfl
            go_wp2_with fail
            refine HP.out.mono ?_
            rintro e w' ⟨rfl, rfl⟩
            go_wp2_with fail
            go_ret2
            exact ⟨unq_ret hN.out rfl, B⟩
    · obtain rfl : j = s.size := by omega
      have hN : Hid (unqS R = (⟨#[]⟩, 0)) := by show _ = _; rw [hI.out, bys_end, addS_nil]; rfl
      clear hI
      go_wp2_with fail
      go_ret2
      exact ⟨unq_ret hN.out rfl, B⟩
end Go.Proofs.Ytfknckbclddnmaa
