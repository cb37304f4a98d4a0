/-
  The walk of LexQuote.
-/
import Derived.Test.YtdeiellkcjdhjaaLexQuoP
namespace Go.Proofs.Ytdeiellkcjdhjaa
open Go.RowKit Lx

namespace Lx
theorem all_quote {l : List UInt8} (h : l.all plainB = true) (hl : l.length ≤ 60) : allS (stg (34 :: escAll l ++ [34])) = some (.ok [⟨3, l, 1⟩] 1) := by
  have hs : (stg (34 :: escAll l ++ [34])).size ≤ 20000 := by
    rw [← bys_len, bys_stg]
    have := escAll_len l
    simp
    omega
  show (if _ then _ else _) = _
  rw [if_neg (by omega), bys_stg]
  exact congrArg some (lexS_quote l h 1)
theorem all_empty : allS ⟨#[]⟩ = some (.ok [] 1) := by
  show (if _ then _ else _) = _
  rw [if_neg (by decide), show bys ⟨#[]⟩ = [] from rfl, lexS_nil]
end Lx

set_option maxHeartbeats 3200000 in
set_option maxRecDepth 100000 in
theorem quoteLaw_c (S : ByteArray) (w : World) (_ : S.size ≤ maxLen) :
    Calls Try.prog 4 #[.string S] w fun e w' => e = .returned (.bool true) ∧ Below w.heap.size w w' := by
  have HC := Lib.hid (short_c S 60 w)
  go_enter Try.func4, Try.ntmps4
  go_wp2_with fail
  refine HC.out.mono ?_
  rintro e w1 ⟨T, rfl, hT, rfl⟩
  have H1 := quote_c T w (by omega)
  have H2 := fun W => refquote_c T W (by omega)
  cases hp : (bys T).all plainB with
  | true =>
    rw [quoV_yes hp] at H1
    simp only [quoV_yes hp] at H2
    have hall := Lib.hid (all_quote hp (by rw [bys_len]; exact hT))
    obtain ⟨Q, hQ⟩ : ∃ Q : ByteArray, Hid (stg (34 :: escAll (bys T) ++ [34]) = Q) := ⟨stg (34 :: escAll (bys T) ++ [34]), Lib.hid rfl⟩
    have hQs : Q.size ≤ 1000000 := by
      have := escAll_len (bys T)
      rw [bys_len] at this
      rw [← hQ.out, ← bys_len, bys_stg]
      simp
      omega
    have hall2 := hall.out
    simp only [hQ.out] at H1 H2 hall2
    have hall2 := Lib.hid hall2
    have H1 := Lib.hid H1
    have H2 := Lib.hid H2
    have hqq : (Q.toList != Q.toList) = false := by simp
    clear HC hp hall
    go_wp2_with fail
    refine H1.out.mono ?_
    rintro e w2 ⟨rfl, b2⟩
    have B2 := Lib.hid b2
    clear b2
    go_wp2_with fail
    refine (H2.out w2).mono ?_
    rintro e w3 ⟨rfl, rfl⟩
    have H3 := Lib.hid (all_c Q w2 hQs)
    go_wp2_with fail
    refine H3.out.mono ?_
    rintro e w3 ⟨hO, b3⟩
    rw [hall2.out] at hO
    obtain ⟨ao, c, rfl, O⟩ := hO.ok
    have hlen : (([⟨3, bys T, 1⟩] : List Tok).length + 1 : Nat) = 2 := rfl
    rw [hlen] at O ⊢
    obtain ⟨W3, hW3⟩ : ∃ W, Hid (W = w3.alloc (.cells #[.int .i64 0, .int .i64 0] 26)) := ⟨_, rfl⟩
    have b4 : Below w3.heap.size w3 W3 := by rw [hW3.out]; exact (Below.refl _ _).alloc (Nat.le_refl _) _
    have A4 : Arr W3 w3.heap.size 26 [.int .i64 0, .int .i64 0] := by rw [hW3.out]; exact Arr.new w3 _ _
    have B3 := B2.out.trans (b3.mono B2.out.size)
    have B4 := Lib.hid (B3.trans (b4.mono B3.size))
    have O4 := Lib.hid (O.keep b4)
    have A4 := Lib.hid A4
    have HA := Lib.hid (awake_c W3)
    clear H1 H2 H3 hO O b3 b4 B3 hlen
    go_wp2_with fail
    rw [← hW3.out]
    refine HA.out.mono ?_
    rintro e w5 ⟨rfl, b5⟩
    have A5 := A4.out.kept b5
    have q0 := A5.cell 0
    have q1 := A5.cell 1
    obtain ⟨g, hg, _, y1, y2, y3⟩ := (O4.out.keep b5).at3 0 (by omega) ⟨3, bys T, 1⟩ rfl 0 1 2 rfl rfl rfl
    have y1' : w5.cell? ⟨g, 0, none⟩ = some (.int .i64 3) := y1
    have y3' : w5.cell? ⟨g, 2, none⟩ = some (.int .i64 1) := y3
    have y2' : w5.cell? ⟨g, 1, none⟩ = some (.string T) := by rw [y2]; congr 2
    have htt : (T.toList == T.toList) = true := by simp
    have B5 := Lib.hid (B4.out.trans (b5.mono B4.out.size))
    subst hg
    clear HA A5 b5 y1 y2 y3 O4
    go_wp2_with fail
    go_ret
    exact ⟨rfl, B5.out⟩
  | false =>
    rw [quoV_no hp] at H1
    simp only [quoV_no hp] at H2
    have H1 := Lib.hid H1
    have H2 := Lib.hid H2
    clear HC hp
    go_wp2_with fail
    refine H1.out.mono ?_
    rintro e w2 ⟨rfl, b2⟩
    have B2 := Lib.hid b2
    clear b2
    go_wp2_with fail
    refine (H2.out w2).mono ?_
    rintro e w3 ⟨rfl, rfl⟩
    have H3 := Lib.hid (all_c ⟨#[]⟩ w2 (by decide))
    go_wp2_with fail
    refine H3.out.mono ?_
    rintro e w3 ⟨hO, b3⟩
    rw [all_empty] at hO
    obtain ⟨ao, c, rfl, O⟩ := hO.ok
    obtain ⟨W3, hW3⟩ : ∃ W, Hid (W = w3.alloc (.cells #[.int .i64 0, .int .i64 0] 26)) := ⟨_, rfl⟩
    have b4 : Below w3.heap.size w3 W3 := by rw [hW3.out]; exact (Below.refl _ _).alloc (Nat.le_refl _) _
    have B3 := B2.out.trans (b3.mono B2.out.size)
    have B4 := Lib.hid (B3.trans (b4.mono B3.size))
    have HA := Lib.hid (awake_c W3)
    clear H1 H2 H3 hO O b3 b4 B3
    go_wp2_with fail
    rw [← hW3.out]
    refine HA.out.mono ?_
    rintro e w5 ⟨rfl, b5⟩
    have B5 := Lib.hid (B4.out.trans (b5.mono B4.out.size))
    clear HA b5
    go_wp2_with fail
    go_ret
    exact ⟨rfl, B5.out⟩
end Go.Proofs.Ytdeiellkcjdhjaa
