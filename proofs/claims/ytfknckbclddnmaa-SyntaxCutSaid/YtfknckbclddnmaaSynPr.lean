/-
  A printer: words, quoted strings, values.
-/
import Derived.Test.YtfknckbclddnmaaSynBld
import Derived.Test.YtfknckbclddnmaaSynShown
import Derived.Test.YtfknckbclddnmaaSynCanon
import Derived.Test.YtfknckbclddnmaaLexQuoP
namespace Go.Proofs.Ytfknckbclddnmaa
open Go.RowKit Lx

namespace Lx
theorem word_bare {c : UInt8} {r : List UInt8} (h : bareB (c :: r) = true) : decide (97 ≤ c.toNat) = wordB (c :: r) := by
  cases hw : wordB (c :: r) with
  | true =>
    have h' : (letB c && r.all tailB) = true := hw
    rw [Bool.and_eq_true] at h'
    have := h'.1
    unfold letB at this
    rw [Bool.and_eq_true, decide_eq_true_eq] at this
    exact decide_eq_true this.1
  | false =>
    have hd : ∀ u : List UInt8, numB u = true → ∀ d q, u = d :: q → digB d = true := by
      intro u hu d q e
      subst e
      have h' : ((d :: q).all digB && decide (q.length ≤ 5) && (q.isEmpty || !decide (d.toNat = 48))) = true := hu
      rw [Bool.and_eq_true, Bool.and_eq_true, List.all_cons, Bool.and_eq_true] at h'
      exact h'.1.1.1
    have hdig : digB c = true := by
      cases hn : numB (c :: r) with
      | true => exact hd _ hn c r rfl
      | false =>
        obtain ⟨f1, _, f3⟩ := bare_frac h hw hn
        cases hh : headF (c :: r) with
        | nil => rw [hh] at f1; cases f1
        | cons d q =>
          rw [hh] at f1 f3
          injection f3 with e _
          rw [e]
          exact hd _ f1 d q rfl
    unfold digB at hdig
    rw [Bool.and_eq_true, decide_eq_true_eq, decide_eq_true_eq] at hdig
    exact decide_eq_false (by omega)
theorem bare_nil : bareB [] = false := rfl
theorem not_bare_word {l : List UInt8} (h : bareB l = false) : wordB l = false := by
  cases hw : wordB l with
  | true => rw [bare_word hw] at h; cases h
  | false => rfl
end Lx

set_option maxHeartbeats 1600000 in
set_option maxRecDepth 100000 in
theorem prIsWord_c (s : ByteArray) (w : World) (hs : s.size ≤ 1000000) :
    Calls Try.prog 76 #[.string s] w fun e w' => e = .returned (.bool (wordB (bys s))) ∧ ∃ q, w.drewN q = w' := by
  have HB := bare_c s w hs
  cases hb : bareB (bys s) with
  | false =>
    rw [hb] at HB
    rw [not_bare_word hb]
    replace HB := Lib.hid HB
    clear hb
    go_enter Try.func76, Try.ntmps76
    go_wp2_with fail
    refine HB.out.mono ?_
    rintro e w' ⟨rfl, q, rfl⟩
    go_wp2_with fail
    go_ret
    exact ⟨rfl, q, rfl⟩
  | true =>
    rw [hb] at HB
    have hpos : 0 < s.size := by
      rcases Nat.eq_zero_or_pos s.size with h0 | h0
      · rw [bys_zero h0, bare_nil] at hb; cases hb
      · exact h0
    obtain ⟨c, hc, x1, _⟩ := at_0 s hpos
    rw [hc.out] at hb
    have hw := word_bare hb
    rw [← hc.out] at hw
    obtain ⟨W, hW⟩ : ∃ W, Hid (wordB (bys s) = W) := ⟨_, rfl⟩
    rw [hW.out] at hw ⊢
    have hw' : decide (((c.toNat : Nat) : Int) ≥ 97) = W := by
      rw [← hw, Bool.eq_iff_iff, decide_eq_true_eq, decide_eq_true_eq]
      omega
    replace HB := Lib.hid HB
    clear hb hw hc
    go_enter Try.func76, Try.ntmps76
    go_wp2_with fail
    refine HB.out.mono ?_
    rintro e w' ⟨rfl, q, rfl⟩
    go_wp2_with fail
    go_ret
    exact ⟨rfl, q, rfl⟩

set_option maxHeartbeats 1600000 in
set_option maxRecDepth 100000 in
theorem prWord_c (B g : Nat) (l : List UInt8) (s : ByteArray) (w : World) (h : Bld B g l w) (hB : B ≤ w.heap.size) (hs : s.size ≤ 1000000) :
    Calls Try.prog 62 #[.pointer (some ⟨g, 0, none⟩), .string s] w fun e w' => PrOut B g l (bys s) (wordB (bys s)) w w' e := by
  have HW := prIsWord_c s w hs
  cases hw : wordB (bys s) with
  | false =>
    rw [hw] at HW
    replace HW := Lib.hid HW
    clear hw h
    go_enter Try.func62, Try.ntmps62
    go_wp2_with fail
    refine HW.out.mono ?_
    rintro e w' ⟨rfl, q, rfl⟩
    go_wp2_with fail
    go_ret
    exact ⟨false, rfl, rfl, fun e => (by cases e), below_drewN (Below.refl _ _) q, Kp.below (below_drewN (Below.refl _ _) q)⟩
  | true =>
    rw [hw] at HW
    replace HW := Lib.hid HW
    replace h := Lib.hid h
    clear hw
    go_enter Try.func62, Try.ntmps62
    go_wp2_with fail
    refine HW.out.mono ?_
    rintro e w' ⟨rfl, q, rfl⟩
    have HP := Lib.hid (prPlain_c B g l s (w.drewN q) (h.out.low (below_drewN (Below.refl _ _) q)) hB (by omega))
    go_wp2_with fail
    refine HP.out.mono ?_
    rintro e w2 ⟨b, hb, rfl, h1, h2, h3⟩
    replace hb := Lib.hid hb
    replace h1 := Lib.hid h1
    have h2 := Lib.hid ((below_drewN (Below.refl B w) q).trans h2)
    clear HP HW
    go_wp2_with fail
    go_ret
    exact ⟨b, hb.out, rfl, h1.out, h2.out, (Kp.below (below_drewN (Below.refl _ _) q)).trans h3⟩

set_option maxHeartbeats 1600000 in
set_option maxRecDepth 100000 in
theorem prQuoted_c (B g : Nat) (l : List UInt8) (s : ByteArray) (w : World) (h : Bld B g l w) (hB : B ≤ w.heap.size) (hs : s.size ≤ 1000000) :
    Calls Try.prog 40 #[.pointer (some ⟨g, 0, none⟩), .string s] w fun e w' => PrOut B g l (quoP (bys s)) ((bys s).all plainB) w w' e := by
  have HQ := quote_c s w hs
  cases hp : (bys s).all plainB with
  | false =>
    rw [quoV_no hp] at HQ
    replace HQ := Lib.hid HQ
    clear hp h
    go_enter Try.func40, Try.ntmps40
    go_wp2_with fail
    refine HQ.out.mono ?_
    rintro e w' ⟨rfl, hb⟩
    replace hb := Lib.hid hb
    go_wp2_with fail
    go_ret
    exact ⟨false, rfl, rfl, fun e => (by cases e), hb.out.mono hB, Kp.below hb.out⟩
  | true =>
    rw [quoV_yes hp] at HQ
    replace HQ := Lib.hid HQ
    replace h := Lib.hid h
    have hq : (quoP (bys s)).length ≤ 2000002 := by
      have := Lx.esc_len (bys s)
      rw [bys_len] at this
      unfold quoP
      simp only [List.length_append, List.length_cons, List.length_nil]
      omega
    have he : stg (34 :: escAll (bys s) ++ [34]) = stg (quoP (bys s)) := rfl
    have he2 : bys (stg (quoP (bys s))) = quoP (bys s) := bys_stg _
    have hz : (stg (quoP (bys s))).size ≤ 1099511627776 := by rw [← bys_len, he2]; omega
    obtain ⟨T, hT⟩ : ∃ T, Hid (stg (quoP (bys s)) = T) := ⟨_, rfl⟩
    rw [hT.out] at he he2 hz
    obtain ⟨X, hX⟩ : ∃ X, Hid (quoP (bys s) = X) := ⟨_, rfl⟩
    rw [hX.out] at he2 ⊢
    replace he2 := Lib.hid he2
    simp only [he] at HQ
    clear hp hq he
    go_enter Try.func40, Try.ntmps40
    go_wp2_with fail
    refine HQ.out.mono ?_
    rintro e w' ⟨rfl, hb⟩
    have HP := prPlain_c B g l T w' (h.out.low hb) (Nat.le_trans hB hb.size) hz
    rw [he2.out] at HP
    replace HP := Lib.hid HP
    replace hb := Lib.hid hb
    clear HQ
    go_wp2_with fail
    refine HP.out.mono ?_
    rintro e w2 ⟨b, hb1, rfl, h1, h2, h3⟩
    replace hb1 := Lib.hid hb1
    replace h1 := Lib.hid h1
    have h2 := Lib.hid ((hb.out.mono hB).trans h2)
    clear HP
    go_wp2_with fail
    go_ret
    exact ⟨b, hb1.out, rfl, h1.out, h2.out, (Kp.below hb.out).trans h3⟩

set_option maxHeartbeats 1600000 in
set_option maxRecDepth 100000 in
theorem prValue_c (B g : Nat) (l : List UInt8) (s : ByteArray) (w : World) (h : Bld B g l w) (hB : B ≤ w.heap.size) (hs : s.size ≤ 1000000) :
    Calls Try.prog 77 #[.pointer (some ⟨g, 0, none⟩), .string s] w fun e w' => PrOut B g l (valP (bys s)) (valOk (bys s)) w w' e := by
  have HB := bare_c s w hs
  cases hb : bareB (bys s) with
  | true =>
    rw [hb] at HB
    have hok : valOk (bys s) = true := by unfold valOk; rw [hb]; rfl
    rw [hok, valP_bare hb]
    replace HB := Lib.hid HB
    replace h := Lib.hid h
    clear hb hok
    go_enter Try.func77, Try.ntmps77
    go_wp2_with fail
    refine HB.out.mono ?_
    rintro e w' ⟨rfl, q, rfl⟩
    have HP := Lib.hid (prPlain_c B g l s (w.drewN q) (h.out.low (below_drewN (Below.refl _ _) q)) hB (by omega))
    go_wp2_with fail
    refine HP.out.mono ?_
    rintro e w2 ⟨b, hb, rfl, h1, h2, h3⟩
    replace hb := Lib.hid hb
    replace h1 := Lib.hid h1
    have h2 := Lib.hid ((below_drewN (Below.refl B w) q).trans h2)
    clear HP HB
    go_wp2_with fail
    go_ret
    exact ⟨b, hb.out, rfl, h1.out, h2.out, (Kp.below (below_drewN (Below.refl _ _) q)).trans h3⟩
  | false =>
    rw [hb] at HB
    have hok : valOk (bys s) = (bys s).all plainB := by unfold valOk; rw [hb]; rfl
    rw [hok, valP_quo hb]
    replace HB := Lib.hid HB
    replace h := Lib.hid h
    obtain ⟨X, hX⟩ : ∃ X, Hid (quoP (bys s) = X) := ⟨_, rfl⟩
    obtain ⟨Y, hY⟩ : ∃ X, Hid ((bys s).all plainB = X) := ⟨_, rfl⟩
    rw [hX.out, hY.out]
    clear hb hok
    go_enter Try.func77, Try.ntmps77
    go_wp2_with fail
    refine HB.out.mono ?_
    rintro e w' ⟨rfl, q, rfl⟩
    have HP := prQuoted_c B g l s (w.drewN q) (h.out.low (below_drewN (Below.refl _ _) q)) hB hs
    rw [hX.out, hY.out] at HP
    replace HP := Lib.hid HP
    go_wp2_with fail
    refine HP.out.mono ?_
    rintro e w2 ⟨b, hb, rfl, h1, h2, h3⟩
    replace hb := Lib.hid hb
    replace h1 := Lib.hid h1
    have h2 := Lib.hid ((below_drewN (Below.refl B w) q).trans h2)
    clear HP HB
    go_wp2_with fail
    go_ret
    exact ⟨b, hb.out, rfl, h1.out, h2.out, (Kp.below (below_drewN (Below.refl _ _) q)).trans h3⟩
end Go.Proofs.Ytfknckbclddnmaa
