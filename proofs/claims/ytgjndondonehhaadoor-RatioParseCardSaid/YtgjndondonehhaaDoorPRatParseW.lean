import Derived.Test.YtgjndondonehhaaDoorPRatRead2
import Derived.Test.YtgjndondonehhaaDoorPk2
/-
  The walk of RatioParse.
-/
namespace Go.Proofs.YtgjndondonehhaaDoor
open Go.RowKit NatMath RatMath

theorem pv_num {s : ByteArray} (h : numB s = true) : pv s = limbs (numG s 0 s.size) := by unfold pv; rw [if_pos h]

set_option maxHeartbeats 6400000 in
set_option maxRecDepth 100000 in
theorem rparseLaw_c (s : ByteArray) (w : World) (_ : s.size ≤ maxLen) (htab : Tab w) :
    Calls Tryd.prog 11 #[.string s] w fun e w' => e = .returned (.bool true) ∧ Below w.heap.size w w' := by
  have HT := Lib.hid htab; clear htab
  go_enter Tryd.func11, Tryd.ntmps11
  go_wp2_with fail
  obtain ⟨T, hT⟩ : ∃ T, s.extract 0 (min (s.size : Int) 30).toNat = T := ⟨_, rfl⟩
  have hTs : T.size ≤ 30 := by
    rw [← hT, ByteArray.size_extract]
    omega
  rw [hT]
  clear hT
  have hps := parts_size T
  obtain ⟨K, hK⟩ : ∃ K, Hid (K = okP T) := ⟨_, rfl⟩
  have hp := rparse_c T w (by omega) (by omega) (by omega)
  have hr := fun w1 => read2_c T w1 (by omega)
  rw [← hK.out] at hp hr
  have HR := Lib.hid hr
  clear hr hps
  refine hp.mono ?_
  rintro e w1 ⟨b, a1, n1, c1, b1, m1, d1, rfl, hn1, hm1, h1, h2, B1⟩
  clear hp
  have bz := (Below.refl w1.heap.size w1).alloc (Nat.le_refl _) (.cells #[.bool b, .slice a1 n1 c1, .slice b1 m1 d1] 47)
  have kR := Blk.new w1 47 #[.bool b, .slice a1 n1 c1, .slice b1 m1 d1]
  have bb := B1.trans (bz.mono B1.size)
  have P1 := Lib.hid (fun h => (h1 h).2.1.lst.below bz); have P2 := Lib.hid (fun h => (h1 h).2.2.lst.below bz)
  have N1 := Lib.hid (fun h => (h2 h).2.1.lst.below bz); have N2 := Lib.hid (fun h => (h2 h).2.2.lst.below bz)
  have E1 := Lib.hid (fun h => (h1 h).1); have E2 := Lib.hid (fun h => (h2 h).1)
  obtain ⟨g, hg⟩ : ∃ g, Hid (g = w1.heap.size) := ⟨_, rfl⟩
  clear h1 h2 B1 bz
  go_wp2_with fail
  obtain ⟨W1, hW1⟩ : ∃ W, W = w1.alloc (.cells #[.bool b, .slice a1 n1 c1, .slice b1 m1 d1] 47) := ⟨_, rfl⟩
  rw [← hW1] at kR bb P1 P2 N1 N2 ⊢
  rw [← hg.out] at kR ⊢
  clear hW1
  refine (HR.out W1).mono ?_
  rintro e w2 ⟨b2, a2, n2, c2, b3, m2, d2, rfl, h3, B2⟩
  have kR2 := kR.on B2
  have bb2 := bb.trans (B2.mono bb.size)
  have bz := (Below.refl w2.heap.size w2).alloc (Nat.le_refl _) (.cells #[.bool b2, .slice a2 n2 c2, .slice b3 m2 d2] 50)
  have kX := Blk.new w2 50 #[.bool b2, .slice a2 n2 c2, .slice b3 m2 d2]
  have kR3 := kR2.on bz
  have bb3 := bb2.trans (bz.mono bb2.size)
  have P3 := Lib.hid (fun h => ((P1.out h).below B2).below bz); have P4 := Lib.hid (fun h => ((P2.out h).below B2).below bz)
  have N3 := Lib.hid (fun h => ((N1.out h).below B2).below bz); have N4 := Lib.hid (fun h => ((N2.out h).below B2).below bz)
  have X1 := Lib.hid (fun h => (h3 h).2.1.lst.below bz); have X2 := Lib.hid (fun h => (h3 h).2.2.1.lst.below bz)
  have F1 := Lib.hid (fun h => (h3 h).1); have F2 := Lib.hid (fun h => (h3 h).2.2.2)
  obtain ⟨g2, hg2⟩ : ∃ g, Hid (g = w2.heap.size) := ⟨_, rfl⟩
  clear kR bb P1 P2 N1 N2 kR2 bb2 B2 bz h3 HR
  obtain ⟨W2, hW2⟩ : ∃ W, Hid (W = w2.alloc (.cells #[.bool b2, .slice a2 n2 c2, .slice b3 m2 d2] 50)) := ⟨_, rfl⟩
  rw [← hW2.out] at kX kR3 bb3 P3 P4 N3 N4 X1 X2
  rw [← hg2.out] at kX
  have KX := Lib.hid kX; have KR := Lib.hid kR3; have BB := Lib.hid bb3
  clear kX kR3 bb3
  cases K with
  | true =>
    obtain ⟨s1, s2, s3, _⟩ := okP_spec hK.out.symm
    have p3 := P3.out rfl
    have p4 := P4.out rfl
    rw [pv_num s1] at p3
    rw [pv_num s2] at p4
    have x1 := X1.out rfl
    have x2 := X2.out rfl
    have e1 := E1.out rfl
    have e2 := F1.out rfl
    obtain ⟨l1, l2⟩ := F2.out rfl
    have his := fun w (hb : Below W2.heap.size W2 w) => is2_c b b2 a1 b1 a2 b3 n1 c1 m1 d1 n2 c2 m2 d2 (valP T).p (valP T).q _ _ w (p3.below hb) (p4.below hb) (x1.below hb) (x2.below hb) (by omega) (by omega)
    rw [decide_eq_true (show b = b2 ∧ limbs (numG (numT T) 0 (numT T).size) = limbs (valP T).p ∧ limbs (numG (denT T) 0 (denT T).size) = limbs (valP T).q from ⟨by rw [e1, e2], rfl, rfl⟩)] at his
    have HIS := Lib.hid his
    clear his p3 p4 x1 x2 e1 e2 l1 l2 s1 s2 s3 P3 P4 N3 N4 X1 X2 E1 E2 F1 F2 hK
    go_wp2_with fail
    rw [← hW2.out, ← hg2.out]
    refine (awake2_c W2 (HT.out.below BB.out)).mono ?_
    rintro e v1 ⟨rfl, B1⟩
    have KX1 := KX.out.on B1
    have KR1 := KR.out.on B1
    obtain ⟨y0, y1, y2⟩ := KR1.cells3
    obtain ⟨yy0, yy1, yy2⟩ := KX1.cells3
    have HC := Lib.hid (HIS.out v1 B1)
    have BB1 := Lib.hid (BB.out.trans (B1.mono BB.out.size))
    clear KX1 KR1 B1 HIS
    go_wp2_with fail
    refine HC.out.mono ?_
    rintro e v2 ⟨rfl, B2⟩
    go_wp2_with fail
    go_ret
    exact ⟨rfl, BB1.out.trans (B2.mono BB1.out.size)⟩
  | false =>
    have p3 := N3.out rfl
    have p4 := N4.out rfl
    have e1 := E2.out rfl
    subst e1
    have his := fun w (hb : Below W2.heap.size W2 w) => eq2_c false false a1 b1 none none n1 c1 m1 d1 0 0 0 0 [] [] [] [] w (p3.below hb) (p4.below hb) (Lst.nil _ _) (Lst.nil _ _)
    rw [decide_eq_true (show false = false ∧ ([] : List Int) = [] ∧ ([] : List Int) = [] from ⟨rfl, rfl, rfl⟩)] at his
    have HIS := Lib.hid his
    clear his p3 p4 P3 P4 N3 N4 X1 X2 E1 E2 F1 F2 hK
    go_wp2_with fail
    rw [← hW2.out, ← hg2.out]
    refine (awake2_c W2 (HT.out.below BB.out)).mono ?_
    rintro e v1 ⟨rfl, B1⟩
    have KX1 := KX.out.on B1
    have KR1 := KR.out.on B1
    obtain ⟨y0, y1, y2⟩ := KR1.cells3
    obtain ⟨yy0, yy1, yy2⟩ := KX1.cells3
    have HC := Lib.hid (HIS.out v1 B1)
    have BB1 := Lib.hid (BB.out.trans (B1.mono BB.out.size))
    clear KX1 KR1 B1 HIS
    go_wp2_with fail
    refine HC.out.mono ?_
    rintro e v2 ⟨rfl, B2⟩
    go_wp2_with fail
    go_ret
    exact ⟨rfl, BB1.out.trans (B2.mono BB1.out.size)⟩
end Go.Proofs.YtgjndondonehhaaDoor
