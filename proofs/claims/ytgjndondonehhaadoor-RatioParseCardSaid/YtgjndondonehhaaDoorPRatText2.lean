import Derived.Test.YtgjndondonehhaaDoorPk2
import Derived.Test.YtgjndondonehhaaDoorNatDig
import Derived.Test.YtgjndondonehhaaDoorNatRefCmp
import Derived.Test.YtgjndondonehhaaDoorNatRead
import Derived.Deep.RegionHeld3
/-
  electionref02.Text.
-/
namespace Go.Proofs.YtgjndondonehhaaDoor
open Go.RowKit NatMath RatMath

set_option maxHeartbeats 3200000 in
set_option maxRecDepth 100000 in
theorem text2_c (t : Bool) (a1 b1 : Option Addr) (n1 c1 m1 d1 P Q : Nat) (w : World) (h : LstB w a1 n1 c1 (bitsN P)) (k : LstB w b1 m1 d1 (bitsN Q)) (hn : n1 ≤ 200) (hm : m1 ≤ 200) (hP : P < 2 ^ 160) (hQ : Q < 2 ^ 160) :
    Calls Tryd.prog 45 #[.agg #[.bool t, .slice a1 n1 c1, .slice b1 m1 d1]] w fun e w' => e = .returned (.string (tx ⟨t, P, Q⟩)) ∧ Below w.heap.size w w' := by
  obtain ⟨T, hT⟩ : ∃ T, Hid (T = tx ⟨t, P, Q⟩) := ⟨_, rfl⟩
  rw [← hT.out]
  have H := Lib.hid h; have K := Lib.hid k
  clear h k
  obtain ⟨D1, hD1⟩ : ∃ D1, Hid (D1 = dg P) := ⟨_, rfl⟩
  obtain ⟨D2, hD2⟩ : ∃ D2, Hid (D2 = dg Q) := ⟨_, rfl⟩
  have hs1 := dg_size hP
  have hs2 := dg_size hQ
  rw [← hD1.out] at hs1
  rw [← hD2.out] at hs2
  clear hP hQ
  go_enter Tryd.func45, Tryd.ntmps45
  go_wp2_with fail
  have kA := Blk.new w 50 #[.bool t, .slice a1 n1 c1, .slice b1 m1 d1]
  have bb := (Below.refl w.heap.size w).alloc (Nat.le_refl _) (.cells #[.bool t, .slice a1 n1 c1, .slice b1 m1 d1] 50)
  obtain ⟨W0, hW0⟩ : ∃ W0, W0 = w.alloc (.cells #[.bool t, .slice a1 n1 c1, .slice b1 m1 d1] 50) := ⟨_, rfl⟩
  rw [← hW0] at kA bb
  obtain ⟨r0, r1, r2⟩ := kA.cells3
  rw [hW0] at r0 r1 r2
  have HW0 := Lib.hid hW0
  have KA := Lib.hid kA; have BB0 := Lib.hid bb
  clear hW0 kA bb
  have HX1 := Lib.hid (digits_c a1 n1 c1 P W0 (H.out.below BB0.out) hn)
  go_wp2_with fail
  rw [← HW0.out]
  refine HX1.out.mono ?_
  rintro e w2 ⟨he, B2⟩
  have he2 : e = .returned (.string D1) := by rw [he, hD1.out]; rfl
  clear he
  subst he2
  have K3 := KA.out.on B2
  have BB3 := Lib.hid (BB0.out.trans (B2.mono BB0.out.size))
  obtain ⟨y0, y1, y2⟩ := K3.cells3
  have DK : Hid (Blk w2.drew w.heap.size 50 #[.bool t, .slice a1 n1 c1, .slice b1 m1 d1]) := K3
  have DB : Hid (Below w.heap.size w w2.drew) := BB3.out.drew
  clear K3 B2 r0 r1 r2 HW0 KA BB0 HX1
  cases t with
  | true =>
    have hcat : (({ data := #[45] } : ByteArray) ++ D1).size = 1 + D1.size := by rw [ByteArray.size_append]; rfl
    by_cases hq : Q = 1
    · have hc : cmpI (Q : Int) ((1 : Nat) : Int) = 0 := by rw [hq]; decide
      have HTX : Hid (T = (⟨#[45]⟩ ++ D1)) := by show _ = _; rw [hT.out, hD1.out]; unfold tx; rw [if_pos hq]; rfl
      clear hq
      go_wp2_with fail
      go_region_held3 (fun w' => w'.cell? ⟨w.heap.size, 0, none⟩ = some (.bool true) ∧ w'.cell? ⟨w.heap.size, 1, none⟩ = some (.slice a1 n1 c1) ∧ w'.cell? ⟨w.heap.size, 2, none⟩ = some (.slice b1 m1 d1)) (go_keep) (first
        | (go_at_call 78; refine (small_c 1 w2.drew (by omega)).mono ?_; rintro e v1 ⟨a3, n3, c3, rfl, o3, B1⟩; have A1 := DK.out.on B1; obtain ⟨z0, z1, z2⟩ := A1.cells3; have BB1 := DB.out.trans (B1.mono DB.out.size); have L1 := K.out.below BB1; have L3 := o3.lst)
        | (go_at_call 56; have hcm := cmpT_c b1 a3 m1 d1 n3 c3 (bitsN Q) (bitsN 1) v1 L1 L3; rw [bval_bitsN, bval_bitsN, hc] at hcm; refine hcm.mono ?_; rintro e v2 ⟨rfl, rfl⟩; clear hcm))
      go_wp2_with fail
      go_ret
      refine ⟨?_, BB1⟩
      rw [HTX.out]
      rfl
    · obtain ⟨g, hg⟩ : ∃ g, Hid (g = cmpI (Q : Int) ((1 : Nat) : Int)) := ⟨_, rfl⟩
      have hg0 : (g == 0) = false := by
        rw [hg.out]
        unfold cmpI
        split
        · rfl
        · split
          · rfl
          · omega
      have HTX : Hid (T = (⟨#[45]⟩ ++ D1) ++ (⟨#[47]⟩ ++ D2)) := by show _ = _; rw [hT.out, hD1.out, hD2.out]; unfold tx; rw [if_neg hq]; rfl
      have hcat2 : (({ data := #[47] } : ByteArray) ++ D2).size = 1 + D2.size := by rw [ByteArray.size_append]; rfl
      clear hq
      go_wp2_with fail
      go_region_held3 (fun w' => w'.cell? ⟨w.heap.size, 0, none⟩ = some (.bool true) ∧ w'.cell? ⟨w.heap.size, 1, none⟩ = some (.slice a1 n1 c1) ∧ w'.cell? ⟨w.heap.size, 2, none⟩ = some (.slice b1 m1 d1)) (go_keep) (first
        | (go_at_call 78; refine (small_c 1 w2.drew (by omega)).mono ?_; rintro e v1 ⟨a3, n3, c3, rfl, o3, B1⟩; have A1 := DK.out.on B1; obtain ⟨z0, z1, z2⟩ := A1.cells3; have BB1 := DB.out.trans (B1.mono DB.out.size); have L1 := K.out.below BB1; have L3 := o3.lst)
        | (go_at_call 56; have hcm := cmpT_c b1 a3 m1 d1 n3 c3 (bitsN Q) (bitsN 1) v1 L1 L3; rw [bval_bitsN, bval_bitsN, ← hg.out] at hcm; refine hcm.mono ?_; rintro e v2 ⟨rfl, rfl⟩; clear hcm))
      have HX2 := Lib.hid (digits_c b1 m1 d1 Q v1 L1 hm)
      have BV1 := Lib.hid BB1
      clear BB1
      go_wp2_with fail
      refine HX2.out.mono ?_
      rintro e v3 ⟨he, B3⟩
      have he2 : e = .returned (.string D2) := by rw [he, hD2.out]; rfl
      clear he
      subst he2
      go_wp2_with fail
      go_ret
      refine ⟨?_, BV1.out.trans (B3.mono BV1.out.size)⟩
      rw [HTX.out]
      rfl
  | false =>
    have hcat : (({ data := #[45] } : ByteArray) ++ D1).size = 1 + D1.size := by rw [ByteArray.size_append]; rfl
    by_cases hq : Q = 1
    · have hc : cmpI (Q : Int) ((1 : Nat) : Int) = 0 := by rw [hq]; decide
      have HTX : Hid (T = D1) := by show _ = _; rw [hT.out, hD1.out]; unfold tx; rw [if_pos hq]; rfl
      clear hq
      go_wp2_with fail
      go_region_held3 (fun w' => w'.cell? ⟨w.heap.size, 0, none⟩ = some (.bool false) ∧ w'.cell? ⟨w.heap.size, 1, none⟩ = some (.slice a1 n1 c1) ∧ w'.cell? ⟨w.heap.size, 2, none⟩ = some (.slice b1 m1 d1)) (go_keep) (first
        | (go_at_call 78; refine (small_c 1 w2.drew (by omega)).mono ?_; rintro e v1 ⟨a3, n3, c3, rfl, o3, B1⟩; have A1 := DK.out.on B1; obtain ⟨z0, z1, z2⟩ := A1.cells3; have BB1 := DB.out.trans (B1.mono DB.out.size); have L1 := K.out.below BB1; have L3 := o3.lst)
        | (go_at_call 56; have hcm := cmpT_c b1 a3 m1 d1 n3 c3 (bitsN Q) (bitsN 1) v1 L1 L3; rw [bval_bitsN, bval_bitsN, hc] at hcm; refine hcm.mono ?_; rintro e v2 ⟨rfl, rfl⟩; clear hcm))
      go_wp2_with fail
      go_ret
      refine ⟨?_, BB1⟩
      rw [HTX.out]
      rfl
    · obtain ⟨g, hg⟩ : ∃ g, Hid (g = cmpI (Q : Int) ((1 : Nat) : Int)) := ⟨_, rfl⟩
      have hg0 : (g == 0) = false := by
        rw [hg.out]
        unfold cmpI
        split
        · rfl
        · split
          · rfl
          · omega
      have HTX : Hid (T = D1 ++ (⟨#[47]⟩ ++ D2)) := by show _ = _; rw [hT.out, hD1.out, hD2.out]; unfold tx; rw [if_neg hq]; rfl
      have hcat2 : (({ data := #[47] } : ByteArray) ++ D2).size = 1 + D2.size := by rw [ByteArray.size_append]; rfl
      clear hq
      go_wp2_with fail
      go_region_held3 (fun w' => w'.cell? ⟨w.heap.size, 0, none⟩ = some (.bool false) ∧ w'.cell? ⟨w.heap.size, 1, none⟩ = some (.slice a1 n1 c1) ∧ w'.cell? ⟨w.heap.size, 2, none⟩ = some (.slice b1 m1 d1)) (go_keep) (first
        | (go_at_call 78; refine (small_c 1 w2.drew (by omega)).mono ?_; rintro e v1 ⟨a3, n3, c3, rfl, o3, B1⟩; have A1 := DK.out.on B1; obtain ⟨z0, z1, z2⟩ := A1.cells3; have BB1 := DB.out.trans (B1.mono DB.out.size); have L1 := K.out.below BB1; have L3 := o3.lst)
        | (go_at_call 56; have hcm := cmpT_c b1 a3 m1 d1 n3 c3 (bitsN Q) (bitsN 1) v1 L1 L3; rw [bval_bitsN, bval_bitsN, ← hg.out] at hcm; refine hcm.mono ?_; rintro e v2 ⟨rfl, rfl⟩; clear hcm))
      have HX2 := Lib.hid (digits_c b1 m1 d1 Q v1 L1 hm)
      have BV1 := Lib.hid BB1
      clear BB1
      go_wp2_with fail
      refine HX2.out.mono ?_
      rintro e v3 ⟨he, B3⟩
      have he2 : e = .returned (.string D2) := by rw [he, hD2.out]; rfl
      clear he
      subst he2
      go_wp2_with fail
      go_ret
      refine ⟨?_, BV1.out.trans (B3.mono BV1.out.size)⟩
      rw [HTX.out]
      rfl
end Go.Proofs.YtgjndondonehhaaDoor
