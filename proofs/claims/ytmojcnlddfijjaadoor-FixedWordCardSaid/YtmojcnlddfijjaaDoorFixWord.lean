/-
  electionref03.Of; the walk of FixedWord.
-/
import Derived.Test.YtmojcnlddfijjaaDoorFixAwake
namespace Go.Proofs.YtmojcnlddfijjaaDoor
open Go.RowKit NatMath FixMath

set_option maxHeartbeats 1600000 in
set_option maxRecDepth 100000 in
theorem of3_c (n D : Nat) (w : World) (hn : n ≤ 18446744073709551615) (hD : D ≤ 6) :
    Calls Tryd.prog 38 #[.int .u64 n, .int .i64 D] w fun e w' => ∃ a n' c', e = .returned (.slice a n' c') ∧ OwnT w.heap.size w' a n' c' (bitsN (n * 10 ^ D)) ∧ Below w.heap.size w w' := by
  go_enter Tryd.func38, Tryd.ntmps38
  go_wp2_with fail
  have bb := (Below.refl w.heap.size w).alloc (Nat.le_refl _) (.cells #[.int .u32 ((n : Int) % 4294967296), .int .u32 ((n : Int) / 4294967296)] 77)
  have wf0 : (Lit.int .u32 ((n : Int) % 4294967296)).wf = true := wf_u32 (by omega) (by omega)
  have wf1 : (Lit.int .u32 ((n : Int) / 4294967296)).wf = true := wf_u32 (by omega) (by omega)
  have lit : Own 77 .u32 w.heap.size (w.alloc (.cells #[.int .u32 ((n : Int) % 4294967296), .int .u32 ((n : Int) / 4294967296)] 77)) (some ⟨w.heap.size, 0, none⟩) 2 2 [(n : Int) % 4294967296, (n : Int) / 4294967296] := by
    refine ⟨World.ownsRow_lit w #[.int .u32 ((n : Int) % 4294967296), .int .u32 ((n : Int) / 4294967296)] 2 (Nat.le_refl _) (by unfold maxLen; omega) rfl, ?_⟩
    intro y hy
    simp at hy
    rcases hy with rfl | rfl
    · exact wf0
    · exact wf1
  have hv : val [(n : Int) % 4294967296, (n : Int) / 4294967296] = n := by
    show ((n : Int) % 4294967296).toNat + 4294967296 * (((n : Int) / 4294967296).toNat + 4294967296 * 0) = n
    omega
  have hf := from_c _ _ _ _ _ lit.lst (by omega)
  rw [hv] at hf
  refine hf.mono ?_
  rintro e w1 ⟨a1, n1, c1, rfl, o1, B1⟩
  have hn1 := o1.bound (k := 64) (by have : (2 : Nat) ^ 64 = 18446744073709551616 := by decide
                                     omega)
  have O1 := Lib.hid (o1.low bb.size)
  have BB1 := Lib.hid (bb.trans (B1.mono bb.size))
  clear hf lit bb B1 hv wf0 wf1 o1
  go_wp2_with fail
  refine (ten_c D w1 hD).mono ?_
  rintro e w2 ⟨a2, n2, c2, rfl, o2, B2⟩
  have hn2 := o2.bound (ten_lt hD)
  have hm := mulT_c a1 a2 n1 c1 n2 c2 _ _ w2 (O1.out.kept B2).lst o2.lst (by omega) (by omega)
  rw [bval_bitsN, bval_bitsN] at hm
  have HM := Lib.hid hm
  have BB2 := Lib.hid (BB1.out.trans (B2.mono BB1.out.size))
  clear hm o2 B2
  go_wp2_with fail
  refine HM.out.mono ?_
  rintro e w3 ⟨a3, n3, c3, rfl, o3, B3⟩
  go_wp2_with fail
  go_ret
  exact ⟨a3, n3, c3, rfl, o3.low BB2.out.size, BB2.out.trans (B3.mono BB2.out.size)⟩

set_option maxHeartbeats 3200000 in
set_option maxRecDepth 100000 in
theorem fword_c (y x : Int) (w : World) (y0 : 0 ≤ y) (y1 : y ≤ 18446744073709551615) (htab : Tab w) :
    Calls Tryd.prog 9 #[.int .u64 y, .int .i64 x] w fun e w' => e = .returned (.bool true) ∧ Below w.heap.size w w' := by
  have HT := Lib.hid htab; clear htab
  go_enter Tryd.func9, Tryd.ntmps9
  go_wp2_with fail
  refine (in_c x _).mono ?_
  rintro e w' ⟨rfl, D, hD, rfl⟩
  obtain ⟨V, rfl⟩ := Int.eq_ofNat_of_zero_le y0
  have hV : V ≤ 18446744073709551615 := by omega
  have HB : Hid (V * 10 ^ D < 2 ^ (64 + 20)) := by
    show V * 10 ^ D < _
    exact mul_lt_two (show V < 2 ^ 64 by have : (2 : Nat) ^ 64 = 18446744073709551616 := by decide
                                         omega) (ten_lt hD)
  have bb := Below.refl w.heap.size w
  have HC := Lib.hid (fawake_c w (HT.out.below bb))
  go_wp2_with fail
  refine HC.out.mono ?_
  rintro e v1 ⟨rfl, k1⟩
  clear HC
  replace bb := Below.on bb k1 bb.size
  clear k1
  have ho := fof_c (V : Int) D v1 (by omega) (by omega) hD
  rw [Int.toNat_natCast] at ho
  have HC := Lib.hid (ho)
  go_wp2_with fail
  refine HC.out.mono ?_
  rintro e v2 ⟨a1, l1, c1, hl1, rfl, o1, k2⟩
  clear HC
  have P := o1.lst
  replace bb := Below.on bb k2 bb.size
  clear k2
  clear ho
  have HC := Lib.hid (of3_c V D v2 hV hD)
  go_wp2_with fail
  refine HC.out.mono ?_
  rintro e v3 ⟨a2, l2, c2, rfl, o2, k3⟩
  clear HC
  have Q := o2.lst
  have hq := o2.bound HB.out
  replace P := P.below k3
  replace bb := Below.on bb k3 bb.size
  clear k3
  have HC := Lib.hid (fis_c _ _ _ _ _ _ _ _ v3 P Q (by omega) (bval_bitsN _))
  clear P Q
  go_wp2_with fail
  refine HC.out.mono ?_
  rintro e v4 ⟨rfl, k4⟩
  clear HC
  replace bb := Below.on bb k4 bb.size
  clear k4
  go_wp2_with fail
  go_ret
  exact ⟨rfl, bb⟩
end Go.Proofs.YtmojcnlddfijjaaDoor
