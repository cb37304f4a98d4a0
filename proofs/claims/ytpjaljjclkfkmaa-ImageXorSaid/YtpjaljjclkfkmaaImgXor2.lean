/-
  The program's Xor of two images of one size.
-/
import Derived.Test.YtpjaljjclkfkmaaImgXorP
namespace Go.Proofs.Ytpjaljjclkfkmaa
open Go.RowKit Im

set_option maxHeartbeats 3200000 in
set_option maxRecDepth 100000 in
theorem xor_c (v u : Nat) (ao bo : Option Addr) (n c d : Nat) (az bs : List Int) (w : World) (h : Lst .u8 w ao n c az) (k : Lst .u8 w bo n d bs) (hO : OkI v u az) (hQ : OkI v u bs) :
    Calls Try.prog 30 #[.agg #[.int .i64 (v : Int), .int .i64 (u : Int), .slice ao n c], .agg #[.int .i64 (v : Int), .int .i64 (u : Int), .slice bo n d]] w fun e w' => ∃ gc, e = .returned (.tuple #[.agg #[.int .i64 (v : Int), .int .i64 (u : Int), .slice (some ⟨gc, 0, none⟩) n n], .bool true]) ∧ Own 5 .u8 w.heap.size w' (some ⟨gc, 0, none⟩) n n (packP (xorB (bitL az) (bitL bs)) n) ∧ Below w.heap.size w w' := by
  obtain ⟨V1, V2, e1, e2, z1, A1, A2, B2, z2⟩ := two_img w v u v u ao bo n c n d
  obtain ⟨V3, e3, A3, B3, z3⟩ := new_img V2 0 0 none 0 0
  rw [z2] at A3
  have BB : Below w.heap.size w V3 := B2.trans (B3.mono B2.size)
  have HV := Lib.hid (valid_c v u ao n c az V3 (h.below BB))
  rw [okB_mk hO] at HV
  have HW := Lib.hid (fun W (hb : Below V3.heap.size V3 W) => valid_c v u bo n d bs W ((k.below BB).below hb))
  rw [okB_mk hQ] at HW
  have A1' := A1.kept B3
  have A2' := A2.kept B3
  have y0 : V3.cell? ⟨w.heap.size, 0, none⟩ = some (.int .i64 (v : Int)) := A1'.cell 0
  have y1 : V3.cell? ⟨w.heap.size, 1, none⟩ = some (.int .i64 (u : Int)) := A1'.cell 1
  have y2 : V3.cell? ⟨w.heap.size, 2, none⟩ = some (.slice ao n c) := A1'.cell 2
  have u0 : V3.cell? ⟨w.heap.size + 1, 0, none⟩ = some (.int .i64 (v : Int)) := A2'.cell 0
  have u1 : V3.cell? ⟨w.heap.size + 1, 1, none⟩ = some (.int .i64 (u : Int)) := A2'.cell 1
  have u2 : V3.cell? ⟨w.heap.size + 1, 2, none⟩ = some (.slice bo n d) := A2'.cell 2
  have HA := Lib.hid (And.intro A1' (And.intro A2' A3))
  have HB := Lib.hid BB
  have HL1 : Hid (∀ W, Below w.heap.size w W → Lst .u8 W ao n c az) := fun W hb => h.below hb
  have HL2 : Hid (∀ W, Below w.heap.size w W → Lst .u8 W bo n d bs) := fun W hb => k.below hb
  have hlen : Hid (az.length = n) := h.len
  have hlen2 : Hid (bs.length = n) := k.len
  have hby1 := Lib.hid h.bytes
  have hby2 := Lib.hid k.bytes
  have hn : n ≤ 1000000 := by have := hO.len; have := area_le hO.w2 hO.h2; have := hlen.out; omega
  have hn1 : 1 ≤ n := by have := hO.len; have := Nat.mul_pos hO.w1 hO.h1; have := hlen.out; omega
  have HNW := Lib.hid (fun W => (new_c v u W).mono fun e w' (hh : NewOut W.heap.size v u e w' ∧ Below W.heap.size W w') => And.intro (new_of hO hlen.out hh.1) hh.2)
  have nv : ((v : Int) != (v : Int)) = false := by simp
  have nu : ((u : Int) != (u : Int)) = false := by simp
  clear A1 A2 A1' A2' A3 B2 B3 BB z3 h k hO hQ
  go_enter Try.func30, Try.ntmps30
  go_wp2_with (first
    | (go_at_call 16; (with_reducible refine HV.out.mono ?_); rintro e w4 ⟨rfl, B4⟩; have v0 := cell_keep u0 B4; have v1 := cell_keep u1 B4; have v2 := cell_keep u2 B4; have x0 := cell_keep y0 B4; have x1 := cell_keep y1 B4; have x2 := cell_keep y2 B4; have HW4 := Lib.hid (HW.out w4 B4); have hB4 := Lib.hid B4; clear B4 HV)
    | (go_at_call 16; (with_reducible refine HW4.out.mono ?_); rintro e w5 ⟨rfl, B5⟩; have a0 := cell_keep v0 B5; have a1 := cell_keep v1 B5; have b0 := cell_keep x0 B5; have b1 := cell_keep x1 B5; have hB5 := Lib.hid (hB4.out.trans (B5.mono hB4.out.size)); clear B5 HW4)
    | (go_at_call 13; (with_reducible refine (HNW.out _).mono ?_); rintro e w6 ⟨⟨gc, rfl, ON⟩, B6⟩; obtain ⟨w7, w8, m7, m8, q0, q1, q2, q3, q4, q5, A8, B8, z8⟩ := new_fill2 w6 (.int .i64 (v : Int)) (.int .i64 (u : Int)) (.slice (some ⟨gc, 0, none⟩) n n); have B58 := B6.trans (B8.mono B6.size); obtain ⟨g7, hg7⟩ : ∃ g, w6.heap.size = g := ⟨_, rfl⟩; have hgc := World.ownsRow.lt ON.1 gc rfl; rw [hg7] at m8 q0 q1 q2 q3 q4 q5 A8 hgc; have p2 : w8.cell? ⟨g7, 2, none⟩ = some (.slice (some ⟨gc, 0, none⟩) n n) := A8.cell 2; have hF := Lib.hid (And.intro ON (And.intro B8 (And.intro A8 (And.intro B58 hgc)))); clear ON B6 B8 A8 B58 hgc z8))
  obtain ⟨ON, B8, A8, B58, hgc⟩ := hF.out
  have hsz5 : w.heap.size + 2 < w5.heap.size := by have := hB5.out.size; have := HA.out.2.2.lt; omega
  have B08 : Hid (Below w.heap.size w w8) := (HB.out.trans (hB5.out.mono HB.out.size)).trans (B58.mono (by omega))
  have hgcH : Hid (w5.heap.size ≤ gc ∧ gc < g7) := hgc
  have S0 := (HA.out.1.kept hB5.out).kept B58
  have S1 := (HA.out.2.1.kept hB5.out).kept B58
  have S2 := (HA.out.2.2.kept hB5.out).kept B58
  have O8 : Own 5 .u8 w.heap.size w8 (some ⟨gc, 0, none⟩) n n (packP noB n) := by
    have h1 := ON.kept B8
    exact ⟨h1.1.mono (by omega), h1.2⟩
  have hS := Lib.hid (And.intro S0 (And.intro S1 (And.intro S2 (And.intro A8 O8))))
  have hsz := Lib.hid hsz5
  clear ON B8 A8 B58 hgc S0 S1 S2 O8 hF y0 y1 y2 u0 u1 u2 v0 v1 v2 x0 x1 x2 a0 a1 b0 b1 m7 m8 q0 q1 q2 q3 q4 q5 p2 hsz5 z1 z2
  go_loopw [8, 43] (fun _ iv wr => ∃ i : Nat, i ≤ n ∧ iv = .int .i64 (i : Int) ∧ Hid (Arr wr w.heap.size 24 [.int .i64 (v : Int), .int .i64 (u : Int), .slice ao n c] ∧ Arr wr (w.heap.size + 1) 24 [.int .i64 (v : Int), .int .i64 (u : Int), .slice bo n d] ∧ Arr wr (w.heap.size + 2) 24 [.int .i64 0, .int .i64 0, .slice none 0 0] ∧ Arr wr g7 24 [.int .i64 (v : Int), .int .i64 (u : Int), .slice (some ⟨gc, 0, none⟩) n n] ∧
      Own 5 .u8 w.heap.size wr (some ⟨gc, 0, none⟩) n n (mixP (xorB (bitL az) (bitL bs)) noB i n) ∧ Below w.heap.size w wr)) (fun _ iv _ => n - (intOf iv).toNat)
  case atStart =>
    exact ⟨0, Nat.zero_le _, rfl, hS.out.1, hS.out.2.1, hS.out.2.2.1, hS.out.2.2.2.1, by rw [mixP_zero]; exact hS.out.2.2.2.2, B08.out⟩
  case round =>
    obtain ⟨v1, hv1⟩ : ∃ y, y = wr := ⟨_, rfl⟩
    subst hv1
    clear hS B08
    obtain ⟨i, hi, rfl, hI⟩ := hrel
    by_cases hlt : i < n
    · have hlt' : (i : Int) < (n : Int) := by omega
      have d2 : v1.drew.cell? ⟨w.heap.size, 2, none⟩ = some (.slice ao n c) := hI.out.1.cell 2
      have d4 : v1.drew.cell? ⟨w.heap.size + 1, 2, none⟩ = some (.slice bo n d) := hI.out.2.1.cell 2
      have d5 : v1.drew.cell? ⟨g7, 2, none⟩ = some (.slice (some ⟨gc, 0, none⟩) n n) := hI.out.2.2.2.1.cell 2
      obtain ⟨x, hx1, hx2, cx⟩ := (HL1.out _ hI.out.2.2.2.2.2).at8 i hlt
      obtain ⟨y, hy1, hy2, cy⟩ := (HL2.out _ hI.out.2.2.2.2.2).at8 i hlt
      have cx' : v1.drew.cell? (pt ao i) = some (.int .u8 (x : Int)) := cx
      have cy' : v1.drew.cell? (pt bo i) = some (.int .u8 (y : Int)) := cy
      have i1 := ix8 (HL1.out _ hI.out.2.2.2.2.2) i (i : Int) rfl hlt
      have i2 := ix8 (HL2.out _ hI.out.2.2.2.2.2) i (i : Int) rfl hlt
      have i3 := ix8 hI.out.2.2.2.2.1.lst i (i : Int) rfl hlt
      have hxy := xor8 x y (by omega) (by omega)
      obtain ⟨z, hz⟩ : ∃ z, x ^^^ y = z := ⟨_, rfl⟩
      have hzl : z < 256 := by rw [← hz]; exact Nat.xor_lt_two_pow (n := 8) (by omega) (by omega)
      have hbz : byteP (xorB (bitL az) (bitL bs)) i = z := by
        have e1 : byteP (bitL az) i = x := by
          have h1 := pack_bits az hby1.out
          have h2 := packP_get (bitL az) az.length i (by rw [hlen.out]; exact hlt)
          rw [h1] at h2
          rw [← hx1.out, h2, Int.toNat_natCast]
        have e2 : byteP (bitL bs) i = y := by
          have h1 := pack_bits bs hby2.out
          have h2 := packP_get (bitL bs) bs.length i (by rw [hlen2.out]; exact hlt)
          rw [h1] at h2
          rw [← hy1.out, h2, Int.toNat_natCast]
        rw [byteP_xor, e1, e2, hz]
      rw [hz] at hxy
      have c0 := hI.out.2.2.2.2.1.lst.cell i hlt
      have f0 := hI.out.2.2.2.2.1.frozen (i := i) hlt
      rw [pt_own] at c0 f0 i3
      have c0' : v1.drew.cell? ⟨gc, i, none⟩ = some (.int .u8 ((mixP (xorB (bitL az) (bitL bs)) noB i n).getD i 0)) := c0
      have f0' : v1.drew.frozen? ⟨gc, i, none⟩ = false := f0
      have hend : Hid (∀ Z, Z = v1.drew.setCell ⟨gc, i, none⟩ (.int .u8 (z : Int)) → Arr Z w.heap.size 24 [.int .i64 (v : Int), .int .i64 (u : Int), .slice ao n c] ∧ Arr Z (w.heap.size + 1) 24 [.int .i64 (v : Int), .int .i64 (u : Int), .slice bo n d] ∧ Arr Z (w.heap.size + 2) 24 [.int .i64 0, .int .i64 0, .slice none 0 0] ∧ Arr Z g7 24 [.int .i64 (v : Int), .int .i64 (u : Int), .slice (some ⟨gc, 0, none⟩) n n] ∧
          Own 5 .u8 w.heap.size Z (some ⟨gc, 0, none⟩) n n (mixP (xorB (bitL az) (bitL bs)) noB (i + 1) n) ∧ Below w.heap.size w Z) := by
        rintro Z rfl
        obtain ⟨i1, i2, i3, i4, i5, i6⟩ := hI.out
        have hzs := hsz.out
        have hgg := hgcH.out
        have GZ : v1.grownBy (v1.drew.setCell ⟨gc, i, none⟩ (.int .u8 (z : Int))) (some gc) := grown_trans (grown_drew ⟨rfl, rfl, rfl, Nat.le_refl _, fun _ _ _ => rfl⟩) (grown_set v1.drew ⟨gc, i, none⟩ _)
        refine ⟨i1.grownBy GZ (by omega), i2.grownBy GZ (by omega), i3.grownBy GZ (by omega), i4.grownBy GZ (by omega), ?_, below_grown i6 GZ i6.size (by omega)⟩
        have h1 := i5.set hlt (wf_u8 (x := (z : Int)) (by omega) (by omega))
        rw [pt_own, ← hbz, mixP_next _ _ _ _ hlt, hbz] at h1
        exact h1
      have hend := hend
      clear hbz hx1 hy1 hz cx cy c0 f0
      go_wp2_with fail
      go_region_law (fail)
      all_goals
        go_wp2_with fail
        go_roundw
        case rel => exact ⟨i + 1, by omega, by go_num, hend.out _ rfl⟩
        case measure => simp [intOf]; omega
    · obtain rfl : i = n := by omega
      have d3 : v1.cell? ⟨g7, 0, none⟩ = some (.int .i64 (v : Int)) := hI.out.2.2.2.1.cell 0
      have d4 : v1.cell? ⟨g7, 1, none⟩ = some (.int .i64 (u : Int)) := hI.out.2.2.2.1.cell 1
      have d5 : v1.cell? ⟨g7, 2, none⟩ = some (.slice (some ⟨gc, 0, none⟩) i i) := hI.out.2.2.2.1.cell 2
      obtain ⟨Z, m7, AZ, GZ, hZz, q0, q1, q2, q3, q4, q5, r0, r1, r2⟩ := put_img hI.out.2.2.1 (.int .i64 (v : Int)) (.int .i64 (u : Int)) (.slice (some ⟨gc, 0, none⟩) i i)
      have OZ : Hid (Own 5 .u8 w.heap.size Z (some ⟨gc, 0, none⟩) i i (packP (xorB (bitL az) (bitL bs)) i)) := by
        have h1 := hI.out.2.2.2.2.1
        rw [mixP_end] at h1
        have hzs := hsz.out
        have hgg := hgcH.out
        exact ⟨h1.1.kept GZ (Or.inr (fun e => by injection e with e; exact absurd (show gc = w.heap.size + 2 from e) (by omega))), h1.2⟩
      have BZ : Hid (Below w.heap.size w Z) := below_grown hI.out.2.2.2.2.2 GZ hI.out.2.2.2.2.2.size (by omega)
      clear AZ GZ hZz
      go_wp2_with fail
      refine bodyPost_ret (v := .tuple #[.agg #[.int .i64 (v : Int), .int .i64 (u : Int), .slice (some ⟨gc, 0, none⟩) i i], .bool true]) (by simp [results, Try.results30, go_sem, r0, r1, r2]) rfl ?_
      exact ⟨gc, rfl, OZ.out, BZ.out⟩
end Go.Proofs.Ytpjaljjclkfkmaa
