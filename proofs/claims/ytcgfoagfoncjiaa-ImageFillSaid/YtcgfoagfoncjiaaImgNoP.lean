/-
  The program's functions on what is no image.
-/
import Derived.Test.YtcgfoagfoncjiaaImgValP
namespace Go.Proofs.Ytcgfoagfoncjiaa
open Go.RowKit Im

set_option maxHeartbeats 3200000 in
set_option maxRecDepth 100000 in
theorem fill_no (x y : Int) (a b p q : Int) (on : Bool) (ao : Option Addr) (n c : Nat) (bs : List Int) (w : World) (h : Lst .u8 w ao n c bs) (hno : okB x y bs = false) :
    Calls Try.prog 6 #[.agg #[.int .i64 x, .int .i64 y, .slice ao n c], .int .i64 a, .int .i64 b, .int .i64 p, .int .i64 q, .bool on] w fun e w' => e = .returned (.agg #[.int .i64 0, .int .i64 0, .slice none 0 0]) ∧ Below w.heap.size w w' := by
  obtain ⟨V1, e1, A1, B1, z1⟩ := new_img w x y ao n c
  obtain ⟨V2, e2⟩ : ∃ V, V1.alloc (.cells #[.bool on] 4) = V := ⟨_, rfl⟩
  have B2 : Below V1.heap.size V1 V2 := by rw [← e2]; exact (Below.refl _ _).alloc (Nat.le_refl _) _
  have z2 : V2.heap.size = V1.heap.size + 1 := by rw [← e2]; simp
  obtain ⟨V3, e3, A3, B3, z3⟩ := new_img V2 0 0 none 0 0
  have hz2 : V2.heap.size = w.heap.size + 2 := by omega
  rw [hz2] at A3
  have BB : Below w.heap.size w V3 := (B1.trans (B2.mono B1.size)).trans (B3.mono (by omega))
  have HV := Lib.hid (valid_c x y ao n c bs V3 (h.below BB))
  rw [hno] at HV
  have A1' := (A1.kept B2).kept B3
  have y0 : V3.cell? ⟨w.heap.size, 0, none⟩ = some (.int .i64 x) := A1'.cell 0
  have y1 : V3.cell? ⟨w.heap.size, 1, none⟩ = some (.int .i64 y) := A1'.cell 1
  have y2 : V3.cell? ⟨w.heap.size, 2, none⟩ = some (.slice ao n c) := A1'.cell 2
  have HA := Lib.hid A3
  have HB := Lib.hid BB
  clear A1 A1' A3 B1 B2 B3 BB z2 z3 h hno
  go_enter Try.func6, Try.ntmps6
  go_wp2_with (go_at_call 14; refine HV.out.mono ?_; rintro e w4 ⟨rfl, B4⟩; obtain ⟨Z, m7, AZ, GZ, hZz, q0, q1, q2, q3, q4, q5, r0, r1, r2⟩ := put_img (HA.out.kept B4) (.int .i64 0) (.int .i64 0) (.slice none 0 0); have hB := Lib.hid (below_grown (HB.out.trans (B4.mono HB.out.size)) GZ (by have := HB.out.size; have := B4.size; omega) (by omega)); clear B4 AZ GZ)
  refine bodyPost_ret (v := .agg #[.int .i64 0, .int .i64 0, .slice none 0 0]) (by simp [results, Try.results6, go_sem, r0, r1, r2]) rfl ?_
  exact ⟨rfl, hB.out⟩
set_option maxHeartbeats 3200000 in
set_option maxRecDepth 100000 in
theorem count_no (x y : Int) (a b p q : Int) (ao : Option Addr) (n c : Nat) (bs : List Int) (w : World) (h : Lst .u8 w ao n c bs) (hno : okB x y bs = false) :
    Calls Try.prog 7 #[.agg #[.int .i64 x, .int .i64 y, .slice ao n c], .int .i64 a, .int .i64 b, .int .i64 p, .int .i64 q] w fun e w' => e = .returned (.int .i64 0) ∧ Below w.heap.size w w' := by
  obtain ⟨V1, e1, A1, B1, z1⟩ := new_img w x y ao n c
  have HV := Lib.hid (valid_c x y ao n c bs V1 (h.below B1))
  rw [hno] at HV
  have y0 : V1.cell? ⟨w.heap.size, 0, none⟩ = some (.int .i64 x) := A1.cell 0
  have y1 : V1.cell? ⟨w.heap.size, 1, none⟩ = some (.int .i64 y) := A1.cell 1
  have y2 : V1.cell? ⟨w.heap.size, 2, none⟩ = some (.slice ao n c) := A1.cell 2
  have HB := Lib.hid B1
  clear A1 B1 h hno
  go_enter Try.func7, Try.ntmps7
  go_wp2_with (go_at_call 14; refine HV.out.mono ?_; rintro e w4 ⟨rfl, B4⟩; have hB := Lib.hid (HB.out.trans (B4.mono HB.out.size)); clear B4)
  go_ret
  exact ⟨rfl, hB.out⟩
end Go.Proofs.Ytcgfoagfoncjiaa
