/-
  electionref04.Text.
-/
import Derived.Test.YtfmpccfoemgiiaaDoorDigText
namespace Go.Proofs.YtfmpccfoemgiiaaDoor
open Go.RowKit Dig

theorem strOf_append (xs ys : List Int) : strOf (xs ++ ys) = strOf xs ++ strOf ys := by
  apply ByteArray.ext
  rw [ByteArray.data_append]
  simp [strOf]
theorem strOf_size (xs : List Int) : (strOf xs).size = xs.length := by
  show (xs.map fun x => UInt8.ofNat x.toNat).toArray.size = _
  simp
theorem hex_cut (p : Nat) (hp : p < 16) : (⟨#[48, 49, 50, 51, 52, 53, 54, 55, 56, 57, 97, 98, 99, 100, 101, 102]⟩ : ByteArray).extract p (p + 1) = strOf [((hexN p : Nat) : Int)] := by
  rcases (show p = 0 ∨ p = 1 ∨ p = 2 ∨ p = 3 ∨ p = 4 ∨ p = 5 ∨ p = 6 ∨ p = 7 ∨ p = 8 ∨ p = 9 ∨ p = 10 ∨ p = 11 ∨ p = 12 ∨ p = 13 ∨ p = 14 ∨ p = 15 by omega) with rfl | rfl | rfl | rfl | rfl | rfl | rfl | rfl | rfl | rfl | rfl | rfl | rfl | rfl | rfl | rfl <;> decide +kernel

set_option maxHeartbeats 1600000 in
set_option maxRecDepth 100000 in
theorem reftext_c (D : List Int) (hD : IsD D) (w : World) :
    Calls Tryd.prog 20 #[.agg (bcells D).toArray] w fun e w' => e = .returned (.string (textS D)) ∧ Below w.heap.size w w' := by
  have HDl := Lib.hid hD.len
  have A1 : Arr (w.alloc (.cells (bcells D).toArray 25)) w.heap.size 25 (bcells D) := Arr.new _ _ _
  have B1 : Below w.heap.size w (w.alloc (.cells (bcells D).toArray 25)) := (Below.refl _ _).alloc (Nat.le_refl _) _
  obtain ⟨TT, hTT⟩ : ∃ T, Hid (T = textS D) := ⟨_, rfl⟩
  rw [← hTT.out]
  go_enter Tryd.func20, Tryd.ntmps20
  go_wp2
  go_loopw [4, 5] (fun v i wr => ∃ (i' : Nat) (T : ByteArray), i' ≤ 32 ∧ v = .string T ∧ i = .int .i64 i' ∧ Hid (T = strOf (hexI (D.take i'))) ∧ T.size ≤ 64 ∧ Arr wr w.heap.size 25 (bcells D) ∧ Below w.heap.size w wr)
    (fun _ i _ => 32 - (intOf i).toNat)
  case atStart => exact ⟨0, .empty, by omega, rfl, rfl, rfl, by decide, A1, B1⟩
  case round =>
    clear A1 B1
    obtain ⟨i, T, hi32, rfl, rfl, hT, hTs, A, B⟩ := hrel
    by_cases hlt : i < 32
    · obtain ⟨b, hb, hb255⟩ := hD.at i hlt
      have cb : wr.cell? ⟨w.heap.size, i, none⟩ = some (.int .u8 (b : Int)) := by
        rw [A.cell i, bcells_at (by rw [HDl.out]; exact hlt), hb.out]
      have q32 : (i : Int) < 32 := by omega
      obtain ⟨p, hp⟩ : ∃ p : Nat, Hid (p = b / 16) := ⟨_, rfl⟩
      obtain ⟨q, hq⟩ : ∃ q : Nat, Hid (q = b % 16) := ⟨_, rfl⟩
      have hp16 : p < 16 := by rw [hp.out]; omega
      have hq16 : q < 16 := by rw [hq.out]; omega
      have e1 : (b : Int) / 16 = (p : Int) := by rw [hp.out]; omega
      have e2 : (b : Int) % 16 = (q : Int) := by rw [hq.out]; omega
      have e1' : (b : Int).tdiv 16 = (p : Int) := by rw [Int.tdiv_eq_ediv_of_nonneg (by omega)]; exact e1
      have e2' : (b : Int).tmod 16 = (q : Int) := by rw [Int.tmod_eq_emod_of_nonneg (by omega)]; exact e2
      have w1 : IntKind.u8.wrap ((p : Int) + 1) = (p : Int) + 1 := by rw [IntKind.wrap_u8']; omega
      have w2 : IntKind.u8.wrap ((q : Int) + 1) = (q : Int) + 1 := by rw [IntKind.wrap_u8']; omega
      have w3 : IntKind.u8.wrap (p : Int) = (p : Int) := by rw [IntKind.wrap_u8']; omega
      have w4 : IntKind.u8.wrap (q : Int) = (q : Int) := by rw [IntKind.wrap_u8']; omega
      have n1 : ((p : Int) + 1).toNat = p + 1 := by omega
      have n2 : ((q : Int) + 1).toNat = q + 1 := by omega
      have l1 : (p : Int) + 1 ≤ 16 := by omega
      have l2 : (q : Int) + 1 ≤ 16 := by omega
      have l3 : (p : Int) ≤ (p : Int) + 1 := by omega
      have l4 : (q : Int) ≤ (q : Int) + 1 := by omega
      have l5 : (0 : Int) ≤ (p : Int) + 1 := by omega
      have l6 : (0 : Int) ≤ (q : Int) + 1 := by omega
      have x1 := hex_cut p hp16
      have x2 := hex_cut q hq16
      obtain ⟨X, hX⟩ : ∃ X, Hid (strOf [((hexN p : Nat) : Int)] = X) := ⟨_, rfl⟩
      obtain ⟨Y, hY⟩ : ∃ Y, Hid (strOf [((hexN q : Nat) : Int)] = Y) := ⟨_, rfl⟩
      have sX : X.size = 1 := by rw [← hX.out, strOf_size]; rfl
      have sY : Y.size = 1 := by rw [← hY.out, strOf_size]; rfl
      rw [hX.out] at x1
      rw [hY.out] at x2
      have HX : Hid (T ++ (X ++ Y) = strOf (hexI (D.take (i + 1)))) := by
        show _ = _
        rw [← hexI_next D i (by rw [HDl.out]; exact hlt) b hb.out, ← hp.out, ← hq.out, strOf_append, hT.out, ← hX.out, ← hY.out, ← strOf_append]
        rfl
      have HXs : Hid ((T ++ (X ++ Y)).size ≤ 64) := by
        show _ ≤ _
        rw [HX.out, strOf_size, hexI_len, List.length_take, HDl.out]; omega
      have sX' : X.size ≤ 1 := by omega
      have sY' : Y.size ≤ 1 := by omega
      have s1 : ¬ 9223372036854775807 < X.size + Y.size := by omega
      have s2 : ¬ 9223372036854775807 < T.size + (X.size + Y.size) := by omega
      have s3 : ¬ 9223372036854775807 < T.size + (X ++ Y).size := by rw [ByteArray.size_append]; omega
      have HA := Lib.hid A.drew
      have HB := Lib.hid (below_drew B)
      clear sX sY A B
      go_wp2
      refine wp_region_still_lit (by kernel_rfl) (by kernel_rfl) ?_
      repeat still_step
      refine wpStill_nil ?_
      go_wp2
      go_roundw
      case rel => exact ⟨i + 1, _, by omega, rfl, by go_num, HX.out, HXs.out, HA.out, HB.out⟩
      case measure => simp [intOf]; omega
    · obtain rfl : i = 32 := by omega
      have hTT' : T = TT := by rw [hTT.out, hT.out, List.take_of_length_le (by rw [HDl.out]; omega)]; rfl
      subst hTT'
      rw [show ((32 : Nat) : Int) = 32 from rfl]
      go_wp2
      go_ret
      exact ⟨rfl, B⟩
end Go.Proofs.YtfmpccfoemgiiaaDoor

