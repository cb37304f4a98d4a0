/-
  electionlaw07.Awake.
-/
import Derived.Test.YtfknckbclddnmaaSynPParse
import Derived.Test.YtfknckbclddnmaaSynPrint
namespace Go.Proofs.Ytfknckbclddnmaa
open Go.RowKit Lx

namespace Lx
/-- The definition of the sanity check. -/
def awS (n : Nat) : Src := ⟨[69], [⟨[115, 99, 97, 110], [], [⟨[100, 111, 116, 115], [[50]], n⟩], n⟩]⟩
def awT : ByteArray := ⟨#[101, 108, 101, 99, 116, 105, 111, 110, 32, 34, 69, 34, 32, 123, 32, 115, 99, 97, 110, 32, 123, 32, 100, 111, 116, 115, 32, 50, 59, 32, 125, 32, 125]⟩
def awU : ByteArray := ⟨#[101, 108, 101, 99, 116, 105, 111, 110, 32, 34, 69, 34, 32, 123, 10, 32, 32, 115, 99, 97, 110, 32, 123, 10, 32, 32, 32, 32, 100, 111, 116, 115, 32, 50, 59, 10, 32, 32, 125, 10, 125, 10]⟩
theorem aw_lex : lexS (bys awT) 1 = .ok [⟨1, elec, 1⟩, ⟨3, [69], 1⟩, ⟨4, [123], 1⟩, ⟨1, [115, 99, 97, 110], 1⟩, ⟨4, [123], 1⟩, ⟨1, [100, 111, 116, 115], 1⟩, ⟨2, [50], 1⟩, ⟨4, [59], 1⟩, ⟨4, [125], 1⟩, ⟨4, [125], 1⟩] 1 := by
  have e : bys awT = elec ++ 32 :: (quoP [69] ++ 32 :: 123 :: 32 :: ([115, 99, 97, 110] ++ 32 :: 123 :: 32 :: ([100, 111, 116, 115] ++ 32 :: ([50] ++ 59 :: 32 :: 125 :: 32 :: 125 :: [])))) := by decide +kernel
  rw [e, lexS_word _ 1 (by decide) (by decide), lexS_sp, lexS_str _ 1 (by decide), lexS_sp, lexS_mark _ 1 (by decide), lexS_sp, lexS_word _ 1 (by decide) (by decide), lexS_sp, lexS_mark _ 1 (by decide), lexS_sp, lexS_word _ 1 (by decide) (by decide), lexS_sp, lexS_num _ 1 (by decide) (by decide), lexS_mark _ 1 (by decide), lexS_sp, lexS_mark _ 1 (by decide), lexS_sp, lexS_mark _ 1 (by decide), lexS_nil]
  rfl
theorem aw_parse : parseS awT = some (.ok (awS 1)) := by
  unfold parseS
  rw [if_neg (by decide)]
  unfold parseL
  rw [aw_lex]
  rfl
theorem aw_ok : okP (awS 1) = true := by decide +kernel
theorem aw_txt : stg (srcP (awS 1)) = awU := by
  apply bys_inj
  decide +kernel
end Lx
/-- The boxes of a definition and a fault that a call has handed back. -/
theorem new_res (w : World) (a0 a1 f0 f1 : Value) : ∃ V U W X, w.alloc (.cells #[.string ⟨#[]⟩, .slice none 0 0] 24) = V ∧ V.alloc (.cells #[.int .i64 0, .int .i64 0] 27) = U ∧
    (U.setCell ⟨w.heap.size, 0, none⟩ a0).setCell ⟨w.heap.size, 1, none⟩ a1 = W ∧ (W.setCell ⟨w.heap.size + 1, 0, none⟩ f0).setCell ⟨w.heap.size + 1, 1, none⟩ f1 = X ∧ V.heap.size = w.heap.size + 1 ∧
    (U.cell? ⟨w.heap.size, 0, none⟩ = some (.string ⟨#[]⟩) ∧ U.frozen? ⟨w.heap.size, 0, none⟩ = false ∧ (U.setCell ⟨w.heap.size, 0, none⟩ a0).cell? ⟨w.heap.size, 1, none⟩ = some (.slice none 0 0) ∧ (U.setCell ⟨w.heap.size, 0, none⟩ a0).frozen? ⟨w.heap.size, 1, none⟩ = false) ∧
    (W.cell? ⟨w.heap.size + 1, 0, none⟩ = some (.int .i64 0) ∧ W.frozen? ⟨w.heap.size + 1, 0, none⟩ = false ∧ (W.setCell ⟨w.heap.size + 1, 0, none⟩ f0).cell? ⟨w.heap.size + 1, 1, none⟩ = some (.int .i64 0) ∧ (W.setCell ⟨w.heap.size + 1, 0, none⟩ f0).frozen? ⟨w.heap.size + 1, 1, none⟩ = false) ∧
    Arr X w.heap.size 24 [a0, a1] ∧ Arr X (w.heap.size + 1) 27 [f0, f1] ∧ Below w.heap.size w X := by
  obtain ⟨V, e1, A1, B1, z1⟩ := new_box w 24 [.string ⟨#[]⟩, .slice none 0 0]
  obtain ⟨U, e2, A2, B2, z2⟩ := new_box V 27 [.int .i64 0, .int .i64 0]
  have A1 := A1.kept B2
  rw [z1] at A2
  obtain ⟨W, e3, hW, A3, k0, k1, k2, k3⟩ := put_box2 A1 a0 a1
  have A4 := A2.off2 (b := w.heap.size) (by omega) a0 a1
  rw [← hW.out] at A4
  obtain ⟨X, e4, hX, A5, l0, l1, l2, l3⟩ := put_box2 A4 f0 f1
  have A6 := A3.off2 (b := w.heap.size + 1) (by omega) f0 f1
  rw [← hX.out] at A6
  refine ⟨V, U, W, X, e1, e2, e3, e4, z1, ⟨k0, k1, k2, k3⟩, ⟨l0, l1, l2, l3⟩, A6, A5, ?_⟩
  rw [hX.out, hW.out]
  exact below_put2 (below_put2 (B1.trans (B2.mono B1.size)) (Nat.le_refl _) _ _) (Nat.le_succ _) _ _
set_option maxHeartbeats 3200000 in
set_option maxRecDepth 100000 in
theorem awake_c (w : World) :
    Calls Try.prog 11 #[] w fun e w' => e = .returned (.bool true) ∧ Below w.heap.size w w' := by
  have HA := Lib.hid (pParse_c awT w (by decide))
  go_enter Try.func11, Try.ntmps11
  go_wp2_with fail
  refine HA.out.mono ?_
  rintro e w1 ⟨hO, B1⟩
  rw [aw_parse] at hO
  obtain ⟨ao, m, d, rfl, BL⟩ := hO
  have e0 : (outA (some (.ok (awS 1)))).2.2 = awS 1 := rfl
  have e1 : (outA (some (.ok (awS 1)))).1 = 0 := rfl
  have e2 : (outA (some (.ok (awS 1)))).2.1 = 0 := rfl
  rw [e0] at BL
  rw [e0, e1, e2]
  obtain ⟨V, U0, W0, U, e3, e4, e5, e6, hz, ⟨k0, k1, k2, k3⟩, ⟨l0, l1, l2, l3⟩, AV, AU, BU⟩ := new_res w1 (.string (stg (awS 1).title)) (.slice ao m d) (.int .i64 0) (.int .i64 0)
  have y0 : U.cell? ⟨w1.heap.size, 0, none⟩ = some (.string (stg (awS 1).title)) := AV.cell 0
  have y1 : U.cell? ⟨w1.heap.size, 1, none⟩ = some (.slice ao m d) := AV.cell 1
  have HP := Lib.hid (pPrint_c true anyF (awS 1) ao m d U (BlkL.keep BL stable_any (keeps_below _ BU)) (by
    refine ⟨by decide, fun b hb => ?_⟩
    have : b = ⟨[115, 99, 97, 110], [], [⟨[100, 111, 116, 115], [[50]], 1⟩], 1⟩ := by simpa [awS] using hb
    subst this
    refine ⟨by decide, by decide, fun f hf => ?_⟩
    have : f = ⟨[100, 111, 116, 115], [[50]], 1⟩ := by simpa using hf
    subst this
    exact ⟨by decide, fun v hv => by have : v = [50] := by simpa using hv
                                     subst this; decide⟩))
  have AU := Lib.hid AU
  have HB : Hid (Below w.heap.size w U) := B1.trans (BU.mono B1.size)
  have hsz : Hid (w1.heap.size + 1 < U.heap.size) := AU.out.lt
  clear HA BL B1 AV BU
  go_wp2_with fail
  refine HP.out.mono ?_
  rintro e w2 ⟨hO, B2⟩
  have hO : e = .returned (.tuple #[.string awU, .bool true]) := by
    have := hO
    unfold PrintOut at this
    rw [aw_ok, if_pos rfl, aw_txt] at this
    exact this
  subst hO
  have z0 : w2.cell? ⟨w1.heap.size + 1, 0, none⟩ = some (.int .i64 0) := (AU.out.kept B2).cell 0
  have z1 : w2.cell? ⟨w1.heap.size + 1, 1, none⟩ = some (.int .i64 0) := (AU.out.kept B2).cell 1
  have HB2 : Hid (Below w.heap.size w w2) := HB.out.trans (B2.mono HB.out.size)
  have hT : awU = ⟨#[101, 108, 101, 99, 116, 105, 111, 110, 32, 34, 69, 34, 32, 123, 10, 32, 32, 115, 99, 97, 110, 32, 123, 10, 32, 32, 32, 32, 100, 111, 116, 115, 32, 50, 59, 10, 32, 32, 125, 10, 125, 10]⟩ := rfl
  have hTT : (awU.toList == (⟨#[101, 108, 101, 99, 116, 105, 111, 110, 32, 34, 69, 34, 32, 123, 10, 32, 32, 115, 99, 97, 110, 32, 123, 10, 32, 32, 32, 32, 100, 111, 116, 115, 32, 50, 59, 10, 32, 32, 125, 10, 125, 10]⟩ : ByteArray).toList) = true := by rw [hT]; simp
  clear hT HP B2 e3 e4 e5 e6 k0 k1 k2 k3 l0 l1 l2 l3 y0 y1
  go_wp2_with fail
  go_ret
  exact ⟨bool_ret (by rw [toList_bys]; decide +kernel), HB2.out⟩
end Go.Proofs.Ytfknckbclddnmaa
