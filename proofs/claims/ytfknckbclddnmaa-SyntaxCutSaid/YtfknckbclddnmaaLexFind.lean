/-
  Bytes looked for in strings: strings.IndexByte, strings.Cut at one byte, strings.Count of one byte, electionref06.in.
-/
import Derived.Test.YtfknckbclddnmaaLexWord
import Derived.Lib.CountLaws
namespace Go.Proofs.Ytfknckbclddnmaa
open Go.RowKit Lx

namespace Lx
theorem byte_z (c : UInt8) : (((c.toNat : Nat) : Int)).toNat.toUInt8 = c := by simp
/-- Byte c occurs. -/
def inB (c : UInt8) (l : List UInt8) : Bool := l.any fun d => d == c
theorem inB_cons (c d : UInt8) (l : List UInt8) : inB c (d :: l) = (d == c || inB c l) := rfl
theorem beq_nat (c d : UInt8) : (((d.toNat : Nat) : Int) == ((c.toNat : Nat) : Int)) = (d == c) := by
  cases h : d == c with
  | true => rw [beq_iff_eq] at h; rw [h]; exact beq_self_eq_true _
  | false =>
    rw [beq_eq_false_iff_ne] at h ⊢
    intro e
    exact h (UInt8.toNat_inj.1 (by omega))
theorem in_marks (c : UInt8) : inB c [123, 125, 59, 44, 47] = markB c := by
  revert c
  have h : ∀ k : Fin 256, inB (UInt8.ofNat k.val) [123, 125, 59, 44, 47] = markB (UInt8.ofNat k.val) := by decide +kernel
  intro c
  have := h ⟨c.toNat, UInt8.toNat_lt c⟩
  rwa [UInt8.ofNat_toNat] at this
theorem in_blanks (c : UInt8) : inB c [32, 9, 10, 13] = blankB c := by
  revert c
  have h : ∀ k : Fin 256, inB (UInt8.ofNat k.val) [32, 9, 10, 13] = blankB (UInt8.ofNat k.val) := by decide +kernel
  intro c
  have := h ⟨c.toNat, UInt8.toNat_lt c⟩
  rwa [UInt8.ofNat_toNat] at this
theorem ix_marks (c : UInt8) : decide (Lib.indexByte [123, 125, 59, 44, 47] c ≥ 0) = markB c := by
  revert c
  have h : ∀ k : Fin 256, decide (Lib.indexByte [123, 125, 59, 44, 47] (UInt8.ofNat k.val) ≥ 0) = markB (UInt8.ofNat k.val) := by decide +kernel
  intro c
  have := h ⟨c.toNat, UInt8.toNat_lt c⟩
  rwa [UInt8.ofNat_toNat] at this
end Lx

set_option maxHeartbeats 1000000 in
set_option maxRecDepth 100000 in
theorem sliteByte_c (s : ByteArray) (c : UInt8) (w : World) :
    Calls Try.prog 71 #[.string s, .int .u8 ((c.toNat : Nat) : Int)] w fun e w' => e = .returned (.int .i64 (Lib.indexByte (bys s) c)) ∧ w = w' := by
  go_enter Try.func71, Try.ntmps71
  go_wp2
  rw [run_callFunc_extern Try.func81 (by kernel_rfl) (by kernel_rfl) (by kernel_rfl) (e := Extern.BytealgIndexByte.indexByte) (by kernel_rfl), Lib.run_indexByteString, byte_z]
  simp only [Result.andThen]
  rw [Oper.upon_value]
  go_wp2
  go_ret
  exact ⟨rfl, rfl⟩
set_option maxRecDepth 100000 in
theorem indexByte_c (s : ByteArray) (c : UInt8) (w : World) :
    Calls Try.prog 55 #[.string s, .int .u8 ((c.toNat : Nat) : Int)] w fun e w' => e = .returned (.int .i64 (Lib.indexByte (bys s) c)) ∧ w = w' := by
  have HS := Lib.hid (sliteByte_c s c w)
  go_enter Try.func55, Try.ntmps55
  go_wp2_with fail
  refine HS.out.mono ?_
  rintro e w' ⟨rfl, rfl⟩
  go_wp2_with fail
  go_ret
  exact ⟨rfl, rfl⟩
set_option maxHeartbeats 1000000 in
set_option maxRecDepth 100000 in
/-- How many line ends a string has. -/
theorem count_c (s : ByteArray) (w : World) :
    Calls Try.prog 31 #[.string s, .string ⟨#[10]⟩] w fun e w' => e = .returned (.int .i64 ((nlN (bys s) : Nat) : Int)) ∧ w = w' := by
  have hc : Hid (Lib.countByte s.data.toList ((⟨#[10]⟩ : ByteArray)[0]) = nlN (bys s)) := by
    show List.count _ _ = _
    unfold nlN bys List.count
    refine List.countP_congr fun x _ => ?_
    have e : ((⟨#[10]⟩ : ByteArray)[0]).toNat = 10 := rfl
    constructor
    · intro h; rw [beq_iff_eq] at h; rw [h, e]; rfl
    · intro h; rw [beq_iff_eq]; exact UInt8.toNat_inj.1 (by rw [e]; exact of_decide_eq_true h)
  go_enter Try.func31, Try.ntmps31
  go_wp2
  rw [run_callFunc_extern Try.func50 (by kernel_rfl) (by kernel_rfl) (by kernel_rfl) (e := Extern.BytealgCount.count) (by kernel_rfl), Lib.run_countString, byte_z, hc.out]
  simp only [Result.andThen]
  rw [Oper.upon_value]
  go_wp2
  go_ret
  exact ⟨rfl, rfl⟩

set_option maxHeartbeats 1600000 in
set_option maxRecDepth 100000 in
theorem in_c (c : UInt8) (s : ByteArray) (w : World) (hs : s.size ≤ 1000000) :
    Calls Try.prog 28 #[.int .u8 ((c.toNat : Nat) : Int), .string s] w fun e w' => e = .returned (.bool (inB c (bys s))) ∧ w = w' := by
  obtain ⟨R, hR⟩ : ∃ R, Hid (inB c (bys s) = R) := ⟨_, rfl⟩
  rw [hR.out]
  go_enter Try.func28, Try.ntmps28
  go_wp2_with fail
  go_loop [5] (fun i => ∃ j : Nat, j ≤ s.size ∧ i = .int .i64 j ∧ Hid (R = inB c ((bys s).drop j))) (fun i => s.size - (intOf i).toNat)
  case atStart => exact ⟨0, Nat.zero_le _, rfl, by show _ = _; rw [List.drop_zero, hR.out]⟩
  case round =>
    obtain ⟨j, hj, rfl, hI⟩ := hrel
    by_cases hlt : j < s.size
    · have hlt' : (j : Int) < (s.size : Int) := by omega
      obtain ⟨d, hd, x1⟩ := at_s s j hlt
      have hb := beq_nat c d
      have HI : Hid (R = (d == c || inB c ((bys s).drop (j + 1)))) := by show _ = _; rw [hI.out, hd.out, inB_cons]
      clear hI
      cases hdc : d == c with
      | true =>
        rw [hdc] at hb
        have hN : Hid (R = true) := by show _ = _; rw [HI.out, hdc, Bool.true_or]
        clear HI hdc
        go_wp2_with fail
        go_ret
        exact ⟨bool_ret hN.out.symm, rfl⟩
      | false =>
        rw [hdc] at hb
        have hN : Hid (R = inB c ((bys s).drop (j + 1))) := by show _ = _; rw [HI.out, hdc, Bool.false_or]
        clear HI hdc
        go_wp2_with fail
        go_round
        case rel => exact ⟨j + 1, by omega, by go_num, hN⟩
        case measure => simp [intOf]; omega
    · obtain rfl : j = s.size := by omega
      have hN : Hid (R = false) := by show _ = _; rw [hI.out, bys_end]; rfl
      clear hI
      go_wp2_with fail
      go_ret
      exact ⟨bool_ret hN.out.symm, rfl⟩
end Go.Proofs.Ytfknckbclddnmaa
