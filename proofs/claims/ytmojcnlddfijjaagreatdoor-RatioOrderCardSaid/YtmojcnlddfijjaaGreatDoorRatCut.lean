/-
  strings.Cut at a text and one byte.
-/
import Derived.Test.YtmojcnlddfijjaaGreatDoorRatBase
import Derived.Test.YtmojcnlddfijjaaGreatDoorShelf
import Derived.Lib.IndexLaws
import Derived.Deep.QuietTactic
import Derived.BigQuiet
namespace Go.Proofs.YtmojcnlddfijjaaGreatDoor
open Go.RowKit NatMath

/-- The two parts of a text around the first byte c, and whether there is one. -/
def cutB (b : ByteArray) (c : UInt8) : ByteArray × ByteArray × Bool :=
  if 0 ≤ Lib.indexByte b.data.toList c then (b.extract 0 (Lib.indexByte b.data.toList c).toNat, b.extract ((Lib.indexByte b.data.toList c).toNat + 1) b.size, true) else (b, ⟨#[]⟩, false)

set_option maxHeartbeats 1600000 in
set_option maxRecDepth 100000 in
theorem cutLite_c (s : ByteArray) (c : UInt8) (w : World) (hs : s.size ≤ 1048576) :
    Calls Tryz.prog 67 #[.string s, .string ⟨#[c]⟩] w fun e w' => e = .returned (.tuple #[.string (cutB s c).1, .string (cutB s c).2.1, .bool (cutB s c).2.2]) ∧ ∃ q, w.drewN q = w' := by
  obtain ⟨i, hi⟩ : ∃ i, Hid (i = Lib.indexByte s.data.toList c) := ⟨_, rfl⟩
  have HI := Tryz.stringslite_Index_one s c w
  rw [← hi.out] at HI
  have HI := Lib.hid HI
  obtain ⟨r, hr⟩ : ∃ r, Hid (r = cutB s c) := ⟨_, rfl⟩
  have hrr : r = if 0 ≤ i then (s.extract 0 i.toNat, s.extract (i.toNat + 1) s.size, true) else (s, ⟨#[]⟩, false) := by rw [hr.out, hi.out]; rfl
  have HR := Lib.hid hrr
  rw [← hr.out]
  clear hrr
  by_cases h0 : 0 ≤ i
  · obtain ⟨k, rfl⟩ : ∃ k : Nat, i = k := ⟨i.toNat, by omega⟩
    have hb : k < s.size := by
      have h1 := (Lib.indexByte_some hi.out.symm).1
      have h2 := (List.getElem?_eq_some_iff.mp h1).1
      simpa using h2
    have e := HR.out
    rw [if_pos h0] at e
    rw [show ((k : Int)).toNat = k from rfl] at e
    subst e
    have hd : decide ((0 : Int) ≤ (k : Int)) = true := by simp
    have c1 : (0 : Int) ≤ (k : Int) := by omega
    have c2 : (k : Int) ≤ (s.size : Int) := by omega
    have c3 : (0 : Int) ≤ (k : Int) + 1 := by omega
    have c4 : (k : Int) + 1 ≤ (s.size : Int) := by omega
    have c5 : IntKind.i64.wrap ((k : Int) + 1) = (k : Int) + 1 := IntWalk.i64_in _ (by omega)
    have c6 : ((k : Int) + 1).toNat = k + 1 := by omega
    go_enter Tryz.func67, Tryz.ntmps67
    go_wp2_with fail
    refine HI.out.mono ?_
    rintro e w' ⟨rfl, rfl⟩
    go_wp2_with fail
    go_quiet (fail)
    go_wp2_with fail
    go_ret3
    exact ⟨rfl, _, rfl⟩
  · have hd : decide (0 ≤ i) = false := by simpa using h0
    have e := HR.out
    rw [if_neg h0] at e
    subst e
    go_enter Tryz.func67, Tryz.ntmps67
    go_wp2_with fail
    refine HI.out.mono ?_
    rintro e w' ⟨rfl, rfl⟩
    go_wp2_with fail
    go_ret3
    exact ⟨rfl, 0, rfl⟩

theorem cut_c (s : ByteArray) (c : UInt8) (w : World) (hs : s.size ≤ 1048576) :
    Calls Tryz.prog 49 #[.string s, .string ⟨#[c]⟩] w fun e w' => e = .returned (.tuple #[.string (cutB s c).1, .string (cutB s c).2.1, .bool (cutB s c).2.2]) ∧ ∃ q, w.drewN q = w' := by
  have H := Lib.hid (cutLite_c s c w hs)
  go_enter Tryz.func49, Tryz.ntmps49
  go_wp2_with fail
  refine H.out.mono ?_
  rintro e w' ⟨rfl, n, rfl⟩
  go_wp2_with fail
  go_ret3
  exact ⟨rfl, n, rfl⟩
end Go.Proofs.YtmojcnlddfijjaaGreatDoor
