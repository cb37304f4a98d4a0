/-
  Strings as lists of bytes: length, element, slice, join, equality. No program.
-/
import Derived.Test.YtfknckbclddnmaaLexMath
namespace Go.Proofs.Ytfknckbclddnmaa.Lx

/-- A string's bytes. -/
def bys (s : ByteArray) : List UInt8 := s.data.toList
/-- The string of some bytes. -/
def stg (l : List UInt8) : ByteArray := ⟨l.toArray⟩
theorem bys_stg (l : List UInt8) : bys (stg l) = l := rfl
theorem stg_bys (s : ByteArray) : stg (bys s) = s := by
  cases s with
  | mk d => rfl
theorem bys_len (s : ByteArray) : (bys s).length = s.size := by simp [bys]
theorem bys_inj {s t : ByteArray} (h : bys s = bys t) : s = t := by rw [← stg_bys s, ← stg_bys t, h]
theorem bys_at (s : ByteArray) (i : Nat) (h : i < s.size) : (bys s)[i]? = some s[i] := by
  unfold bys
  rw [Array.getElem?_toList]
  exact Array.getElem?_eq_getElem h
theorem bys_drop (s : ByteArray) (i : Nat) (h : i < s.size) : (bys s).drop i = s[i] :: (bys s).drop (i + 1) := by
  have h' : i < (bys s).length := by rw [bys_len]; exact h
  rw [List.drop_eq_getElem_cons h']
  have := bys_at s i h
  rw [List.getElem?_eq_getElem h'] at this
  injection this with this
  rw [this]
theorem bys_extract (s : ByteArray) (i j : Nat) : bys (s.extract i j) = ((bys s).drop i).take (j - i) := by
  unfold bys
  rw [ByteArray.data_extract, Array.toList_extract]
theorem bys_append (s t : ByteArray) : bys (s ++ t) = bys s ++ bys t := by
  unfold bys
  rw [ByteArray.data_append, Array.toList_append]
end Go.Proofs.Ytfknckbclddnmaa.Lx
