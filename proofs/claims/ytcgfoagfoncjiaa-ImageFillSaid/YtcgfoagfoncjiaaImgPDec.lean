/-
  The program's firstLength, sideOf, setRuns.
-/
import Derived.Test.YtcgfoagfoncjiaaImgPEnc
import Derived.Test.YtcgfoagfoncjiaaImgRuns
namespace Go.Proofs.Ytcgfoagfoncjiaa
open Go.RowKit Im

def cutA (ao : Option Addr) (c j : Nat) : Option Addr := if c = j then ao else ao.map (·.add j)
theorem Lst.cut {k : IntKind} {w : World} {ao : Option Addr} {n c : Nat} {xs : List Int} (h : Lst k w ao n c xs) {j : Nat} (hj : j ≤ n) : Lst k w (cutA ao c j) (n - j) (c - j) (xs.drop j) := by
  have hl := h.len
  have hc := h.cap
  refine ⟨by simp; omega, by omega, by have := h.room; omega, fun h0 => ?_, fun i hi => ?_, fun x hx => h.wf x (List.mem_of_mem_drop hx)⟩
  · obtain ⟨a, rfl⟩ := h.isSome (by omega)
    unfold cutA
    split
    · exact ⟨_, rfl⟩
    · exact ⟨_, rfl⟩
  · obtain ⟨a, rfl⟩ := h.isSome (by omega)
    have := h.cell (j + i) (by omega)
    have e : pt (cutA (some a) c j) i = pt (some a) (j + i) := by
      unfold cutA
      rw [if_neg (by omega)]
      simp only [pt, Option.map_some, Option.getD_some]
      exact Addr.add_add a j i
    rw [e, this, List.getD_eq_getElem?_getD, List.getD_eq_getElem?_getD, List.getElem?_drop]
/-- A cut from the front, under one name whatever the capacity. -/
theorem slice_from (ao : Option Addr) (n c l : Nat) (hl : l ≤ n) (W : World) :
    (Instr.slice 22 (.slice ao n c) (some (.int .i64 (l : Int))) none none).run Try.prog W = .ok (.slice (cutA ao c l) (n - l) (c - l)) W := by
  obtain ⟨inf, hinf, hs⟩ := Option.map_eq_some_iff.1 size5
  rw [run_slice_l (P := Try.prog) (w := W) 22 ao n c Try.underlying22 .i64 (l : Int) (by omega) (by omega)]
  have e : (sizeOf (Try.prog.elem 22)).run Try.prog W = .ok 1 W := by
    show (sizeOf 5).run Try.prog W = .ok 1 W
    simp [sizeOf, typeInfo, hinf, hs]
  rw [e]
  simp [sliced, cutA]
theorem intsN_drop (b : List Nat) (k : Nat) : (intsN b).drop k = intsN (b.drop k) := by unfold intsN; rw [List.map_drop]
theorem intsN_getD (b : List Nat) (i : Nat) (h : i < b.length) : (intsN b).getD i 0 = ((b.getD i 0 : Nat) : Int) := by
  unfold intsN
  rw [List.getD_eq_getElem?_getD, List.getD_eq_getElem?_getD, List.getElem?_map, List.getElem?_eq_getElem h]
  rfl
namespace Im
/-- What firstLength says: the length and how many bytes it takes. -/
def flU (l : List Nat) : Nat × Nat := match flL l with
  | none => (0, 0)
  | some (n, r) => (n, l.length - r.length)
theorem flL_take : ∀ (k : Nat) (l : List Nat), k < l.length → (∀ i, i < k → l.getD i 0 = 255) → flL l = (flL (l.drop k)).map (fun p => (p.1 + 255 * k, p.2))
  | 0, l, _, _ => by simp
  | k + 1, [], h, _ => by simp at h
  | k + 1, c :: l, h, hh => by
    have hc : c = 255 := by simpa using hh 0 (by omega)
    rw [flL, if_pos hc, flL_take k l (by simpa using h) (fun i hi => by simpa using hh (i + 1) (by omega)), List.drop_succ_cons]
    cases flL (l.drop k) with
    | none => simp only [Option.map_none]
    | some p =>
      have e : p.1 + 255 * k + 255 = p.1 + 255 * (k + 1) := by omega
      simp only [Option.map_some, e]
theorem flL_all : ∀ (l : List Nat), (∀ i, i < l.length → l.getD i 0 = 255) → flL l = none
  | [], _ => rfl
  | c :: l, h => by
    have hc : c = 255 := by simpa using h 0 (by simp)
    rw [flL, if_pos hc, flL_all l (fun i hi => by simpa using h (i + 1) (by simpa using hi))]
    rfl
theorem flU_at {l : List Nat} {k : Nat} (hk : k < l.length) (hh : ∀ i, i < k → l.getD i 0 = 255) (hc : l.getD k 0 ≠ 255) : flU l = (255 * k + l.getD k 0, k + 1) ∧ flL l = some (255 * k + l.getD k 0, l.drop (k + 1)) := by
  have h1 := flL_take k l hk hh
  have h2 : l.drop k = l.getD k 0 :: l.drop (k + 1) := by
    rw [List.drop_eq_getElem_cons hk, List.getD_eq_getElem?_getD, List.getElem?_eq_getElem hk]
    rfl
  rw [h2, flL, if_neg hc] at h1
  simp only [Option.map_some] at h1
  have h3 : flL l = some (255 * k + l.getD k 0, l.drop (k + 1)) := by rw [h1, Nat.add_comm]
  refine ⟨?_, h3⟩
  unfold flU
  rw [h3]
  simp
  omega
end Im
end Go.Proofs.Ytcgfoagfoncjiaa
