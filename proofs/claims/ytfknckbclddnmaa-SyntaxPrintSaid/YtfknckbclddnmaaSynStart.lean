/-
  What a law on a definition begins with: the definition is cut and stored again.
-/
import Derived.Test.YtfknckbclddnmaaSynCutC
namespace Go.Proofs.Ytfknckbclddnmaa
open Go.RowKit Lx

namespace Lx
theorem small_cut (s : Src) : smallS (cutD s) := by
  have hm : ∀ (α : Type) (l : List α) (f : α → α) (n : Nat) (x : α), x ∈ (l.take n).map f → ∃ y, x = f y := by
    intro α l f n x hx
    obtain ⟨y, _, rfl⟩ := List.mem_map.1 hx
    exact ⟨y, rfl⟩
  refine ⟨by show (List.take _ _).length ≤ _; rw [List.length_take]; omega, fun b hb => ?_⟩
  obtain ⟨y, rfl⟩ := hm _ _ _ _ _ hb
  refine ⟨by show (List.take _ _).length ≤ _; rw [List.length_take]; omega, by show (List.take _ _).length ≤ _; rw [List.length_take]; omega, fun f hf => ?_⟩
  obtain ⟨g, rfl⟩ := hm _ _ _ _ _ hf
  refine ⟨by show (List.take _ _).length ≤ _; rw [List.length_take]; omega, fun v hv => ?_⟩
  obtain ⟨u, rfl⟩ := hm _ _ _ _ _ hv
  rw [List.length_take]
  omega
end Lx
/-- What a law on a definition begins with: the definition is cut and stored again, and printed. -/
theorem cut_start (t : List UInt8) (ao : Option Addr) (n c : Nat) (bs : List Blc) (w : World) (h : BlkL false anyF w ao n c bs) : ∃ V T K cs, w.alloc (.cells #[.string T, .slice ao n c] 24) = V ∧ V.cell? ⟨w.heap.size, 0, none⟩ = some (.string T) ∧ V.cell? ⟨w.heap.size, 1, none⟩ = some (.slice ao n c) ∧ Hid (stg t = T) ∧ Hid (stg (t.take 40) = K) ∧ Hid (cutBs bs = cs) ∧
    Hid (Calls Try.prog 13 #[.agg #[.string T, .slice ao n c]] V fun e w1 => ∃ (ro : Option Addr) (m d : Nat), e = .returned (.agg #[.string K, .slice ro m d]) ∧ ∃ W, (w1.setCell ⟨w.heap.size, 0, none⟩ (.string K)).setCell ⟨w.heap.size, 1, none⟩ (.slice ro m d) = W ∧
      w1.cell? ⟨w.heap.size, 0, none⟩ = some (.string T) ∧ w1.frozen? ⟨w.heap.size, 0, none⟩ = false ∧ (w1.setCell ⟨w.heap.size, 0, none⟩ (.string K)).cell? ⟨w.heap.size, 1, none⟩ = some (.slice ao n c) ∧ (w1.setCell ⟨w.heap.size, 0, none⟩ (.string K)).frozen? ⟨w.heap.size, 1, none⟩ = false ∧
      Hid (Arr W w.heap.size 24 [.string K, .slice ro m d]) ∧ Hid (BlkL false anyF W ro m d cs) ∧ Hid (Below w.heap.size w W)) := by
  obtain ⟨V, e1, AV, BV, hz⟩ := new_box w 24 [.string (stg t), .slice ao n c]
  refine ⟨V, _, _, _, e1, AV.cell 0, AV.cell 1, rfl, rfl, rfl, ?_⟩
  show Calls _ _ _ _ _
  refine (sCut_c false t ao n c bs V (h.keep stable_any (keeps_below _ BV))).mono ?_
  rintro e w1 ⟨ro, m, d, rfl, BL, B1⟩
  have A1 := AV.kept B1
  obtain ⟨W, e2, hW, AW, f0, f1, f2, f3⟩ := put_box2 A1 (.string (stg (t.take 40))) (.slice ro m d)
  refine ⟨ro, m, d, rfl, W, e2, f0, f1, f2, f3, AW, ?_, ?_⟩
  · show BlkL _ _ _ _ _ _ _
    rw [hW.out]
    exact (BL.keep (stable_own _ _) (keeps_put2 A1 (by decide) _ _)).mono (fun _ _ => trivial)
  · show Below _ _ _
    rw [hW.out]
    exact below_put2 (BV.trans (B1.mono BV.size)) (Nat.le_refl _) _ _

end Go.Proofs.Ytfknckbclddnmaa
