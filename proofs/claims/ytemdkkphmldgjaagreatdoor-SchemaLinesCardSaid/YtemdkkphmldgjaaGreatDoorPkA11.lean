/-
  Texts of the proof, put together: SchBox NatSub NatAdd.
-/
import Derived.Deep.RegionHeld3
import Derived.Deep.RegionLaw
import Derived.Laws.CopyOwn
import Derived.Test.YtemdkkphmldgjaaGreatDoorPkA6
import Derived.Test.YtemdkkphmldgjaaGreatDoorPkA8
import Derived.Test.YtemdkkphmldgjaaGreatDoorPkA9
import Derived.Test.YtemdkkphmldgjaaGreatDoorPkA10
set_option maxRecDepth 100000
set_option maxHeartbeats 6400000
namespace Go.Proofs.YtemdkkphmldgjaaGreatDoor
open Go.RowKit Lx
theorem put_box5 {w : World} {g : Nat} {t : TypeId} {v0 v1 v2 v3 v4 : Value} (h : Arr w g t [v0, v1, v2, v3, v4]) (u0 u1 u2 u3 u4 : Value) : ∃ V, (((((w.setCell ⟨g, 0, none⟩ u0).setCell ⟨g, 1, none⟩ u1).setCell ⟨g, 2, none⟩ u2).setCell ⟨g, 3, none⟩ u3).setCell ⟨g, 4, none⟩ u4) = V /\ Arr V g t [u0, u1, u2, u3, u4] /\ w.grownBy V (some g) /\ (∀ (B : Nat) (a : World), Below B a w -> B <= g -> Below B a V) /\ w.cell? ⟨g, 0, none⟩ = some v0 /\ w.frozen? ⟨g, 0, none⟩ = false /\ (w.setCell ⟨g, 0, none⟩ u0).cell? ⟨g, 1, none⟩ = some v1 /\ (w.setCell ⟨g, 0, none⟩ u0).frozen? ⟨g, 1, none⟩ = false /\ ((w.setCell ⟨g, 0, none⟩ u0).setCell ⟨g, 1, none⟩ u1).cell? ⟨g, 2, none⟩ = some v2 /\ ((w.setCell ⟨g, 0, none⟩ u0).setCell ⟨g, 1, none⟩ u1).frozen? ⟨g, 2, none⟩ = false /\ (((w.setCell ⟨g, 0, none⟩ u0).setCell ⟨g, 1, none⟩ u1).setCell ⟨g, 2, none⟩ u2).cell? ⟨g, 3, none⟩ = some v3 /\ (((w.setCell ⟨g, 0, none⟩ u0).setCell ⟨g, 1, none⟩ u1).setCell ⟨g, 2, none⟩ u2).frozen? ⟨g, 3, none⟩ = false /\ ((((w.setCell ⟨g, 0, none⟩ u0).setCell ⟨g, 1, none⟩ u1).setCell ⟨g, 2, none⟩ u2).setCell ⟨g, 3, none⟩ u3).cell? ⟨g, 4, none⟩ = some v4 /\ ((((w.setCell ⟨g, 0, none⟩ u0).setCell ⟨g, 1, none⟩ u1).setCell ⟨g, 2, none⟩ u2).setCell ⟨g, 3, none⟩ u3).frozen? ⟨g, 4, none⟩ = false :=
 ⟨_, rfl, (((((h.set 0 u0).set 1 u1).set 2 u2).set 3 u3).set 4 u4), grown_trans (grown_trans (grown_trans (grown_trans (set_grown w g 0 u0) (set_grown _ g 1 u1)) (set_grown _ g 2 u2)) (set_grown _ g 3 u3)) (set_grown _ g 4 u4), fun B a hb hg => (((((hb.setCell (p := ⟨_, 0, none⟩) hg u0).setCell (p := ⟨_, 1, none⟩) hg u1).setCell (p := ⟨_, 2, none⟩) hg u2).setCell (p := ⟨_, 3, none⟩) hg u3).setCell (p := ⟨_, 4, none⟩) hg u4), h.cell 0, h.frozen 0, (h.set 0 u0).cell 1, (h.set 0 u0).frozen 1, ((h.set 0 u0).set 1 u1).cell 2, ((h.set 0 u0).set 1 u1).frozen 2, (((h.set 0 u0).set 1 u1).set 2 u2).cell 3, (((h.set 0 u0).set 1 u1).set 2 u2).frozen 3, ((((h.set 0 u0).set 1 u1).set 2 u2).set 3 u3).cell 4, ((((h.set 0 u0).set 1 u1).set 2 u2).set 3 u3).frozen 4⟩
theorem new_put5 (w : World) (T : TypeId) (z0 z1 z2 z3 z4 u0 u1 u2 u3 u4 : Value) : ∃ V V2, w.alloc (.cells #[z0, z1, z2, z3, z4] T) = V /\ (((((V.setCell ⟨w.heap.size, 0, none⟩ u0).setCell ⟨w.heap.size, 1, none⟩ u1).setCell ⟨w.heap.size, 2, none⟩ u2).setCell ⟨w.heap.size, 3, none⟩ u3).setCell ⟨w.heap.size, 4, none⟩ u4) = V2 /\ Arr V2 w.heap.size T [u0, u1, u2, u3, u4] /\ Below w.heap.size w V2 /\ V2.heap.size = w.heap.size + 1 /\ V.cell? ⟨w.heap.size, 0, none⟩ = some z0 /\ V.frozen? ⟨w.heap.size, 0, none⟩ = false /\ (V.setCell ⟨w.heap.size, 0, none⟩ u0).cell? ⟨w.heap.size, 1, none⟩ = some z1 /\ (V.setCell ⟨w.heap.size, 0, none⟩ u0).frozen? ⟨w.heap.size, 1, none⟩ = false /\ ((V.setCell ⟨w.heap.size, 0, none⟩ u0).setCell ⟨w.heap.size, 1, none⟩ u1).cell? ⟨w.heap.size, 2, none⟩ = some z2 /\ ((V.setCell ⟨w.heap.size, 0, none⟩ u0).setCell ⟨w.heap.size, 1, none⟩ u1).frozen? ⟨w.heap.size, 2, none⟩ = false /\ (((V.setCell ⟨w.heap.size, 0, none⟩ u0).setCell ⟨w.heap.size, 1, none⟩ u1).setCell ⟨w.heap.size, 2, none⟩ u2).cell? ⟨w.heap.size, 3, none⟩ = some z3 /\ (((V.setCell ⟨w.heap.size, 0, none⟩ u0).setCell ⟨w.heap.size, 1, none⟩ u1).setCell ⟨w.heap.size, 2, none⟩ u2).frozen? ⟨w.heap.size, 3, none⟩ = false /\ ((((V.setCell ⟨w.heap.size, 0, none⟩ u0).setCell ⟨w.heap.size, 1, none⟩ u1).setCell ⟨w.heap.size, 2, none⟩ u2).setCell ⟨w.heap.size, 3, none⟩ u3).cell? ⟨w.heap.size, 4, none⟩ = some z4 /\ ((((V.setCell ⟨w.heap.size, 0, none⟩ u0).setCell ⟨w.heap.size, 1, none⟩ u1).setCell ⟨w.heap.size, 2, none⟩ u2).setCell ⟨w.heap.size, 3, none⟩ u3).frozen? ⟨w.heap.size, 4, none⟩ = false := by
 obtain ⟨V, e1, h, BV, hz⟩ := new_box w T [z0, z1, z2, z3, z4]
 refine ⟨V, _, e1, rfl, (((((h.set 0 u0).set 1 u1).set 2 u2).set 3 u3).set 4 u4), (((((BV.setCell (p := ⟨_, 0, none⟩) (Nat.le_refl _) u0).setCell (p := ⟨_, 1, none⟩) (Nat.le_refl _) u1).setCell (p := ⟨_, 2, none⟩) (Nat.le_refl _) u2).setCell (p := ⟨_, 3, none⟩) (Nat.le_refl _) u3).setCell (p := ⟨_, 4, none⟩) (Nat.le_refl _) u4), ?_, h.cell 0, h.frozen 0, (h.set 0 u0).cell 1, (h.set 0 u0).frozen 1, ((h.set 0 u0).set 1 u1).cell 2, ((h.set 0 u0).set 1 u1).frozen 2, (((h.set 0 u0).set 1 u1).set 2 u2).cell 3, (((h.set 0 u0).set 1 u1).set 2 u2).frozen 3, ((((h.set 0 u0).set 1 u1).set 2 u2).set 3 u3).cell 4, ((((h.set 0 u0).set 1 u1).set 2 u2).set 3 u3).frozen 4⟩
 simp only [World.setCell, Array.size_modify]
 exact hz
theorem put_box9 {w : World} {g : Nat} {t : TypeId} {v0 v1 v2 v3 v4 v5 v6 v7 v8 : Value} (h : Arr w g t [v0, v1, v2, v3, v4, v5, v6, v7, v8]) (u0 u1 u2 u3 u4 u5 u6 u7 u8 : Value) : ∃ V, (((((((((w.setCell ⟨g, 0, none⟩ u0).setCell ⟨g, 1, none⟩ u1).setCell ⟨g, 2, none⟩ u2).setCell ⟨g, 3, none⟩ u3).setCell ⟨g, 4, none⟩ u4).setCell ⟨g, 5, none⟩ u5).setCell ⟨g, 6, none⟩ u6).setCell ⟨g, 7, none⟩ u7).setCell ⟨g, 8, none⟩ u8) = V /\ Arr V g t [u0, u1, u2, u3, u4, u5, u6, u7, u8] /\ w.grownBy V (some g) /\ (∀ (B : Nat) (a : World), Below B a w -> B <= g -> Below B a V) /\ w.cell? ⟨g, 0, none⟩ = some v0 /\ w.frozen? ⟨g, 0, none⟩ = false /\ (w.setCell ⟨g, 0, none⟩ u0).cell? ⟨g, 1, none⟩ = some v1 /\ (w.setCell ⟨g, 0, none⟩ u0).frozen? ⟨g, 1, none⟩ = false /\ ((w.setCell ⟨g, 0, none⟩ u0).setCell ⟨g, 1, none⟩ u1).cell? ⟨g, 2, none⟩ = some v2 /\ ((w.setCell ⟨g, 0, none⟩ u0).setCell ⟨g, 1, none⟩ u1).frozen? ⟨g, 2, none⟩ = false /\ (((w.setCell ⟨g, 0, none⟩ u0).setCell ⟨g, 1, none⟩ u1).setCell ⟨g, 2, none⟩ u2).cell? ⟨g, 3, none⟩ = some v3 /\ (((w.setCell ⟨g, 0, none⟩ u0).setCell ⟨g, 1, none⟩ u1).setCell ⟨g, 2, none⟩ u2).frozen? ⟨g, 3, none⟩ = false /\ ((((w.setCell ⟨g, 0, none⟩ u0).setCell ⟨g, 1, none⟩ u1).setCell ⟨g, 2, none⟩ u2).setCell ⟨g, 3, none⟩ u3).cell? ⟨g, 4, none⟩ = some v4 /\ ((((w.setCell ⟨g, 0, none⟩ u0).setCell ⟨g, 1, none⟩ u1).setCell ⟨g, 2, none⟩ u2).setCell ⟨g, 3, none⟩ u3).frozen? ⟨g, 4, none⟩ = false /\ (((((w.setCell ⟨g, 0, none⟩ u0).setCell ⟨g, 1, none⟩ u1).setCell ⟨g, 2, none⟩ u2).setCell ⟨g, 3, none⟩ u3).setCell ⟨g, 4, none⟩ u4).cell? ⟨g, 5, none⟩ = some v5 /\ (((((w.setCell ⟨g, 0, none⟩ u0).setCell ⟨g, 1, none⟩ u1).setCell ⟨g, 2, none⟩ u2).setCell ⟨g, 3, none⟩ u3).setCell ⟨g, 4, none⟩ u4).frozen? ⟨g, 5, none⟩ = false /\ ((((((w.setCell ⟨g, 0, none⟩ u0).setCell ⟨g, 1, none⟩ u1).setCell ⟨g, 2, none⟩ u2).setCell ⟨g, 3, none⟩ u3).setCell ⟨g, 4, none⟩ u4).setCell ⟨g, 5, none⟩ u5).cell? ⟨g, 6, none⟩ = some v6 /\ ((((((w.setCell ⟨g, 0, none⟩ u0).setCell ⟨g, 1, none⟩ u1).setCell ⟨g, 2, none⟩ u2).setCell ⟨g, 3, none⟩ u3).setCell ⟨g, 4, none⟩ u4).setCell ⟨g, 5, none⟩ u5).frozen? ⟨g, 6, none⟩ = false /\ (((((((w.setCell ⟨g, 0, none⟩ u0).setCell ⟨g, 1, none⟩ u1).setCell ⟨g, 2, none⟩ u2).setCell ⟨g, 3, none⟩ u3).setCell ⟨g, 4, none⟩ u4).setCell ⟨g, 5, none⟩ u5).setCell ⟨g, 6, none⟩ u6).cell? ⟨g, 7, none⟩ = some v7 /\ (((((((w.setCell ⟨g, 0, none⟩ u0).setCell ⟨g, 1, none⟩ u1).setCell ⟨g, 2, none⟩ u2).setCell ⟨g, 3, none⟩ u3).setCell ⟨g, 4, none⟩ u4).setCell ⟨g, 5, none⟩ u5).setCell ⟨g, 6, none⟩ u6).frozen? ⟨g, 7, none⟩ = false /\ ((((((((w.setCell ⟨g, 0, none⟩ u0).setCell ⟨g, 1, none⟩ u1).setCell ⟨g, 2, none⟩ u2).setCell ⟨g, 3, none⟩ u3).setCell ⟨g, 4, none⟩ u4).setCell ⟨g, 5, none⟩ u5).setCell ⟨g, 6, none⟩ u6).setCell ⟨g, 7, none⟩ u7).cell? ⟨g, 8, none⟩ = some v8 /\ ((((((((w.setCell ⟨g, 0, none⟩ u0).setCell ⟨g, 1, none⟩ u1).setCell ⟨g, 2, none⟩ u2).setCell ⟨g, 3, none⟩ u3).setCell ⟨g, 4, none⟩ u4).setCell ⟨g, 5, none⟩ u5).setCell ⟨g, 6, none⟩ u6).setCell ⟨g, 7, none⟩ u7).frozen? ⟨g, 8, none⟩ = false :=
 ⟨_, rfl, (((((((((h.set 0 u0).set 1 u1).set 2 u2).set 3 u3).set 4 u4).set 5 u5).set 6 u6).set 7 u7).set 8 u8), grown_trans (grown_trans (grown_trans (grown_trans (grown_trans (grown_trans (grown_trans (grown_trans (set_grown w g 0 u0) (set_grown _ g 1 u1)) (set_grown _ g 2 u2)) (set_grown _ g 3 u3)) (set_grown _ g 4 u4)) (set_grown _ g 5 u5)) (set_grown _ g 6 u6)) (set_grown _ g 7 u7)) (set_grown _ g 8 u8), fun B a hb hg => (((((((((hb.setCell (p := ⟨_, 0, none⟩) hg u0).setCell (p := ⟨_, 1, none⟩) hg u1).setCell (p := ⟨_, 2, none⟩) hg u2).setCell (p := ⟨_, 3, none⟩) hg u3).setCell (p := ⟨_, 4, none⟩) hg u4).setCell (p := ⟨_, 5, none⟩) hg u5).setCell (p := ⟨_, 6, none⟩) hg u6).setCell (p := ⟨_, 7, none⟩) hg u7).setCell (p := ⟨_, 8, none⟩) hg u8), h.cell 0, h.frozen 0, (h.set 0 u0).cell 1, (h.set 0 u0).frozen 1, ((h.set 0 u0).set 1 u1).cell 2, ((h.set 0 u0).set 1 u1).frozen 2, (((h.set 0 u0).set 1 u1).set 2 u2).cell 3, (((h.set 0 u0).set 1 u1).set 2 u2).frozen 3, ((((h.set 0 u0).set 1 u1).set 2 u2).set 3 u3).cell 4, ((((h.set 0 u0).set 1 u1).set 2 u2).set 3 u3).frozen 4, (((((h.set 0 u0).set 1 u1).set 2 u2).set 3 u3).set 4 u4).cell 5, (((((h.set 0 u0).set 1 u1).set 2 u2).set 3 u3).set 4 u4).frozen 5, ((((((h.set 0 u0).set 1 u1).set 2 u2).set 3 u3).set 4 u4).set 5 u5).cell 6, ((((((h.set 0 u0).set 1 u1).set 2 u2).set 3 u3).set 4 u4).set 5 u5).frozen 6, (((((((h.set 0 u0).set 1 u1).set 2 u2).set 3 u3).set 4 u4).set 5 u5).set 6 u6).cell 7, (((((((h.set 0 u0).set 1 u1).set 2 u2).set 3 u3).set 4 u4).set 5 u5).set 6 u6).frozen 7, ((((((((h.set 0 u0).set 1 u1).set 2 u2).set 3 u3).set 4 u4).set 5 u5).set 6 u6).set 7 u7).cell 8, ((((((((h.set 0 u0).set 1 u1).set 2 u2).set 3 u3).set 4 u4).set 5 u5).set 6 u6).set 7 u7).frozen 8⟩
theorem put_box14 {w : World} {g : Nat} {t : TypeId} {v0 v1 v2 v3 v4 v5 v6 v7 v8 v9 v10 v11 v12 v13 : Value} (h : Arr w g t [v0, v1, v2, v3, v4, v5, v6, v7, v8, v9, v10, v11, v12, v13]) (u0 u1 u2 u3 u4 u5 u6 u7 u8 u9 u10 u11 u12 u13 : Value) : ∃ V, ((((((((((((((w.setCell ⟨g, 0, none⟩ u0).setCell ⟨g, 1, none⟩ u1).setCell ⟨g, 2, none⟩ u2).setCell ⟨g, 3, none⟩ u3).setCell ⟨g, 4, none⟩ u4).setCell ⟨g, 5, none⟩ u5).setCell ⟨g, 6, none⟩ u6).setCell ⟨g, 7, none⟩ u7).setCell ⟨g, 8, none⟩ u8).setCell ⟨g, 9, none⟩ u9).setCell ⟨g, 10, none⟩ u10).setCell ⟨g, 11, none⟩ u11).setCell ⟨g, 12, none⟩ u12).setCell ⟨g, 13, none⟩ u13) = V /\ Arr V g t [u0, u1, u2, u3, u4, u5, u6, u7, u8, u9, u10, u11, u12, u13] /\ w.grownBy V (some g) /\ (∀ (B : Nat) (a : World), Below B a w -> B <= g -> Below B a V) /\ w.cell? ⟨g, 0, none⟩ = some v0 /\ w.frozen? ⟨g, 0, none⟩ = false /\ (w.setCell ⟨g, 0, none⟩ u0).cell? ⟨g, 1, none⟩ = some v1 /\ (w.setCell ⟨g, 0, none⟩ u0).frozen? ⟨g, 1, none⟩ = false /\ ((w.setCell ⟨g, 0, none⟩ u0).setCell ⟨g, 1, none⟩ u1).cell? ⟨g, 2, none⟩ = some v2 /\ ((w.setCell ⟨g, 0, none⟩ u0).setCell ⟨g, 1, none⟩ u1).frozen? ⟨g, 2, none⟩ = false /\ (((w.setCell ⟨g, 0, none⟩ u0).setCell ⟨g, 1, none⟩ u1).setCell ⟨g, 2, none⟩ u2).cell? ⟨g, 3, none⟩ = some v3 /\ (((w.setCell ⟨g, 0, none⟩ u0).setCell ⟨g, 1, none⟩ u1).setCell ⟨g, 2, none⟩ u2).frozen? ⟨g, 3, none⟩ = false /\ ((((w.setCell ⟨g, 0, none⟩ u0).setCell ⟨g, 1, none⟩ u1).setCell ⟨g, 2, none⟩ u2).setCell ⟨g, 3, none⟩ u3).cell? ⟨g, 4, none⟩ = some v4 /\ ((((w.setCell ⟨g, 0, none⟩ u0).setCell ⟨g, 1, none⟩ u1).setCell ⟨g, 2, none⟩ u2).setCell ⟨g, 3, none⟩ u3).frozen? ⟨g, 4, none⟩ = false /\ (((((w.setCell ⟨g, 0, none⟩ u0).setCell ⟨g, 1, none⟩ u1).setCell ⟨g, 2, none⟩ u2).setCell ⟨g, 3, none⟩ u3).setCell ⟨g, 4, none⟩ u4).cell? ⟨g, 5, none⟩ = some v5 /\ (((((w.setCell ⟨g, 0, none⟩ u0).setCell ⟨g, 1, none⟩ u1).setCell ⟨g, 2, none⟩ u2).setCell ⟨g, 3, none⟩ u3).setCell ⟨g, 4, none⟩ u4).frozen? ⟨g, 5, none⟩ = false /\ ((((((w.setCell ⟨g, 0, none⟩ u0).setCell ⟨g, 1, none⟩ u1).setCell ⟨g, 2, none⟩ u2).setCell ⟨g, 3, none⟩ u3).setCell ⟨g, 4, none⟩ u4).setCell ⟨g, 5, none⟩ u5).cell? ⟨g, 6, none⟩ = some v6 /\ ((((((w.setCell ⟨g, 0, none⟩ u0).setCell ⟨g, 1, none⟩ u1).setCell ⟨g, 2, none⟩ u2).setCell ⟨g, 3, none⟩ u3).setCell ⟨g, 4, none⟩ u4).setCell ⟨g, 5, none⟩ u5).frozen? ⟨g, 6, none⟩ = false /\ (((((((w.setCell ⟨g, 0, none⟩ u0).setCell ⟨g, 1, none⟩ u1).setCell ⟨g, 2, none⟩ u2).setCell ⟨g, 3, none⟩ u3).setCell ⟨g, 4, none⟩ u4).setCell ⟨g, 5, none⟩ u5).setCell ⟨g, 6, none⟩ u6).cell? ⟨g, 7, none⟩ = some v7 /\ (((((((w.setCell ⟨g, 0, none⟩ u0).setCell ⟨g, 1, none⟩ u1).setCell ⟨g, 2, none⟩ u2).setCell ⟨g, 3, none⟩ u3).setCell ⟨g, 4, none⟩ u4).setCell ⟨g, 5, none⟩ u5).setCell ⟨g, 6, none⟩ u6).frozen? ⟨g, 7, none⟩ = false /\ ((((((((w.setCell ⟨g, 0, none⟩ u0).setCell ⟨g, 1, none⟩ u1).setCell ⟨g, 2, none⟩ u2).setCell ⟨g, 3, none⟩ u3).setCell ⟨g, 4, none⟩ u4).setCell ⟨g, 5, none⟩ u5).setCell ⟨g, 6, none⟩ u6).setCell ⟨g, 7, none⟩ u7).cell? ⟨g, 8, none⟩ = some v8 /\ ((((((((w.setCell ⟨g, 0, none⟩ u0).setCell ⟨g, 1, none⟩ u1).setCell ⟨g, 2, none⟩ u2).setCell ⟨g, 3, none⟩ u3).setCell ⟨g, 4, none⟩ u4).setCell ⟨g, 5, none⟩ u5).setCell ⟨g, 6, none⟩ u6).setCell ⟨g, 7, none⟩ u7).frozen? ⟨g, 8, none⟩ = false /\ (((((((((w.setCell ⟨g, 0, none⟩ u0).setCell ⟨g, 1, none⟩ u1).setCell ⟨g, 2, none⟩ u2).setCell ⟨g, 3, none⟩ u3).setCell ⟨g, 4, none⟩ u4).setCell ⟨g, 5, none⟩ u5).setCell ⟨g, 6, none⟩ u6).setCell ⟨g, 7, none⟩ u7).setCell ⟨g, 8, none⟩ u8).cell? ⟨g, 9, none⟩ = some v9 /\ (((((((((w.setCell ⟨g, 0, none⟩ u0).setCell ⟨g, 1, none⟩ u1).setCell ⟨g, 2, none⟩ u2).setCell ⟨g, 3, none⟩ u3).setCell ⟨g, 4, none⟩ u4).setCell ⟨g, 5, none⟩ u5).setCell ⟨g, 6, none⟩ u6).setCell ⟨g, 7, none⟩ u7).setCell ⟨g, 8, none⟩ u8).frozen? ⟨g, 9, none⟩ = false /\ ((((((((((w.setCell ⟨g, 0, none⟩ u0).setCell ⟨g, 1, none⟩ u1).setCell ⟨g, 2, none⟩ u2).setCell ⟨g, 3, none⟩ u3).setCell ⟨g, 4, none⟩ u4).setCell ⟨g, 5, none⟩ u5).setCell ⟨g, 6, none⟩ u6).setCell ⟨g, 7, none⟩ u7).setCell ⟨g, 8, none⟩ u8).setCell ⟨g, 9, none⟩ u9).cell? ⟨g, 10, none⟩ = some v10 /\ ((((((((((w.setCell ⟨g, 0, none⟩ u0).setCell ⟨g, 1, none⟩ u1).setCell ⟨g, 2, none⟩ u2).setCell ⟨g, 3, none⟩ u3).setCell ⟨g, 4, none⟩ u4).setCell ⟨g, 5, none⟩ u5).setCell ⟨g, 6, none⟩ u6).setCell ⟨g, 7, none⟩ u7).setCell ⟨g, 8, none⟩ u8).setCell ⟨g, 9, none⟩ u9).frozen? ⟨g, 10, none⟩ = false /\ (((((((((((w.setCell ⟨g, 0, none⟩ u0).setCell ⟨g, 1, none⟩ u1).setCell ⟨g, 2, none⟩ u2).setCell ⟨g, 3, none⟩ u3).setCell ⟨g, 4, none⟩ u4).setCell ⟨g, 5, none⟩ u5).setCell ⟨g, 6, none⟩ u6).setCell ⟨g, 7, none⟩ u7).setCell ⟨g, 8, none⟩ u8).setCell ⟨g, 9, none⟩ u9).setCell ⟨g, 10, none⟩ u10).cell? ⟨g, 11, none⟩ = some v11 /\ (((((((((((w.setCell ⟨g, 0, none⟩ u0).setCell ⟨g, 1, none⟩ u1).setCell ⟨g, 2, none⟩ u2).setCell ⟨g, 3, none⟩ u3).setCell ⟨g, 4, none⟩ u4).setCell ⟨g, 5, none⟩ u5).setCell ⟨g, 6, none⟩ u6).setCell ⟨g, 7, none⟩ u7).setCell ⟨g, 8, none⟩ u8).setCell ⟨g, 9, none⟩ u9).setCell ⟨g, 10, none⟩ u10).frozen? ⟨g, 11, none⟩ = false /\ ((((((((((((w.setCell ⟨g, 0, none⟩ u0).setCell ⟨g, 1, none⟩ u1).setCell ⟨g, 2, none⟩ u2).setCell ⟨g, 3, none⟩ u3).setCell ⟨g, 4, none⟩ u4).setCell ⟨g, 5, none⟩ u5).setCell ⟨g, 6, none⟩ u6).setCell ⟨g, 7, none⟩ u7).setCell ⟨g, 8, none⟩ u8).setCell ⟨g, 9, none⟩ u9).setCell ⟨g, 10, none⟩ u10).setCell ⟨g, 11, none⟩ u11).cell? ⟨g, 12, none⟩ = some v12 /\ ((((((((((((w.setCell ⟨g, 0, none⟩ u0).setCell ⟨g, 1, none⟩ u1).setCell ⟨g, 2, none⟩ u2).setCell ⟨g, 3, none⟩ u3).setCell ⟨g, 4, none⟩ u4).setCell ⟨g, 5, none⟩ u5).setCell ⟨g, 6, none⟩ u6).setCell ⟨g, 7, none⟩ u7).setCell ⟨g, 8, none⟩ u8).setCell ⟨g, 9, none⟩ u9).setCell ⟨g, 10, none⟩ u10).setCell ⟨g, 11, none⟩ u11).frozen? ⟨g, 12, none⟩ = false /\ (((((((((((((w.setCell ⟨g, 0, none⟩ u0).setCell ⟨g, 1, none⟩ u1).setCell ⟨g, 2, none⟩ u2).setCell ⟨g, 3, none⟩ u3).setCell ⟨g, 4, none⟩ u4).setCell ⟨g, 5, none⟩ u5).setCell ⟨g, 6, none⟩ u6).setCell ⟨g, 7, none⟩ u7).setCell ⟨g, 8, none⟩ u8).setCell ⟨g, 9, none⟩ u9).setCell ⟨g, 10, none⟩ u10).setCell ⟨g, 11, none⟩ u11).setCell ⟨g, 12, none⟩ u12).cell? ⟨g, 13, none⟩ = some v13 /\ (((((((((((((w.setCell ⟨g, 0, none⟩ u0).setCell ⟨g, 1, none⟩ u1).setCell ⟨g, 2, none⟩ u2).setCell ⟨g, 3, none⟩ u3).setCell ⟨g, 4, none⟩ u4).setCell ⟨g, 5, none⟩ u5).setCell ⟨g, 6, none⟩ u6).setCell ⟨g, 7, none⟩ u7).setCell ⟨g, 8, none⟩ u8).setCell ⟨g, 9, none⟩ u9).setCell ⟨g, 10, none⟩ u10).setCell ⟨g, 11, none⟩ u11).setCell ⟨g, 12, none⟩ u12).frozen? ⟨g, 13, none⟩ = false :=
 ⟨_, rfl, ((((((((((((((h.set 0 u0).set 1 u1).set 2 u2).set 3 u3).set 4 u4).set 5 u5).set 6 u6).set 7 u7).set 8 u8).set 9 u9).set 10 u10).set 11 u11).set 12 u12).set 13 u13), grown_trans (grown_trans (grown_trans (grown_trans (grown_trans (grown_trans (grown_trans (grown_trans (grown_trans (grown_trans (grown_trans (grown_trans (grown_trans (set_grown w g 0 u0) (set_grown _ g 1 u1)) (set_grown _ g 2 u2)) (set_grown _ g 3 u3)) (set_grown _ g 4 u4)) (set_grown _ g 5 u5)) (set_grown _ g 6 u6)) (set_grown _ g 7 u7)) (set_grown _ g 8 u8)) (set_grown _ g 9 u9)) (set_grown _ g 10 u10)) (set_grown _ g 11 u11)) (set_grown _ g 12 u12)) (set_grown _ g 13 u13), fun B a hb hg => ((((((((((((((hb.setCell (p := ⟨_, 0, none⟩) hg u0).setCell (p := ⟨_, 1, none⟩) hg u1).setCell (p := ⟨_, 2, none⟩) hg u2).setCell (p := ⟨_, 3, none⟩) hg u3).setCell (p := ⟨_, 4, none⟩) hg u4).setCell (p := ⟨_, 5, none⟩) hg u5).setCell (p := ⟨_, 6, none⟩) hg u6).setCell (p := ⟨_, 7, none⟩) hg u7).setCell (p := ⟨_, 8, none⟩) hg u8).setCell (p := ⟨_, 9, none⟩) hg u9).setCell (p := ⟨_, 10, none⟩) hg u10).setCell (p := ⟨_, 11, none⟩) hg u11).setCell (p := ⟨_, 12, none⟩) hg u12).setCell (p := ⟨_, 13, none⟩) hg u13), h.cell 0, h.frozen 0, (h.set 0 u0).cell 1, (h.set 0 u0).frozen 1, ((h.set 0 u0).set 1 u1).cell 2, ((h.set 0 u0).set 1 u1).frozen 2, (((h.set 0 u0).set 1 u1).set 2 u2).cell 3, (((h.set 0 u0).set 1 u1).set 2 u2).frozen 3, ((((h.set 0 u0).set 1 u1).set 2 u2).set 3 u3).cell 4, ((((h.set 0 u0).set 1 u1).set 2 u2).set 3 u3).frozen 4, (((((h.set 0 u0).set 1 u1).set 2 u2).set 3 u3).set 4 u4).cell 5, (((((h.set 0 u0).set 1 u1).set 2 u2).set 3 u3).set 4 u4).frozen 5, ((((((h.set 0 u0).set 1 u1).set 2 u2).set 3 u3).set 4 u4).set 5 u5).cell 6, ((((((h.set 0 u0).set 1 u1).set 2 u2).set 3 u3).set 4 u4).set 5 u5).frozen 6, (((((((h.set 0 u0).set 1 u1).set 2 u2).set 3 u3).set 4 u4).set 5 u5).set 6 u6).cell 7, (((((((h.set 0 u0).set 1 u1).set 2 u2).set 3 u3).set 4 u4).set 5 u5).set 6 u6).frozen 7, ((((((((h.set 0 u0).set 1 u1).set 2 u2).set 3 u3).set 4 u4).set 5 u5).set 6 u6).set 7 u7).cell 8, ((((((((h.set 0 u0).set 1 u1).set 2 u2).set 3 u3).set 4 u4).set 5 u5).set 6 u6).set 7 u7).frozen 8, (((((((((h.set 0 u0).set 1 u1).set 2 u2).set 3 u3).set 4 u4).set 5 u5).set 6 u6).set 7 u7).set 8 u8).cell 9, (((((((((h.set 0 u0).set 1 u1).set 2 u2).set 3 u3).set 4 u4).set 5 u5).set 6 u6).set 7 u7).set 8 u8).frozen 9, ((((((((((h.set 0 u0).set 1 u1).set 2 u2).set 3 u3).set 4 u4).set 5 u5).set 6 u6).set 7 u7).set 8 u8).set 9 u9).cell 10, ((((((((((h.set 0 u0).set 1 u1).set 2 u2).set 3 u3).set 4 u4).set 5 u5).set 6 u6).set 7 u7).set 8 u8).set 9 u9).frozen 10, (((((((((((h.set 0 u0).set 1 u1).set 2 u2).set 3 u3).set 4 u4).set 5 u5).set 6 u6).set 7 u7).set 8 u8).set 9 u9).set 10 u10).cell 11, (((((((((((h.set 0 u0).set 1 u1).set 2 u2).set 3 u3).set 4 u4).set 5 u5).set 6 u6).set 7 u7).set 8 u8).set 9 u9).set 10 u10).frozen 11, ((((((((((((h.set 0 u0).set 1 u1).set 2 u2).set 3 u3).set 4 u4).set 5 u5).set 6 u6).set 7 u7).set 8 u8).set 9 u9).set 10 u10).set 11 u11).cell 12, ((((((((((((h.set 0 u0).set 1 u1).set 2 u2).set 3 u3).set 4 u4).set 5 u5).set 6 u6).set 7 u7).set 8 u8).set 9 u9).set 10 u10).set 11 u11).frozen 12, (((((((((((((h.set 0 u0).set 1 u1).set 2 u2).set 3 u3).set 4 u4).set 5 u5).set 6 u6).set 7 u7).set 8 u8).set 9 u9).set 10 u10).set 11 u11).set 12 u12).cell 13, (((((((((((((h.set 0 u0).set 1 u1).set 2 u2).set 3 u3).set 4 u4).set 5 u5).set 6 u6).set 7 u7).set 8 u8).set 9 u9).set 10 u10).set 11 u11).set 12 u12).frozen 13⟩
end Go.Proofs.YtemdkkphmldgjaaGreatDoor
namespace Go.Proofs.YtemdkkphmldgjaaGreatDoor.Q
open Go.RowKit NatMath
theorem sub_lt_c (ao bo : Option Addr) (n c m d : Nat) (xs ys : List Int) (w : World) (h : Lst .u32 w ao n c xs) (k : Lst .u32 w bo m d ys) (hlt : val xs < val ys) :
    Calls Tryz.prog 162 #[.slice ao n c, .slice bo m d] w fun e w' => e = .returned (.tuple #[.slice none 0 0, .bool false]) /\ ∃ q, w.drewN q = w' := by
 have hc : cmpI (val xs) (val ys) = -1 := by unfold cmpI; rw [if_pos (by omega)]
 have HC := Lib.hid hc; clear hc
 go_enter Tryz.func162, Tryz.ntmps162
 go_wp2_with fail
 refine (cmp_c _ _ _ _ _ _ xs ys _ h k).mono ?_
 rintro e w' ⟨rfl, q, rfl⟩
 rw [HC.out]
 go_wp2_with fail
 go_ret2
 exact ⟨rfl, q, rfl⟩
theorem sub_ge_c (ao bo : Option Addr) (n c m d : Nat) (xs ys : List Int) (w : World) (h : Lst .u32 w ao n c xs) (k : Lst .u32 w bo m d ys) (hn : n <= 1073741824) (hge : val ys <= val xs) :
    Calls Tryz.prog 162 #[.slice ao n c, .slice bo m d] w fun e w' => ∃ ao' n' c', n' <= n /\ e = .returned (.tuple #[.slice ao' n' c', .bool true]) /\ Own 144 .u32 w.heap.size w' ao' n' c' (limbs (val xs - val ys)) /\ Below w.heap.size w w' := by
 have hc : 0 <= cmpI (val xs) (val ys) := by unfold cmpI; rw [if_neg (by omega)]; split <;> omega
 obtain ⟨g, hg⟩ : ∃ g, Hid (g = cmpI (val xs) (val ys)) := ⟨_, rfl⟩
 rw [<- hg.out] at hc
 go_enter Tryz.func162, Tryz.ntmps162
 go_wp2_with fail
 refine (cmp_c _ _ _ _ _ _ xs ys _ h k).mono ?_
 rintro e w' ⟨rfl, q, rfl⟩
 rw [<- hg.out]
 go_wp2_with fail
 refine (norm_c _ _ _ xs _ (h.drewN q) hn).mono ?_
 rintro e w1 ⟨a1, n1, c1, hn1, rfl, o1, hb1⟩
 go_wp2_with fail
 refine (trim_c _ _ _ ys _ ((k.drewN q).below hb1)).mono ?_
 rintro e w' ⟨rfl, b1, m1, d1, rfl, k1, kh⟩
 have hmle : m1 <= m := by
  have := limbs_val_length k.ok
  rw [k1.len, k.len] at this
  exact this
 have klow : ∀ i, i < m1 -> (pt b1 i).block < w.heap.size := (k.head kh hmle).block
 clear kh
 have hwb : Below w.heap.size w w1 := by have := hb1; simp only [World.heap_drewN] at this; exact (below_drewN (Below.refl _ _) q).trans this
 have o1' : Own 144 .u32 w.heap.size w1 a1 n1 c1 (limbs (val xs)) := o1
 obtain ⟨L, HL⟩ : ∃ L, Hid (L = limbs (val xs)) := ⟨_, rfl⟩
 obtain ⟨M, HM⟩ : ∃ M, Hid (M = limbs (val ys)) := ⟨_, rfl⟩
 rw [<- HL.out] at o1'
 rw [<- HM.out] at k1
 clear o1 hb1
 have hlenL := Lib.hid o1'.len
 have hlenM := Lib.hid k1.len
 have hmn : m1 <= n1 := by
  rw [<- hlenM.out, <- hlenL.out, HM.out, HL.out]
  rcases Nat.lt_or_ge (limbs (val xs)).length (limbs (val ys)).length with hlt | hle
  . have := limbs_lt_of_length hlt
    omega
  . exact hle
 have hle : val M <= val L := by rw [HM.out, HL.out, val_limbs, val_limbs]; exact hge
 have hfin : val L - val M = val xs - val ys := by rw [HM.out, HL.out, val_limbs, val_limbs]
 have HLE := Lib.hid hle
 have HFIN := Lib.hid hfin
 clear hle hfin
 have hcapm := k1.cap
 have hroomm := k1.room
 have hcapn := o1'.lst.cap
 have hroomn := o1'.lst.room
 have hst := SubInv.start M o1'.lst.ok
 have hMok := Lib.hid k1.ok
 go_wp2_with fail
 go_loopw [7, 20] (fun s7 i wr => ∃ (j : Nat) (r : Int) (D : List Int), j <= m1 /\ i = .int .i64 j /\ s7 = .int .u32 r /\ SubInv L M D r j /\ Own 144 .u32 w.heap.size wr a1 n1 c1 D /\ Lst .u32 wr b1 m1 d1 M /\ Below w.heap.size w wr)
   (fun _ i _ => m1 - (intOf i).toNat)
 case atStart => exact ⟨0, 0, L, Nat.zero_le _, rfl, rfl, hst, o1', k1, hwb⟩
 case round =>
  obtain ⟨j, r, D, hj, rfl, rfl, hinv, ho, hk, hb⟩ := hrel
  have hr0 := hinv.r0
  have hr1 := hinv.r1
  by_cases hlt : j < m1
  . have hia := ix ho.lst j (by omega)
    have hib := ix hk j hlt
    obtain ⟨x, HX, hx0, hx1, hcx⟩ := ho.lst.at j (by omega)
    obtain ⟨y, HY, hy0, hy1, hcy⟩ := hk.at j hlt
    have hfz := ho.frozen (i := j) (by omega)
    go_wp2_with fail
    go_region_law ((go_simp; go_at_call 213; refine (sub32_c _ _ _ _ (by omega) (by omega) (by omega) (by omega) (by omega) (by omega)).mono ?_; rintro e w' ⟨rfl, rfl⟩))
    all_goals
      have hwf : (Lit.int .u32 ((x - y - r) % 4294967296)).wf = true := wf_u32 (by omega) (by omega)
      have hbase := ho.base (i := j) (by omega)
      have R1 := Lib.hid (hinv.step hMok.out (by rw [hlenL.out]; omega) HX.out HY.out (b := brw x y r) rfl)
      have R2 := Lib.hid (ho.set (i := j) (by omega) hwf)
      have R3 := Lib.hid (hk.stored klow hbase (.int .u32 ((x - y - r) % 4294967296)))
      have R4 := Lib.hid (hb.setCell hbase (.int .u32 ((x - y - r) % 4294967296)))
      clear hia hib hcx hcy hfz hbase hwf
      go_wp2_with fail
      go_roundw
      case rel => exact ⟨j + 1, brw x y r, _, by omega, by go_num, rfl, R1.out, R2.out, R3.out.drewN 1, R4.out.drew⟩
      case measure => simp [intOf]; omega
  . obtain rfl : j = m1 := by omega
    go_wp2_with fail
    go_loopw [7, 9] (fun s7 i wr => ∃ (j' : Nat) (r : Int) (D : List Int), j <= j' /\ j' <= n1 /\ i = .int .i64 j' /\ s7 = .int .u32 r /\ SubInv L M D r j' /\ Own 144 .u32 w.heap.size wr a1 n1 c1 D /\ Below w.heap.size w wr)
      (fun _ i _ => n1 - (intOf i).toNat)
    case atStart => exact ⟨j, r, D, Nat.le_refl _, hmn, rfl, rfl, hinv, ho, hb⟩
    case round =>
     obtain ⟨j', r', D', hjl, hjn, rfl, rfl, hinv', ho', hb'⟩ := hrel
     have hr0' := hinv'.r0
     have hr1' := hinv'.r1
     by_cases hz : r' = 0
     . subst hz
       have hv := hinv'.done (by rw [hlenM.out]; exact hjl)
       have HV := Lib.hid hv; clear hv
       go_wp2_with fail
       refine (trim_c _ _ _ D' _ ho'.lst).mono ?_
       rintro e w' ⟨rfl, a2, n2, c2, rfl, k2, kh2⟩
       go_wp2_with fail
       go_ret2
       have hlen2 := k2.len
       have hle2 := limbs_val_length ho'.lst.ok
       rw [hlen2, ho'.len] at hle2
       refine ⟨a2, n2, c2, by omega, rfl, ?_, hb'⟩
       rw [<- HFIN.out, <- HV.out, limbs_take ho'.lst.ok, hlen2]
       exact ho'.head kh2 hle2
     . have hlt' : j' < n1 := by
        have := hinv'.more (by rw [hlenM.out]; exact hjl) HLE.out (by rw [hlenL.out]; exact hjn) hz
        rwa [hlenL.out] at this
       have hzb : (r' == 0) = false := by simpa using hz
       have hia := ix ho'.lst j' hlt'
       obtain ⟨x, HX, hx0, hx1, hcx⟩ := ho'.lst.at j' hlt'
       have hfz := ho'.frozen hlt'
       have HY : Hid ((0 : Int) = M.getD j' 0) := by
        show (0 : Int) = M.getD j' 0
        rw [List.getD, List.getElem?_eq_none (by rw [hlenM.out]; exact hjl)]; rfl
       have hwf : (Lit.int .u32 ((x - r') % 4294967296)).wf = true := wf_u32 (by omega) (by omega)
       have hbase := ho'.base hlt'
       have r1 := hinv'.step hMok.out (by rw [hlenL.out]; exact hlt') HX.out HY.out (b := brw x 0 r') rfl
       rw [Int.sub_zero] at r1
       have R1 := Lib.hid r1; clear r1
       have R2 := Lib.hid (ho'.set hlt' hwf)
       have R4 := Lib.hid (hb'.setCell hbase (.int .u32 ((x - r') % 4294967296)))
       clear hwf hbase
       go_wp2_with (go_at_call 213; refine (sub32_c _ _ _ _ (by omega) (by omega) (by omega) (by omega) (by omega) (by omega)).mono ?_; rintro e w' ⟨rfl, rfl⟩)
       go_roundw
       case rel => exact ⟨j' + 1, brw x 0 r', _, by omega, by omega, by go_num, rfl, R1.out, R2.out, R4.out⟩
       case measure => simp [intOf]; omega
end Go.Proofs.YtemdkkphmldgjaaGreatDoor.Q
namespace Go.Proofs.YtemdkkphmldgjaaGreatDoor.Q
open Go.RowKit NatMath
theorem Own.full {e : TypeId} {k : IntKind} {B : Nat} {w : World} {g n : Nat} {xs : List Int} (h : Own e k B w (some ⟨g, 0, none⟩) n n xs) : w.heap[g]? = some (.cells (xs.map (Value.int k)).toArray e (0, 0)) := by
 have hl := h.len
 rcases h.1.2 with ⟨hv, _⟩ | ⟨g', cap, cur, hv, hg, hh, hn, hc, hsz, ht⟩
 . simp at hv
 . simp only [Value.slice.injEq, Option.some.injEq, Addr.mk.injEq, and_true, true_and] at hv
   obtain ⟨rfl, rfl⟩ := hv
   rw [hh, <- ht, List.take_of_length_le (by simp; omega)]
theorem Own.ofFull {e : TypeId} {k : IntKind} {B : Nat} {w : World} {g n : Nat} {xs : List Int} (h : w.heap[g]? = some (.cells (xs.map (Value.int k)).toArray e (0, 0))) (hB : B <= g) (hn : xs.length = n) (hm : n <= maxLen) (hw : ∀ x ∈ xs, (Lit.int k x).wf = true) :
    Own e k B w (some ⟨g, 0, none⟩) n n xs :=
 ⟨⟨by simpa using hn, .inr ⟨g, n, (xs.map (Value.int k)).toArray, rfl, hB, h, Nat.le_refl _, hm, by simpa using hn, by rw [List.take_of_length_le (by simp; omega)]⟩⟩, hw⟩
theorem Own.made {e : TypeId} {k : IntKind} {B : Nat} {w : World} {g n : Nat} (hz : (Lit.int k 0).wf = true) (h : w.ownsRow B e 1 (.slice (some ⟨g, 0, none⟩) n n) n (madeCells #[Value.int k 0] n).toList) : Own e k B w (some ⟨g, 0, none⟩) n n (List.replicate n 0) := by
 refine ⟨?_, fun x hx => ?_⟩
 . rw [toList_madeCells_one] at h
   rwa [List.map_replicate]
 . rw [List.eq_of_mem_replicate hx]; exact hz
theorem below_grown_none {B : Nat} {a w w' : World} (h : Below B a w) (hg : w.grownBy w' none) (hB : B <= w.heap.size) : Below B a w' := h.grown hg hB (fun k hk => by cases hk)
theorem add_c (ao bo : Option Addr) (n c m d : Nat) (xs ys : List Int) (w : World) (h : Lst .u32 w ao n c xs) (k : Lst .u32 w bo m d ys) (hn : n <= 1073741824) (hm : m <= 1073741824) :
    Calls Tryz.prog 161 #[.slice ao n c, .slice bo m d] w fun e w' => ∃ ao' n' c', e = .returned (.slice ao' n' c') /\ (n' <= n + 1 \/ n' <= m + 1) /\ Own 144 .u32 w.heap.size w' ao' n' c' (limbs (val xs + val ys)) /\ Below w.heap.size w w' := by
 obtain ⟨i0, hi, hz0, hz1, hz2⟩ := info_parts info60
 have hxl := limbs_val_length h.ok
 have hyl := limbs_val_length k.ok
 rw [h.len] at hxl
 rw [k.len] at hyl
 go_enter Tryz.func161, Tryz.ntmps161
 go_wp2_with fail
 refine (trim_c _ _ _ xs _ h).mono ?_
 rintro e w' ⟨rfl, a1, n1, c1, rfl, h1, -⟩
 go_wp2_with fail
 refine (trim_c _ _ _ ys _ k).mono ?_
 rintro e w' ⟨rfl, b1, m1, d1, rfl, k1, -⟩
 rw [h1.len] at hxl
 rw [k1.len] at hyl
 have hn1 : n1 <= 1073741824 := by omega
 have hm1 : m1 <= 1073741824 := by omega
 rcases Nat.lt_or_ge n1 m1 with hsw | hsw
 case' inl =>
  obtain ⟨qo, rfl⟩ : ∃ x, x = a1 := ⟨_, rfl⟩
  obtain ⟨qn, rfl⟩ : ∃ x, x = n1 := ⟨_, rfl⟩
  obtain ⟨qc, rfl⟩ : ∃ x, x = c1 := ⟨_, rfl⟩
  obtain ⟨po, rfl⟩ : ∃ x, x = b1 := ⟨_, rfl⟩
  obtain ⟨pn, rfl⟩ : ∃ x, x = m1 := ⟨_, rfl⟩
  obtain ⟨pc, rfl⟩ : ∃ x, x = d1 := ⟨_, rfl⟩
  obtain ⟨P, HP⟩ : ∃ P, Hid (P = limbs (val ys)) := ⟨_, rfl⟩
  obtain ⟨Q, HQ⟩ : ∃ Q, Hid (Q = limbs (val xs)) := ⟨_, rfl⟩
  have hP : Lst .u32 w po pn pc P := by rw [HP.out]; exact k1
  have hQ : Lst .u32 w qo qn qc Q := by rw [HQ.out]; exact h1
  have hs : Hid (val P + val Q = val xs + val ys) := by show val P + val Q = _; rw [HP.out, HQ.out, val_limbs, val_limbs, Nat.add_comm]
  have hle : qn <= pn := by omega
  have hfin : ∀ t, t <= pn + 1 -> t <= n + 1 \/ t <= m + 1 := fun t ht => by omega
  have HFIN := Lib.hid hfin
  have hp30 : pn <= 1073741824 := hm1
  clear h1 k1 hfin
 case' inr =>
  obtain ⟨po, rfl⟩ : ∃ x, x = a1 := ⟨_, rfl⟩
  obtain ⟨pn, rfl⟩ : ∃ x, x = n1 := ⟨_, rfl⟩
  obtain ⟨pc, rfl⟩ : ∃ x, x = c1 := ⟨_, rfl⟩
  obtain ⟨qo, rfl⟩ : ∃ x, x = b1 := ⟨_, rfl⟩
  obtain ⟨qn, rfl⟩ : ∃ x, x = m1 := ⟨_, rfl⟩
  obtain ⟨qc, rfl⟩ : ∃ x, x = d1 := ⟨_, rfl⟩
  obtain ⟨P, HP⟩ : ∃ P, Hid (P = limbs (val xs)) := ⟨_, rfl⟩
  obtain ⟨Q, HQ⟩ : ∃ Q, Hid (Q = limbs (val ys)) := ⟨_, rfl⟩
  have hP : Lst .u32 w po pn pc P := by rw [HP.out]; exact h1
  have hQ : Lst .u32 w qo qn qc Q := by rw [HQ.out]; exact k1
  have hs : Hid (val P + val Q = val xs + val ys) := by show val P + val Q = _; rw [HP.out, HQ.out, val_limbs, val_limbs]
  have hle : qn <= pn := by omega
  have hfin : ∀ t, t <= pn + 1 -> t <= n + 1 \/ t <= m + 1 := fun t ht => by omega
  have HFIN := Lib.hid hfin
  have hp30 : pn <= 1073741824 := hn1
  clear h1 k1 hfin
 all_goals
   go_wp2_with (at_make; refine wpList_make_full _ rfl _ _ 30 rfl w.heap.size 144 i0 (.int .u32 0) 1 Tryz.underlying30 hi hz0 hz1 _ _ _ _ (pn + 1) rfl rfl (by omega) (by omega) ?b2 ?b3 (Nat.le_refl _) ?_)
   case b2 => rw [hz2]; omega
   case b3 => unfold maxLen; omega
   intro w1 hown hgr
   have o1 : Own 144 .u32 w.heap.size w1 (some ⟨w.heap.size, 0, none⟩) (pn + 1) (pn + 1) (List.replicate (pn + 1) 0) := Own.made (wf_u32 (by omega) (by omega)) hown
   have b1 : Below w.heap.size w w1 := below_grown_none (Below.refl _ _) hgr (Nat.le_refl _)
   have hP1 := hP.below b1
   have hQ1 := hQ.below b1
   have hlow : ∀ i, i < qn -> (pt qo i).block < w.heap.size := hQ.block
   have hblk := Lib.hid o1.full
   have hcs : Hid ((P.map (Value.int .u32)).length = Nat.min pn (pn + 1)) := by
    show (P.map (Value.int .u32)).length = Nat.min pn (pn + 1)
    rw [List.length_map, hP.len]; exact (Nat.min_eq_left (by omega)).symm
   have hpos : Hid (0 < (P.map (Value.int .u32)).length -> some (⟨w.heap.size, 0, none⟩ : Addr) = some ⟨w.heap.size, 0, none⟩ /\ ∃ ad, po = some ad /\ ∀ j v, (P.map (Value.int .u32))[j]? = some v -> w1.cell? (ad.add j) = some v) := by
    intro h0
    rw [List.length_map, hP.len] at h0
    obtain ⟨ad, rfl⟩ := hP.isSome h0
    exact ⟨rfl, ad, rfl, hP1.cells⟩
   have hfit : Hid (0 + (P.map (Value.int .u32)).length <= ((List.replicate (pn + 1) (0 : Int)).map (Value.int .u32)).length) := by
    show 0 + (P.map (Value.int .u32)).length <= _
    rw [List.length_map, hP.len]; simp
   have HPL := Lib.hid hP.len
   have HQ0 := Lib.hid hQ
   have HQL := Lib.hid hQ.len
   have hPok := Lib.hid hP.ok
   have hQok := Lib.hid hQ.ok
   have hPwf := Lib.hid hP.wf
   have hPr := hP.room
   have hQr := hQ.room
   have hQc := hQ.cap
   clear hown hgr o1 hP1 hP hQ
   go_wp2_with ((with_reducible refine wpList_copy_splice rfl (.tmp 24) (.tmp 25) 30 30 rfl 144 Tryz.underlying30 size60 _ _ _ _ _ _ rfl rfl w.heap.size 0 ((List.replicate (pn + 1) (0 : Int)).map (Value.int .u32)) 144 hblk.out (P.map (Value.int .u32)) hcs.out hpos.out hfit.out (ints_oneCell _ _) w.heap.size w b1 (Nat.le_refl _) ?_))
   intro w2 hblk2 b2
   have e2 : splice (List.replicate (pn + 1) (Value.int .u32 0)) 0 (P.map (Value.int .u32)) = (P ++ [0]).map (Value.int .u32) := by
    unfold splice
    have hPl := HPL.out
    rw [List.take_zero, List.nil_append, List.length_map, hPl, List.drop_replicate, List.map_append]
    congr 1
    rw [show pn + 1 - (0 + pn) = 1 by omega]; rfl
   have o2 : Own 144 .u32 w.heap.size w2 (some ⟨w.heap.size, 0, none⟩) (pn + 1) (pn + 1) (P ++ [0]) := by
    have hb := hblk2.out
    rw [e2] at hb
    refine Own.ofFull hb (Nat.le_refl _) (by simp [HPL.out]) (by unfold maxLen; omega) (fun x hx => ?_)
    rcases List.mem_append.1 hx with hx | hx
    . exact hPwf.out x hx
    . simp at hx; subst hx; exact wf_u32 (by omega) (by omega)
   have hQ2 := HQ0.out.below b2
   have hst := AddInv.start Q hPok.out
   clear hblk hcs hpos hfit hblk2 e2 b1
   go_wp2_with fail
   go_loopw [6, 29] (fun s6 i wr => ∃ (j : Nat) (r : Int) (D : List Int), j <= qn /\ i = .int .i64 j /\ s6 = .int .u32 r /\ AddInv P Q D r j /\ Own 144 .u32 w.heap.size wr (some ⟨w.heap.size, 0, none⟩) (pn + 1) (pn + 1) D /\ Lst .u32 wr qo qn qc Q /\ Below w.heap.size w wr)
     (fun _ i _ => qn - (intOf i).toNat)
   case atStart => exact ⟨0, 0, P ++ [0], Nat.zero_le _, rfl, rfl, hst, o2, hQ2, b2⟩
   case round =>
    obtain ⟨j, r, D, hj, rfl, rfl, hinv, ho, hk, hb⟩ := hrel
    have hr0 := hinv.c0
    have hr1 := hinv.c1
    by_cases hlt : j < qn
    . have hia := ix ho.lst j (by omega)
      have hib := ix hk j hlt
      obtain ⟨x, HX, hx0, hx1, hcx⟩ := ho.lst.at j (by omega)
      obtain ⟨y, HY, hy0, hy1, hcy⟩ := hk.at j hlt
      have hfz := ho.frozen (i := j) (by omega)
      have hwf : (Lit.int .u32 ((x + y + r) % 4294967296)).wf = true := wf_u32 (by omega) (by omega)
      have hbase := ho.base (i := j) (by omega)
      have R1 := Lib.hid (hinv.step hQok.out (by rw [HPL.out]; omega) HX.out HY.out)
      have R2 := Lib.hid (ho.set (i := j) (by omega) hwf)
      have R3 := Lib.hid (hk.stored hlow hbase (.int .u32 ((x + y + r) % 4294967296)))
      have R4 := Lib.hid (hb.setCell hbase (.int .u32 ((x + y + r) % 4294967296)))
      rw [pt_own] at hia hcx hfz R2 R3 R4
      clear hwf hbase
      go_wp2_with fail
      go_region_law ((go_simp; go_at_call 212; refine (add32_c _ _ _ _ (by omega) (by omega) (by omega) (by omega) (by omega) (by omega)).mono ?_; rintro e w' ⟨rfl, rfl⟩))
      all_goals
        go_wp2_with fail
        go_roundw
        case rel => exact ⟨j + 1, (x + y + r) / 4294967296, _, by omega, by go_num, rfl, R1.out, R2.out, R3.out.drewN 1, R4.out.drew⟩
        case measure => simp [intOf]; omega
    . obtain rfl : j = qn := by omega
      have HKQ := Lib.hid hk
      clear hk
      go_wp2_with fail
      go_loopw [6, 8] (fun s6 i wr => ∃ (j' : Nat) (r : Int) (D : List Int), j <= j' /\ j' <= pn + 1 /\ i = .int .i64 j' /\ s6 = .int .u32 r /\ AddInv P Q D r j' /\ Own 144 .u32 w.heap.size wr (some ⟨w.heap.size, 0, none⟩) (pn + 1) (pn + 1) D /\ Below w.heap.size w wr)
        (fun _ i _ => pn + 1 - (intOf i).toNat)
      case atStart => exact ⟨j, r, D, Nat.le_refl _, by omega, rfl, rfl, hinv, ho, hb⟩
      case round =>
       obtain ⟨j', r', D', hjl, hjn, rfl, rfl, hinv', ho', hb'⟩ := hrel
       have hr0' := hinv'.c0
       have hr1' := hinv'.c1
       by_cases hz : r' = 0
       . subst hz
         have hv := hinv'.done (by rw [HQL.out]; exact hjl)
         have HV := Lib.hid hv; clear hv
         go_wp2_with fail
         refine (trim_c _ _ _ D' _ ho'.lst).mono ?_
         rintro e w' ⟨rfl, a2, n2, c2, rfl, k2, kh2⟩
         go_wp2_with fail
         go_ret
         have hlen2 := k2.len
         have hle2 := limbs_val_length ho'.lst.ok
         rw [hlen2, ho'.len] at hle2
         refine ⟨a2, n2, c2, rfl, HFIN.out n2 hle2, ?_, hb'⟩
         rw [<- hs.out, <- HV.out, limbs_take ho'.lst.ok, hlen2]
         exact ho'.head kh2 hle2
       . have hlt' : j' < pn + 1 := by
          have := hinv'.more hPok.out hQok.out (by rw [HPL.out, HQL.out]; exact hle) (by rw [HPL.out]; exact hjn) hz
          rwa [HPL.out] at this
         have hzb : (r' == 0) = false := by simpa using hz
         have hia := ix ho'.lst j' hlt'
         obtain ⟨x, HX, hx0, hx1, hcx⟩ := ho'.lst.at j' hlt'
         have hfz := ho'.frozen hlt'
         have HY : Hid ((0 : Int) = Q.getD j' 0) := by
          show (0 : Int) = Q.getD j' 0
          rw [List.getD, List.getElem?_eq_none (by rw [HQL.out]; exact hjl)]; rfl
         have r1 := hinv'.step hQok.out (by rw [HPL.out]; exact hlt') HX.out HY.out
         rw [Int.add_zero] at r1
         have hwf : (Lit.int .u32 ((x + r') % 4294967296)).wf = true := wf_u32 (by omega) (by omega)
         have hbase := ho'.base hlt'
         have R1 := Lib.hid r1
         have R2 := Lib.hid (ho'.set hlt' hwf)
         have R4 := Lib.hid (hb'.setCell hbase (.int .u32 ((x + r') % 4294967296)))
         rw [pt_own] at hia hcx hfz R2 R4
         clear hwf hbase r1
         go_wp2_with (go_at_call 212; refine (add32_c _ _ _ _ (by omega) (by omega) (by omega) (by omega) (by omega) (by omega)).mono ?_; rintro e w' ⟨rfl, rfl⟩)
         go_roundw
         case rel => exact ⟨j' + 1, (x + r') / 4294967296, _, by omega, by omega, by go_num, rfl, R1.out, R2.out, R4.out⟩
         case measure => simp [intOf]; omega
end Go.Proofs.YtemdkkphmldgjaaGreatDoor.Q
