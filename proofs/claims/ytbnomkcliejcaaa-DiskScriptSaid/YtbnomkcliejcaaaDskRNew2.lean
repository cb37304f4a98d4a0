/-
  The reference's New: one more row of bytes, safe and last.
-/
import Derived.Test.YtbnomkcliejcaaaDskRNew
import Derived.Test.YtbnomkcliejcaaaDskLaw1
namespace Go.Proofs.Ytbnomkcliejcaaa
open Go.RowKit Ds
attribute [local go_sem] Oper.semAt_some
set_option linter.unusedSimpArgs false

theorem ne_row {a b : Option Nat} (h : ∀ g, a = some g → b ≠ some g) : b = none ∨ b ≠ a := by
  cases b with
  | none => exact Or.inl rfl
  | some g => exact Or.inr (fun e => h g e.symm rfl)
set_option maxHeartbeats 1600000 in
theorem RB.addSafe {w0 W : World} {so lo zo : Option Addr} {i1 i2 i3 sc lc tc : Nat} (h : RB w0 W so lo zo i1 i2 i3 sc lc tc) (hi : i1 ≤ 4096) : ∃ W1 W2 W3 V so' sc',
    (Instr.makeSlice 27 (.int .i64 64) (.int .i64 64)).run Try.prog W = .ok (.slice (some ⟨W.heap.size, 0, none⟩) 64 64) W1 ∧
    (Instr.buildSlice 52 1 #[(0, .slice (some ⟨W.heap.size, 0, none⟩) 64 64)]).run Try.prog W1 = .ok (.slice (some ⟨W1.heap.size, 0, none⟩) 1 1) W2 ∧
    (Builtin.append_ #[52, 52] 52 #[.slice so i1 sc, .slice (some ⟨W1.heap.size, 0, none⟩) 1 1]).run Try.prog W2 = .ok (.slice so' (i1 + 1) sc') W3 ∧
    (Instr.storeAt 52 (.pointer (some ⟨w0.heap.size, 0, none⟩)) (.slice so' (i1 + 1) sc')).run Try.prog W3 = .ok () V ∧
    W1.cell? ⟨w0.heap.size, 0, none⟩ = some (.slice so i1 sc) ∧ W2.cell? ⟨w0.heap.size, 0, none⟩ = some (.slice so i1 sc) ∧ W3.cell? ⟨w0.heap.size, 0, none⟩ = some (.slice so i1 sc) ∧
    RB w0 V so' lo zo (i1 + 1) i2 i3 sc' lc tc := by
  obtain ⟨W1, e1⟩ : ∃ X, W.alloc (.cells (madeCells #[.int .u8 0] 64) 5) = X := ⟨_, rfl⟩
  have b1 : Below W.heap.size W W1 := by rw [← e1]; exact (Below.refl _ _).alloc (Nat.le_refl _) _
  have z1 : W1.heap.size = W.heap.size + 1 := by rw [← e1]; simp
  have r1 := make64 W
  rw [e1] at r1
  obtain ⟨v0, hv0⟩ : ∃ v, Value.slice (some ⟨W.heap.size, 0, none⟩) 64 64 = v := ⟨_, rfl⟩
  have hby : By W1 v0 zeroS := by
    have hO := made64 W
    rw [e1] at hO
    refine ⟨⟨W.heap.size, 0, none⟩, 64, hv0.symm, hO.lst, madeCells #[.int .u8 0] 64, (0, 0), ?_⟩
    rw [← e1]
    exact heap_alloc_last W _
  obtain ⟨us, hus, huv⟩ := h.safe
  obtain ⟨ul, hul, hlv⟩ := h.last
  have A1 := h.box.kept b1
  have us1 := ownsRow_keep hus b1
  have ul1 := ownsRow_keep hul b1
  have d1 := ownsRow_keep h.dirt b1
  have hz0 := h.low.size
  obtain ⟨so', sc', W3, r3, O3, G3, ob⟩ := app_one (T := 52) Try.underlying52 infoRow rfl (by omega) us1 hi (by omega) v0 (by rw [← hv0]; rfl)
  obtain ⟨W2, e2⟩ : ∃ X, W1.alloc (.cells #[v0] 27) = X := ⟨_, rfl⟩
  have b2 : Below W1.heap.size W1 W2 := by rw [← e2]; exact (Below.refl _ _).alloc (Nat.le_refl _) _
  have z2 : W2.heap.size = W1.heap.size + 1 := by rw [← e2]; simp
  have r2 : (Instr.buildSlice 52 1 #[(0, v0)]).run Try.prog W1 = .ok (.slice (some ⟨W1.heap.size, 0, none⟩) 1 1) W2 := by rw [← e2, ← hv0]; go_simp
  rw [e2] at r3 G3
  have A2 := A1.kept b2
  have us2 := ownsRow_keep us1 b2
  have ul2 := ownsRow_keep ul1 b2
  have d2 := ownsRow_keep d1 b2
  have A3 := A2.row us2 (by decide) G3
  have ul3 := World.ownsRow.kept ul2 G3 (ne_row h.ne)
  have d3 := World.ownsRow.kept d2 G3 (ne_row (rows_ne us2 d2 (by decide)))
  have GV := grown_setG W3 w0.heap.size 0 (.slice so' (i1 + 1) sc')
  have O4 := row_set (i := 0) O3 A3 (by decide) (.slice so' (i1 + 1) sc')
  have ul4 := row_set (i := 0) ul3 A3 (by decide) (.slice so' (i1 + 1) sc')
  have d4 := row_set (i := 0) d3 A3 (by decide) (.slice so' (i1 + 1) sc')
  have step : ∀ {X : World} {v : Value} {xs : List Int}, X = W1 → By X v xs → By (W3.setCell ⟨w0.heap.size, 0, none⟩ (.slice so' (i1 + 1) sc')) v xs := fun e hb => by
    subst e
    exact ((hb.below b2).kept G3 (fun g hg => row_no8' us2 (by decide) g hg)).kept GV (box_no8 A3)
  have hold : ∀ i, i < i2 → ∃ v, ul[i]? = some v ∧ By (W3.setCell ⟨w0.heap.size, 0, none⟩ (.slice so' (i1 + 1) sc')) v zeroS := fun i hi => by
    obtain ⟨v, hv, hb⟩ := hlv i hi
    exact ⟨v, hv, step rfl (hb.below b1)⟩
  have hul : us.length = i1 := by have := hus.1; omega
  have hnew : ∀ i, i < i1 + 1 → ∃ v, (us ++ [v0])[i]? = some v ∧ By (W3.setCell ⟨w0.heap.size, 0, none⟩ (.slice so' (i1 + 1) sc')) v zeroS := fun i hi => by
    by_cases hx : i < i1
    · obtain ⟨v, hv, hb⟩ := huv i hx
      exact ⟨v, by rw [List.getElem?_append_left (by omega)]; exact hv, step rfl (hb.below b1)⟩
    · obtain rfl : i = i1 := by omega
      exact ⟨v0, by rw [List.getElem?_append_right (by omega), hul]; simp, step rfl hby⟩
  have hne : ∀ g, (Value.slice so' (i1 + 1) sc').ownBlock = some g → (Value.slice lo i2 lc).ownBlock ≠ some g := fun g hg => by
    rcases ob with ob | ob
    · exact h.ne g (ob.symm.trans hg)
    · intro hg2
      rw [ob] at hg
      injection hg with hg
      have := (World.ownsRow.lt ul2 g hg2).2
      omega
  have hB2 : Below w0.heap.size w0 W2 := (h.low.trans (b1.mono hz0)).trans (b2.mono (by omega))
  have hB3 : Below w0.heap.size w0 W3 := hB2.grown G3 hB2.size (fun k hk => (World.ownsRow.lt us2 k hk).1)
  refine ⟨W1, W2, W3, _, so', sc', r1, by rw [hv0]; exact r2, r3, ?_, A1.cell 0, A2.cell 0, A3.cell 0, ⟨A3.set 0 _, ⟨us ++ [v0], O4, hnew⟩, ⟨ul, ul4, hold⟩, d4, hne, below_grown hB3 GV hB3.size (Nat.le_refl _)⟩⟩
  have c3 : W3.cell? ⟨w0.heap.size, 0, none⟩ = some (.slice so i1 sc) := A3.cell 0
  have f3 := A3.frozen 0
  go_simp
set_option maxHeartbeats 1600000 in
theorem RB.addLast {w0 W : World} {so lo zo : Option Addr} {i1 i2 i3 sc lc tc : Nat} (h : RB w0 W so lo zo i1 i2 i3 sc lc tc) (hi : i2 ≤ 4096) : ∃ W1 W2 W3 V so' sc',
    (Instr.makeSlice 27 (.int .i64 64) (.int .i64 64)).run Try.prog W = .ok (.slice (some ⟨W.heap.size, 0, none⟩) 64 64) W1 ∧
    (Instr.buildSlice 52 1 #[(0, .slice (some ⟨W.heap.size, 0, none⟩) 64 64)]).run Try.prog W1 = .ok (.slice (some ⟨W1.heap.size, 0, none⟩) 1 1) W2 ∧
    (Builtin.append_ #[52, 52] 52 #[.slice lo i2 lc, .slice (some ⟨W1.heap.size, 0, none⟩) 1 1]).run Try.prog W2 = .ok (.slice so' (i2 + 1) sc') W3 ∧
    (Instr.storeAt 52 (.pointer (some ⟨w0.heap.size, 1, none⟩)) (.slice so' (i2 + 1) sc')).run Try.prog W3 = .ok () V ∧
    W1.cell? ⟨w0.heap.size, 1, none⟩ = some (.slice lo i2 lc) ∧ W2.cell? ⟨w0.heap.size, 1, none⟩ = some (.slice lo i2 lc) ∧ W3.cell? ⟨w0.heap.size, 1, none⟩ = some (.slice lo i2 lc) ∧
    RB w0 V so so' zo i1 (i2 + 1) i3 sc sc' tc := by
  obtain ⟨W1, e1⟩ : ∃ X, W.alloc (.cells (madeCells #[.int .u8 0] 64) 5) = X := ⟨_, rfl⟩
  have b1 : Below W.heap.size W W1 := by rw [← e1]; exact (Below.refl _ _).alloc (Nat.le_refl _) _
  have z1 : W1.heap.size = W.heap.size + 1 := by rw [← e1]; simp
  have r1 := make64 W
  rw [e1] at r1
  obtain ⟨v0, hv0⟩ : ∃ v, Value.slice (some ⟨W.heap.size, 0, none⟩) 64 64 = v := ⟨_, rfl⟩
  have hby : By W1 v0 zeroS := by
    have hO := made64 W
    rw [e1] at hO
    refine ⟨⟨W.heap.size, 0, none⟩, 64, hv0.symm, hO.lst, madeCells #[.int .u8 0] 64, (0, 0), ?_⟩
    rw [← e1]
    exact heap_alloc_last W _
  obtain ⟨us, hus, huv⟩ := h.last
  obtain ⟨ul, hul, hlv⟩ := h.safe
  have A1 := h.box.kept b1
  have us1 := ownsRow_keep hus b1
  have ul1 := ownsRow_keep hul b1
  have d1 := ownsRow_keep h.dirt b1
  have hz0 := h.low.size
  obtain ⟨so', sc', W3, r3, O3, G3, ob⟩ := app_one (T := 52) Try.underlying52 infoRow rfl (by omega) us1 hi (by omega) v0 (by rw [← hv0]; rfl)
  obtain ⟨W2, e2⟩ : ∃ X, W1.alloc (.cells #[v0] 27) = X := ⟨_, rfl⟩
  have b2 : Below W1.heap.size W1 W2 := by rw [← e2]; exact (Below.refl _ _).alloc (Nat.le_refl _) _
  have z2 : W2.heap.size = W1.heap.size + 1 := by rw [← e2]; simp
  have r2 : (Instr.buildSlice 52 1 #[(0, v0)]).run Try.prog W1 = .ok (.slice (some ⟨W1.heap.size, 0, none⟩) 1 1) W2 := by rw [← e2, ← hv0]; go_simp
  rw [e2] at r3 G3
  have A2 := A1.kept b2
  have us2 := ownsRow_keep us1 b2
  have ul2 := ownsRow_keep ul1 b2
  have d2 := ownsRow_keep d1 b2
  have A3 := A2.row us2 (by decide) G3
  have ul3 := World.ownsRow.kept ul2 G3 (ne_row (fun g x y => h.ne g y x))
  have d3 := World.ownsRow.kept d2 G3 (ne_row (rows_ne us2 d2 (by decide)))
  have GV := grown_setG W3 w0.heap.size 1 (.slice so' (i2 + 1) sc')
  have O4 := row_set (i := 1) O3 A3 (by decide) (.slice so' (i2 + 1) sc')
  have ul4 := row_set (i := 1) ul3 A3 (by decide) (.slice so' (i2 + 1) sc')
  have d4 := row_set (i := 1) d3 A3 (by decide) (.slice so' (i2 + 1) sc')
  have step : ∀ {X : World} {v : Value} {xs : List Int}, X = W1 → By X v xs → By (W3.setCell ⟨w0.heap.size, 1, none⟩ (.slice so' (i2 + 1) sc')) v xs := fun e hb => by
    subst e
    exact ((hb.below b2).kept G3 (fun g hg => row_no8' us2 (by decide) g hg)).kept GV (box_no8 A3)
  have hold : ∀ i, i < i1 → ∃ v, ul[i]? = some v ∧ By (W3.setCell ⟨w0.heap.size, 1, none⟩ (.slice so' (i2 + 1) sc')) v zeroS := fun i hi => by
    obtain ⟨v, hv, hb⟩ := hlv i hi
    exact ⟨v, hv, step rfl (hb.below b1)⟩
  have hul : us.length = i2 := by have := hus.1; omega
  have hnew : ∀ i, i < i2 + 1 → ∃ v, (us ++ [v0])[i]? = some v ∧ By (W3.setCell ⟨w0.heap.size, 1, none⟩ (.slice so' (i2 + 1) sc')) v zeroS := fun i hi => by
    by_cases hx : i < i2
    · obtain ⟨v, hv, hb⟩ := huv i hx
      exact ⟨v, by rw [List.getElem?_append_left (by omega)]; exact hv, step rfl (hb.below b1)⟩
    · obtain rfl : i = i2 := by omega
      exact ⟨v0, by rw [List.getElem?_append_right (by omega), hul]; simp, step rfl hby⟩
  have hne : ∀ g, (Value.slice so' (i2 + 1) sc').ownBlock = some g → (Value.slice so i1 sc).ownBlock ≠ some g := fun g hg => by
    rcases ob with ob | ob
    · exact (fun g x y => h.ne g y x) g (ob.symm.trans hg)
    · intro hg2
      rw [ob] at hg
      injection hg with hg
      have := (World.ownsRow.lt ul2 g hg2).2
      omega
  have hB2 : Below w0.heap.size w0 W2 := (h.low.trans (b1.mono hz0)).trans (b2.mono (by omega))
  have hB3 : Below w0.heap.size w0 W3 := hB2.grown G3 hB2.size (fun k hk => (World.ownsRow.lt us2 k hk).1)
  refine ⟨W1, W2, W3, _, so', sc', r1, by rw [hv0]; exact r2, r3, ?_, A1.cell 1, A2.cell 1, A3.cell 1, ⟨A3.set 1 _, ⟨ul, ul4, hold⟩, ⟨us ++ [v0], O4, hnew⟩, d4, (fun g x y => hne g y x), below_grown hB3 GV hB3.size (Nat.le_refl _)⟩⟩
  have c3 : W3.cell? ⟨w0.heap.size, 1, none⟩ = some (.slice lo i2 lc) := A3.cell 1
  have f3 := A3.frozen 1
  go_simp
end Go.Proofs.Ytbnomkcliejcaaa
