/-
  Rows and boxes beside each other; the reference's New: one more row of bytes.
-/
import Derived.Test.YtbnomkcliejcaaaDskRSy
namespace Go.Proofs.Ytbnomkcliejcaaa
open Go.RowKit Ds
attribute [local go_sem] Oper.semAt_some
set_option linter.unusedSimpArgs false

theorem ownsRow_keep {B s n : Nat} {E : TypeId} {w w' : World} {v : Value} {us : List Value} (h : w.ownsRow B E s v n us) (hb : Below w.heap.size w w') : w'.ownsRow B E s v n us :=
  World.ownsRow.kept (row := none) h ⟨hb.os, hb.tape, hb.output, hb.size, fun j hj _ => hb.block j hj⟩ (by cases v.ownBlock <;> simp)
/-- A row's own block is no box of another type. -/
theorem row_ne_arr {w : World} {B s n g : Nat} {E t : TypeId} {v : Value} {us cs : List Value} (h : w.ownsRow B E s v n us) (hA : Arr w g t cs) (hE : E ≠ t) : v.ownBlock ≠ some g := by
  rcases h.2 with ⟨hv, _⟩ | ⟨g', cap, cur, hv, _, hh, _⟩
  · rw [hv]; intro e; cases e
  · rw [hv]
    intro e
    have e' : some g' = some g := e
    injection e' with e'
    subst e'
    rw [show w.heap[g']? = _ from hA] at hh
    injection hh with hh
    injection hh with _ h2 _
    exact hE h2.symm
theorem Arr.row {w w' : World} {B s n g : Nat} {E t : TypeId} {v : Value} {us cs : List Value} (hA : Arr w g t cs) (h : w.ownsRow B E s v n us) (hE : E ≠ t) (hg : w.grownBy w' v.ownBlock) : Arr w' g t cs :=
  (hg.block g hA.lt (fun e => row_ne_arr h hA hE e.symm)).trans hA
theorem row_set {w : World} {B s n g i : Nat} {E t : TypeId} {v : Value} {us cs : List Value} (h : w.ownsRow B E s v n us) (hA : Arr w g t cs) (hE : E ≠ t) (u : Value) : (w.setCell ⟨g, i, none⟩ u).ownsRow B E s v n us :=
  World.ownsRow.kept (row := some g) h (grown_setG w g i u) (Or.inr (row_ne_arr h hA hE))

theorem infoRow : (Try.prog.info? 27).map (fun i => (i.zero, i.size, i.bytes)) = some (some (.slice none 0 0), 1, 24) := by kernel_rfl
theorem infoT : (Try.prog.info? 4).map (fun i => (i.zero, i.size, i.bytes)) = some (some (.bool false), 1, 1) := by kernel_rfl
theorem rows_ne {w : World} {B B' s s' n n' : Nat} {E E' : TypeId} {v v' : Value} {us us' : List Value} (h : w.ownsRow B E s v n us) (h' : w.ownsRow B' E' s' v' n' us') (hE : E ≠ E') : ∀ g, v.ownBlock = some g → v'.ownBlock ≠ some g := by
  intro g hg hg'
  rcases h.2 with ⟨rfl, _⟩ | ⟨a, cap, cur, rfl, _, hh, _⟩
  · cases hg
  · rcases h'.2 with ⟨rfl, _⟩ | ⟨a', cap', cur', rfl, _, hh', _⟩
    · cases hg'
    · have e1 : some a = some g := hg
      have e2 : some a' = some g := hg'
      injection e1 with e1
      injection e2 with e2
      subst e1; subst e2
      rw [hh] at hh'
      injection hh' with hh'
      injection hh' with _ e _
      exact hE e
theorem row_no8' {w : World} {B s n : Nat} {E : TypeId} {v : Value} {us : List Value} (h : w.ownsRow B E s v n us) (hE : E ≠ 5) : ∀ g, v.ownBlock = some g → ∀ cs fr, w.heap[g]? ≠ some (.cells cs 5 fr) := by
  intro g hg cs fr x
  rcases h.2 with ⟨rfl, _⟩ | ⟨a, cap, cur, rfl, _, hh, _⟩
  · cases hg
  · have e1 : some a = some g := hg
    injection e1 with e1
    subst e1
    rw [hh] at x
    injection x with x
    injection x with _ e _
    exact hE e
/-- The reference's disk under way, since the world w0. -/
structure RB (w0 wr : World) (so lo zo : Option Addr) (i1 i2 i3 sc lc tc : Nat) : Prop where
  box : Arr wr w0.heap.size 54 [.slice so i1 sc, .slice lo i2 lc, .slice zo i3 tc, .bool false, .int .i64 0, .bool false]
  safe : ∃ us, wr.ownsRow w0.heap.size 27 1 (.slice so i1 sc) i1 us ∧ ∀ i, i < i1 → ∃ v, us[i]? = some v ∧ By wr v zeroS
  last : ∃ us, wr.ownsRow w0.heap.size 27 1 (.slice lo i2 lc) i2 us ∧ ∀ i, i < i2 → ∃ v, us[i]? = some v ∧ By wr v zeroS
  dirt : wr.ownsRow w0.heap.size 4 1 (.slice zo i3 tc) i3 (List.replicate i3 (.bool false))
  ne : ∀ g, (Value.slice so i1 sc).ownBlock = some g → (Value.slice lo i2 lc).ownBlock ≠ some g
  low : Below w0.heap.size w0 wr
theorem RB.drew {w0 wr : World} {so lo zo : Option Addr} {i1 i2 i3 sc lc tc : Nat} (h : RB w0 wr so lo zo i1 i2 i3 sc lc tc) : RB w0 wr.drew so lo zo i1 i2 i3 sc lc tc := by
  have b := (Below.refl wr.heap.size wr).drew
  obtain ⟨us, h1, h2⟩ := h.safe
  obtain ⟨ul, h3, h4⟩ := h.last
  exact ⟨h.box, ⟨us, h1, fun i hi => by obtain ⟨v, hv, hb⟩ := h2 i hi; exact ⟨v, hv, hb.below b⟩⟩, ⟨ul, h3, fun i hi => by obtain ⟨v, hv, hb⟩ := h4 i hi; exact ⟨v, hv, hb.below b⟩⟩, h.dirt, h.ne, h.low.drew⟩
/-- One more element is appended to a row, out of a block that has just been made. -/
theorem app_one {W : World} {B i c : Nat} {so : Option Addr} {us : List Value} {T E : TypeId} {z : Value} {bytes : Nat} (hT : Try.prog.underlying T = some (.slice E)) (hinfo : (Try.prog.info? E).map (fun i => (i.zero, i.size, i.bytes)) = some (some z, 1, bytes)) (hz : z.cells.size = 1) (hby : bytes ≤ 24) (hO : W.ownsRow B E 1 (.slice so i c) i us) (hi : i ≤ 4096) (hB : B ≤ W.heap.size) (v : Value) (h1 : v.oneCell' = true) :
    ∃ so' c' W3, (Builtin.append_ #[T, T] T #[.slice so i c, .slice (some ⟨W.heap.size, 0, none⟩) 1 1]).run Try.prog (W.alloc (.cells #[v] E)) = .ok (.slice so' (i + 1) c') W3 ∧ W3.ownsRow B E 1 (.slice so' (i + 1) c') (i + 1) (us ++ [v]) ∧ (W.alloc (.cells #[v] E)).grownBy W3 (Value.slice so i c).ownBlock ∧
      ((Value.slice so' (i + 1) c').ownBlock = (Value.slice so i c).ownBlock ∨ (Value.slice so' (i + 1) c').ownBlock = some (W.heap.size + 1)) := by
  obtain ⟨i0, hi0, hz0, hz1, hz2⟩ := info_parts hinfo
  have b1 : Below W.heap.size W (W.alloc (.cells #[v] E)) := (Below.refl _ _).alloc (Nat.le_refl _) _
  have hO1 := ownsRow_keep hO b1
  have hX : Arr (W.alloc (.cells #[v] E)) W.heap.size E [v] := Arr.new W E [v]
  have hb : (i + 1) * bytes ≤ 4097 * 24 := Nat.mul_le_mul (by omega) hby
  obtain ⟨v', W3, hr, ho, hg, _, hob⟩ := run_append_own_at (P := Try.prog) (W.alloc (.cells #[v] E)) B T T E i0 z 1 bytes hT hi0 hz0 hz1 hz2 hz (by omega) _ i us hO1 ⟨W.heap.size, 0, none⟩ 1 1 [v] rfl (fun j u hj => by
    have e := pt_own W.heap.size j
    simp only [pt, Option.getD_some] at e
    rw [e, hX.cell]
    exact hj) (fun u hu => by rw [List.mem_singleton.1 hu]; exact h1) (by unfold maxLen; omega) (by omega) (by simp; omega)
  obtain ⟨so', c', rfl⟩ : ∃ so' c', v' = .slice so' (i + 1) c' := by
    rcases ho.2 with ⟨_, h0⟩ | ⟨g, cap, _, hv, _⟩
    · omega
    · exact ⟨_, cap, hv⟩
  exact ⟨so', c', W3, hr, ho, hg, by simpa using hob⟩
end Go.Proofs.Ytbnomkcliejcaaa
