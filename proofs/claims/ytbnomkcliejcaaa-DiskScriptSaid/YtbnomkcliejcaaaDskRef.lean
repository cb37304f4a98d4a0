/-
  The reference's disk in memory: its box, the rows of what is safe, of what was written last, of which are dirty; burn, Fuse, Read.
-/
import Derived.Test.YtbnomkcliejcaaaDskCrash
namespace Go.Proofs.Ytbnomkcliejcaaa
open Go.RowKit Ds
attribute [local go_sem] Oper.semAt_some
set_option linter.unusedSimpArgs false

/-- The reference's disk. -/
structure Rf where
  safe : List Sec
  last : List Sec
  dirt : List Bool
  has : Bool
  left : Int
  gone : Bool
theorem sizeRow : (Try.prog.info? 27).map (·.size) = some 1 := by kernel_rfl
/-- A slice value that reads as the 64 bytes xs, in a block of bytes. -/
def By (w : World) (v : Value) (xs : List Int) : Prop := ∃ (p : Addr) (c : Nat), v = .slice (some p) 64 c ∧ Lst .u8 w (some p) 64 c xs ∧ ∃ cs fr, w.heap[p.block]? = some (.cells cs 5 fr)
theorem pt_block (p : Addr) (j : Nat) : (pt (some p) j).block = p.block := by
  show (p.add j).block = p.block
  unfold Addr.add
  split <;> rfl
theorem By.kept {w w' : World} {v : Value} {xs : List Int} {row : Option Nat} (h : By w v xs) (hg : w.grownBy w' row) (hne : ∀ g, row = some g → ∀ cs fr, w.heap[g]? ≠ some (.cells cs 5 fr)) : By w' v xs := by
  obtain ⟨p, c, e, hL, cs, fr, ht⟩ := h
  have hb : some p.block ≠ row := fun x => hne _ x.symm cs fr ht
  have hk : w'.heap[p.block]? = w.heap[p.block]? := hg.block _ (Array.getElem?_eq_some_iff.1 ht).1 hb
  refine ⟨p, c, e, ⟨hL.len, hL.cap, hL.room, hL.isSome, fun j hj => ?_, hL.wf⟩, cs, fr, hk.trans ht⟩
  exact (World.cell?_of_block (by rw [pt_block]; exact hk)).trans (hL.cell j hj)
theorem By.below {w w' : World} {v : Value} {xs : List Int} (h : By w v xs) (hb : Below w.heap.size w w') : By w' v xs := h.kept (grown_of_below hb none) (fun _ e => by cases e)
/-- A row of such slices: block s, of which the first values are us. -/
def BRow (w : World) (s n c : Nat) (S : List Sec) : Prop := S.length = n ∧ n ≤ c ∧ c ≤ maxLen ∧ ∃ us rest : List Value, Arr w s 27 (us ++ rest) ∧ us.length = n ∧ ∀ i, i < n → ∃ v, us[i]? = some v ∧ By w v (S.getD i [])
def TRow (w : World) (t n c : Nat) (bs : List Bool) : Prop := bs.length = n ∧ n ≤ c ∧ c ≤ maxLen ∧ ∃ rest : List Value, Arr w t 4 (bs.map Value.bool ++ rest)
/-- The disk of the reference: box q, rows s, l, t. -/
structure RefD (w : World) (q s l t n sc lc tc : Nat) (r : Rf) : Prop where
  box : Arr w q 54 [.slice (some ⟨s, 0, none⟩) n sc, .slice (some ⟨l, 0, none⟩) n lc, .slice (some ⟨t, 0, none⟩) n tc, .bool r.has, .int .i64 r.left, .bool r.gone]
  safe : BRow w s n sc r.safe
  last : BRow w l n lc r.last
  dirt : TRow w t n tc r.dirt
  ne : s ≠ l
theorem BRow.kept {w w' : World} {s n c : Nat} {S : List Sec} {row : Option Nat} (h : BRow w s n c S) (hg : w.grownBy w' row) (h1 : some s ≠ row) (hne : ∀ g, row = some g → ∀ cs fr, w.heap[g]? ≠ some (.cells cs 5 fr)) : BRow w' s n c S := by
  obtain ⟨e1, e2, e3, us, rest, hA, hl, hu⟩ := h
  refine ⟨e1, e2, e3, us, rest, (hg.block _ hA.lt h1).trans hA, hl, fun i hi => ?_⟩
  obtain ⟨v, hv, hb⟩ := hu i hi
  exact ⟨v, hv, hb.kept hg hne⟩
theorem TRow.kept {w w' : World} {t n c : Nat} {bs : List Bool} {row : Option Nat} (h : TRow w t n c bs) (hg : w.grownBy w' row) (h1 : some t ≠ row) : TRow w' t n c bs := by
  obtain ⟨e1, e2, e3, rest, hA⟩ := h
  exact ⟨e1, e2, e3, rest, (hg.block _ hA.lt h1).trans hA⟩
/-- A value is taken out of a row. -/
theorem BRow.get {w : World} {s n c : Nat} {S : List Sec} (h : BRow w s n c S) {i : Nat} (hi : i < n) : ∃ v, w.cell? ⟨s, i, none⟩ = some v ∧ By w v (S.getD i []) := by
  obtain ⟨_, _, _, us, rest, hA, hl, hu⟩ := h
  obtain ⟨v, hv, hb⟩ := hu i hi
  exact ⟨v, by rw [hA.cell, List.getElem?_append_left (by omega)]; exact hv, hb⟩
theorem BRow.set {w : World} {s n c : Nat} {S : List Sec} (h : BRow w s n c S) {i : Nat} (hi : i < n) {v : Value} {xs : List Int} (hv : By w v xs) : BRow (w.setCell ⟨s, i, none⟩ v) s n c (S.set i xs) := by
  obtain ⟨e1, e2, e3, us, rest, hA, hl, hu⟩ := h
  have hg := grown_setG w s i v
  have hne : ∀ g, some s = some g → ∀ cs fr, w.heap[g]? ≠ some (.cells cs 5 fr) := fun g e cs fr x => by
    injection e with e
    subst e
    rw [show w.heap[s]? = _ from hA] at x
    injection x with x
    injection x with _ x _
    revert x
    decide
  refine ⟨by simpa using e1, e2, e3, us.set i v, rest, ?_, by simpa using hl, fun j hj => ?_⟩
  · have := hA.set i v
    rwa [List.set_append_left _ _ (by omega)] at this
  · by_cases hji : j = i
    · subst hji
      refine ⟨v, by simp [hl, hi], ?_⟩
      have : (S.set j xs).getD j [] = xs := by simp [List.getD, show j < S.length by omega]
      rw [this]
      exact hv.kept hg (fun g e => hne g e)
    · obtain ⟨u, h1, h2⟩ := hu j hj
      refine ⟨u, by rw [List.getElem?_set_ne (by omega)]; exact h1, ?_⟩
      have : (S.set i xs).getD j [] = S.getD j [] := by simp [List.getD, List.getElem?_set_ne (show i ≠ j by omega)]
      rw [this]
      exact h2.kept hg (fun g e => hne g e)
theorem TRow.set {w : World} {t n c : Nat} {bs : List Bool} (h : TRow w t n c bs) {i : Nat} (hi : i < n) (b : Bool) : TRow (w.setCell ⟨t, i, none⟩ (.bool b)) t n c (bs.set i b) := by
  obtain ⟨e1, e2, e3, rest, hA⟩ := h
  refine ⟨by simpa using e1, e2, e3, rest, ?_⟩
  have := hA.set i (.bool b)
  rwa [List.set_append_left _ _ (by simp; omega), ← List.map_set] at this
theorem TRow.get {w : World} {t n c : Nat} {bs : List Bool} (h : TRow w t n c bs) {i : Nat} (hi : i < n) : w.cell? ⟨t, i, none⟩ = some (.bool (bs.getD i false)) := by
  obtain ⟨e1, _, _, rest, hA⟩ := h
  rw [hA.cell, List.getElem?_append_left (by simp; omega)]
  simp [List.getD, show i < bs.length by omega]
/-- Nothing but this disk's own blocks has turned. -/
structure ROff (q s l t : Nat) (w w' : World) : Prop where
  os : w'.os = w.os
  tape : w'.tape = w.tape
  output : w'.output = w.output
  size : w.heap.size ≤ w'.heap.size
  block : ∀ k, k < w.heap.size → k ≠ q → k ≠ s → k ≠ l → k ≠ t → w'.heap[k]? = w.heap[k]?
theorem ROff.refl (q s l t : Nat) (w : World) : ROff q s l t w w := ⟨rfl, rfl, rfl, Nat.le_refl _, fun _ _ _ _ _ _ => rfl⟩
theorem ROff.trans {q s l t : Nat} {u v w : World} (h : ROff q s l t u v) (k : ROff q s l t v w) : ROff q s l t u w :=
  ⟨k.os.trans h.os, k.tape.trans h.tape, k.output.trans h.output, Nat.le_trans h.size k.size, fun j hj h1 h2 h3 h4 => (k.block j (by have := h.size; omega) h1 h2 h3 h4).trans (h.block j hj h1 h2 h3 h4)⟩
theorem ROff.of_grown {q s l t b : Nat} {w w' : World} (h : w.grownBy w' (some b)) (hb : b = q ∨ b = s ∨ b = l ∨ b = t) : ROff q s l t w w' :=
  ⟨h.os, h.tape, h.output, h.size, fun k hk h1 h2 h3 h4 => h.block k hk (fun e => by injection e with e; omega)⟩
theorem ROff.of_below {q s l t : Nat} {w w' : World} (h : Below w.heap.size w w') : ROff q s l t w w' := ⟨h.os, h.tape, h.output, h.size, fun k hk _ _ _ _ => h.block k hk⟩
section
variable {w w' : World} {q s l t n sc lc tc : Nat} {r : Rf}
theorem RefD.types (h : RefD w q s l t n sc lc tc r) : s ≠ q ∧ l ≠ q ∧ t ≠ q ∧ t ≠ s ∧ t ≠ l := by
  obtain ⟨_, _, _, us, rest, hA, _⟩ := h.safe
  obtain ⟨_, _, _, us', rest', hB, _⟩ := h.last
  obtain ⟨_, _, _, rest'', hC⟩ := h.dirt
  exact ⟨hA.ne h.box (by decide), hB.ne h.box (by decide), hC.ne h.box (by decide), hC.ne hA (by decide), hC.ne hB (by decide)⟩
theorem RefD.cells (h : RefD w q s l t n sc lc tc r) : w.cell? ⟨q, 0, none⟩ = some (.slice (some ⟨s, 0, none⟩) n sc) ∧ w.cell? ⟨q, 1, none⟩ = some (.slice (some ⟨l, 0, none⟩) n lc) ∧ w.cell? ⟨q, 2, none⟩ = some (.slice (some ⟨t, 0, none⟩) n tc) ∧
    w.cell? ⟨q, 3, none⟩ = some (.bool r.has) ∧ w.cell? ⟨q, 4, none⟩ = some (.int .i64 r.left) ∧ w.cell? ⟨q, 5, none⟩ = some (.bool r.gone) := ⟨h.box.cell 0, h.box.cell 1, h.box.cell 2, h.box.cell 3, h.box.cell 4, h.box.cell 5⟩
theorem box_no8 {cs : List Value} (h : Arr w q 54 cs) : ∀ g, some q = some g → ∀ ds fr, w.heap[g]? ≠ some (.cells ds 5 fr) := fun g e ds fr x => by
  injection e with e
  subst e
  rw [show w.heap[q]? = _ from h] at x
  injection x with x
  injection x with _ x _
  revert x
  decide
/-- A store into the box. -/
theorem RefD.setBox (h : RefD w q s l t n sc lc tc r) (r' : Rf) (i : Nat) (v : Value) (e : [Value.slice (some ⟨s, 0, none⟩) n sc, .slice (some ⟨l, 0, none⟩) n lc, .slice (some ⟨t, 0, none⟩) n tc, .bool r.has, .int .i64 r.left, .bool r.gone].set i v = [Value.slice (some ⟨s, 0, none⟩) n sc, .slice (some ⟨l, 0, none⟩) n lc, .slice (some ⟨t, 0, none⟩) n tc, .bool r'.has, .int .i64 r'.left, .bool r'.gone])
    (h1 : r'.safe = r.safe) (h2 : r'.last = r.last) (h3 : r'.dirt = r.dirt) : RefD (w.setCell ⟨q, i, none⟩ v) q s l t n sc lc tc r' := by
  have hg := grown_setG w q i v
  obtain ⟨t1, t2, t3, _, _⟩ := h.types
  refine ⟨?_, ?_, ?_, ?_, h.ne⟩
  · rw [← e]; exact h.box.set i v
  · rw [h1]; exact h.safe.kept hg (by simpa using t1) (box_no8 h.box)
  · rw [h2]; exact h.last.kept hg (by simpa using t2) (box_no8 h.box)
  · rw [h3]; exact h.dirt.kept hg (by simpa using t3)
theorem RefD.below (h : RefD w q s l t n sc lc tc r) (hb : Below w.heap.size w w') : RefD w' q s l t n sc lc tc r := by
  have hg := grown_of_below hb none
  exact ⟨(hb.block _ h.box.lt).trans h.box, h.safe.kept hg (by simp) (fun _ e => by cases e), h.last.kept hg (by simp) (fun _ e => by cases e), h.dirt.kept hg (by simp), h.ne⟩
/-- What burn leaves. -/
def Rf.burn (r : Rf) : Bool × Rf := if r.has ∧ r.left = 0 then (false, { r with gone := true }) else (true, { r with left := r.left - 1 })
set_option maxHeartbeats 1600000 in
theorem rburn_c (h : RefD w q s l t n sc lc tc r) (h0 : -1000000 ≤ r.left) (h1 : r.left ≤ 9223372036854775807) : Calls Try.prog 29 #[.pointer (some ⟨q, 0, none⟩)] w fun e w' =>
    e = .returned (.bool r.burn.1) ∧ RefD w' q s l t n sc lc tc r.burn.2 ∧ ROff q s l t w w' ∧ w'.heap.size = w.heap.size := by
  obtain ⟨_, _, _, k3, k4, _⟩ := h.cells
  have f4 := h.box.frozen 4
  have f5 := h.box.frozen 5
  have hw : IntKind.i64.wrap (r.left - 1) = r.left - 1 := by rw [IntKind.wrap_i64]; omega
  have hD : Hid (RefD (w.setCell ⟨q, 4, none⟩ (.int .i64 (r.left - 1))) q s l t n sc lc tc { r with left := r.left - 1 } ∧ ROff q s l t w (w.setCell ⟨q, 4, none⟩ (.int .i64 (r.left - 1))) ∧ (w.setCell ⟨q, 4, none⟩ (.int .i64 (r.left - 1))).heap.size = w.heap.size) :=
    ⟨h.setBox _ 4 _ rfl rfl rfl rfl, ROff.of_grown (grown_setG w q 4 _) (Or.inl rfl), by simp [World.setCell]⟩
  by_cases hz : r.has = true ∧ r.left = 0
  · have e : r.burn = (false, { r with gone := true }) := by unfold Rf.burn; rw [if_pos hz]
    rw [e]
    have hD2 : Hid (RefD (w.setCell ⟨q, 5, none⟩ (.bool true)) q s l t n sc lc tc { r with gone := true } ∧ ROff q s l t w (w.setCell ⟨q, 5, none⟩ (.bool true)) ∧ (w.setCell ⟨q, 5, none⟩ (.bool true)).heap.size = w.heap.size) :=
      ⟨h.setBox _ 5 _ rfl rfl rfl rfl, ROff.of_grown (grown_setG w q 5 _) (Or.inl rfl), by simp [World.setCell]⟩
    rw [hz.1] at k3
    rw [hz.2] at k4
    clear h hD e hz hw h0 h1
    go_enter Try.func29, Try.ntmps29
    go_wp2
    go_ret
    exact ⟨rfl, hD2.out⟩
  · have e : r.burn = (true, { r with left := r.left - 1 }) := by unfold Rf.burn; rw [if_neg hz]
    rw [e]
    obtain ⟨F, hF⟩ : ∃ F, r.left = F := ⟨_, rfl⟩
    rw [hF] at k4 hw hD hz ⊢
    cases hh : r.has with
    | false =>
      rw [hh] at k3 hD
      clear h e hz h0 h1 hF
      go_enter Try.func29, Try.ntmps29
      go_wp2
      go_ret
      exact ⟨rfl, hD.out⟩
    | true =>
      rw [hh] at k3 hz hD
      have hz' : (F == 0) = false := by simpa using hz
      clear h e hz h0 h1 hF
      go_enter Try.func29, Try.ntmps29
      go_wp2
      go_ret
      exact ⟨rfl, hD.out⟩
end
end Go.Proofs.Ytbnomkcliejcaaa
