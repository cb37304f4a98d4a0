/-
  A disk in memory: its box, the block of its sectors, the map of the dirty ones; what a call on it may turn.
-/
import Derived.Test.YtbnomkcliejcaaaDskMap
import Derived.Deep.CutRange
import Derived.Deep.OwnRows
import Derived.Laws.CopyOwn
namespace Go.Proofs.Ytbnomkcliejcaaa
open Go.RowKit Ds

theorem below_grown {B g : Nat} {w0 w w' : World} (h : Below B w0 w) (hg : w.grownBy w' (some g)) (hB : B ≤ w.heap.size) (hb : B ≤ g) : Below B w0 w' :=
  h.grown hg hB (fun k hk => by injection hk with hk; omega)
theorem grown_set (w : World) (p : Addr) (v : Value) : w.grownBy (w.setCell p v) (some p.block) :=
  ⟨rfl, rfl, rfl, by simp [World.setCell], fun k _ hne => Below.heap_setCell w p v k (fun e => hne (by rw [e]))⟩
theorem grown_setG (w : World) (g i : Nat) (v : Value) : w.grownBy (w.setCell ⟨g, i, none⟩ v) (some g) := grown_set w ⟨g, i, none⟩ v
theorem grown_of_below {w w' : World} (hb : Below w.heap.size w w') (row : Option Nat) : w.grownBy w' row := ⟨hb.os, hb.tape, hb.output, hb.size, fun j hj _ => hb.block j hj⟩
theorem Arr.grownBy {w w' : World} {g b : Nat} {t : TypeId} {cs : List Value} (h : Arr w g t cs) (hg : w.grownBy w' (some b)) (hne : g ≠ b) : Arr w' g t cs := (hg.block g h.lt (fun e => hne (by injection e))).trans h
theorem Arr.ne {w : World} {g b : Nat} {t u : TypeId} {cs ds : List Value} (h : Arr w g t cs) (k : Arr w b u ds) (hne : t ≠ u) : g ≠ b := by
  rintro rfl
  have h' : w.heap[g]? = some (.cells cs.toArray t (0, 0)) := h
  have k' : w.heap[g]? = some (.cells ds.toArray u (0, 0)) := k
  rw [h'] at k'
  injection k' with k'
  injection k' with _ e _
  exact hne e

/-- The block a: n sectors at the head of room for c. -/
def Secs (w : World) (a c : Nat) (S : List Sec) : Prop := S.length ≤ c ∧ c ≤ maxLen ∧ ∃ cur : List Value, Arr w a 56 cur ∧ cur.length = c * 64 ∧ cur.take (64 * S.length) = S.flatten.map (Value.int .u8)
theorem Secs.lt {w : World} {a c : Nat} {S : List Sec} (h : Secs w a c S) : a < w.heap.size := by
  obtain ⟨_, _, cur, hA, _⟩ := h
  exact hA.lt
theorem Secs.grown {w w' : World} {a c : Nat} {row : Option Nat} {S : List Sec} (h : Secs w a c S) (hg : w.grownBy w' row) (hne : some a ≠ row) : Secs w' a c S := by
  obtain ⟨h1, h2, cur, hA, r⟩ := h
  exact ⟨h1, h2, cur, (hg.block a hA.lt hne).trans hA, r⟩
theorem Secs.ne {w : World} {a c g : Nat} {t : TypeId} {S : List Sec} {cs : List Value} (h : Secs w a c S) (hA : Arr w g t cs) (ht : 56 ≠ t) : a ≠ g := by
  obtain ⟨_, _, cur, hB, _⟩ := h
  exact hB.ne hA ht
theorem Secs.of_row {w : World} {B a c : Nat} {S : List Sec} (h : w.ownsRow B 56 64 (.slice (some ⟨a, 0, none⟩) S.length c) S.length (S.flatten.map (Value.int .u8))) : Secs w a c S := by
  rcases h.2 with ⟨hv, _⟩ | ⟨g, cap, cur, hv, hg, hh, hn, hc, hz, ht⟩
  · cases hv
  · injection hv with h1 h2 h3
    injection h1 with h1
    injection h1 with h1
    subst h1; subst h3
    exact ⟨hn, hc, cur.toList, by simpa [Arr] using hh, by simpa using hz, by rw [Nat.mul_comm]; exact ht⟩
theorem secs_map (S : List Sec) (i j : Nat) : (S.flatten.map (Value.int .u8))[64 * i + j]? = (S.flatten[64 * i + j]?).map (Value.int .u8) := by rw [List.getElem?_map]
/-- The cells of sector i. -/
theorem Secs.cell {w : World} {a c : Nat} {S : List Sec} (h : Secs w a c S) (hs : Sized S) {i j : Nat} (hi : i < S.length) (hj : j < 64) : w.cell? ⟨a, 64 * i + j, none⟩ = ((S.getD i [])[j]?).map (Value.int .u8) := by
  obtain ⟨_, _, cur, hA, _, ht⟩ := h
  rw [hA.cell, ← flat_cell hs hi hj, ← secs_map, ← ht, List.getElem?_take_of_lt (by omega)]
theorem add64 (a i j : Nat) : (⟨a, 64 * i, none⟩ : Addr).add j = ⟨a, 64 * i + j, none⟩ := by unfold Addr.add; split <;> simp_all
theorem sec_one (s : Sec) : ∀ u ∈ s.map (Value.int .u8), u.oneCell' = true := fun u hu => by
  obtain ⟨x, _, rfl⟩ := List.mem_map.1 hu
  rfl
/-- Sector i as a list of bytes in memory. -/
theorem Secs.lst {w : World} {a c : Nat} {S : List Sec} (h : Secs w a c S) (hs : Sized S) (hb : ∀ s ∈ S, Bytes s) {i : Nat} (hi : i < S.length) : Lst .u8 w (some ⟨a, 64 * i, none⟩) 64 64 (S.getD i []) := by
  have hg := hs.get hi
  refine ⟨hg, Nat.le_refl _, by omega, fun _ => ⟨_, rfl⟩, fun j hj => ?_, fun x hx => ?_⟩
  · show w.cell? ((⟨a, 64 * i, none⟩ : Addr).add j) = _
    rw [add64, h.cell hs hi hj]
    simp [List.getD, show j < (S[i]?.getD []).length by simpa [List.getD] using (by omega : j < (S.getD i []).length)]
  · have := hb _ (show S.getD i [] ∈ S by simp [List.getD, hi]) x hx
    exact wf_u8 this.1 this.2
/-- The whole sector i is taken up. -/
theorem Secs.load {w : World} {a c : Nat} {S : List Sec} (h : Secs w a c S) (hs : Sized S) {i : Nat} (hi : i < S.length) :
    (Instr.loadAt 56 (.pointer (some ⟨a, 64 * i, none⟩))).run Try.prog w = .ok (secV (S.getD i [])) w := by
  have hg := hs.get hi
  have hl := run_loadCells_list (P := Try.prog) w ⟨a, 64 * i, none⟩ ((S.getD i []).map (Value.int .u8)) (fun j v hj => by
    have hj64 : j < 64 := by
      have := (List.getElem?_eq_some_iff.1 hj).1
      simp at this; simp [List.getD] at hg; omega
    rw [add64, h.cell hs hi hj64]
    simpa using hj)
  rw [List.length_map, hg] at hl
  have hu := Try.underlying56
  obtain ⟨inf, hinf, hz⟩ := Option.map_eq_some_iff.1 sizeS
  simp only [Instr.loadAt, Instr.sureAddr, Sem.run_bind, Sem.run_pure, Result.andThen, loadVar]
  simp [isAgg, run_underlying hu, sizeOf, typeInfo, hinf, hz, hl, Result.andThen, secV]
/-- A whole sector is stored. -/
theorem Secs.store {w : World} {a c : Nat} {S : List Sec} (h : Secs w a c S) (hs : Sized S) {i : Nat} (hi : i < S.length) {x : Sec} (hx : x.length = 64) :
    ∃ w', (Instr.storeAt 56 (.pointer (some ⟨a, 64 * i, none⟩)) (secV x)).run Try.prog w = .ok () w' ∧ Secs w' a c (S.set i x) ∧ w.grownBy w' (some a) ∧ w'.heap.size = w.heap.size := by
  obtain ⟨h1, h2, cur, hA, hz, ht⟩ := h
  have hfl := flat_len hs
  have hmul : 64 * S.length ≤ c * 64 := by omega
  have hrun := run_storeCells_at (P := Try.prog) a (64 * i) 56 (x.map (Value.int .u8)) 0 cur.toArray w hA (by simp; omega) (sec_one x)
  refine ⟨w.setRow a (cur.take (64 * i) ++ (x.map (Value.int .u8) ++ cur.drop (64 * i + 64))).toArray, ?_, ⟨by simpa using h1, h2, cur.take (64 * i) ++ (x.map (Value.int .u8) ++ cur.drop (64 * i + 64)), ?_, ?_, ?_⟩, ⟨rfl, rfl, rfl, by simp, fun k _ hk => setRow_other w a k _ (fun e => hk (by rw [e]))⟩, by simp⟩
  · obtain ⟨inf, hinf, hsz⟩ := Option.map_eq_some_iff.1 sizeS
    simp only [Instr.storeAt, Instr.sureAddr, Sem.run_bind, Sem.run_pure, Result.andThen, storeVar]
    simp [secV, Value.cells, sizeOf, typeInfo, hinf, hsz, hx, Result.andThen]
    simpa [hx] using hrun
  · exact setRow_heap w a cur.toArray _ _ _ hA
  · simp [hx]; omega
  · rw [List.length_set]
    have e := congrArg (List.map (Value.int .u8)) (flat_set hs hi x)
    rw [List.map_append, List.map_append, List.map_take, List.map_drop, ← ht] at e
    rw [← e, List.take_append, List.take_append, List.take_take, List.take_drop]
    simp only [List.length_take, List.length_map, hx]
    rw [show min (64 * S.length) (64 * i) = 64 * i by omega, show min (64 * i) cur.length = 64 * i by omega, List.take_of_length_le (l := x.map (Value.int .u8)) (by simp [hx]; omega), List.take_take, show min (64 * i) (64 * S.length) = 64 * i by omega]
    congr 2
    rw [List.drop_take, List.take_drop]
    congr 2
    omega

/-- Disk d: the box g, the sectors' block a with room for c, the map m. -/
structure Dsk (w : World) (g a m c : Nat) (d : Dk) : Prop where
  box : Arr w g 60 [.slice (some ⟨a, 0, none⟩) d.cur.length c, .map (some m), .bool d.fused, .int .i64 d.fuse, .bool d.dead]
  secs : Secs w a c d.cur
  map : MapD w m d.old

/-- w' is w but for the disk's own blocks, and for new ones. -/
structure Off (g a m : Nat) (w w' : World) : Prop where
  os : w'.os = w.os
  tape : w'.tape = w.tape
  output : w'.output = w.output
  size : w.heap.size ≤ w'.heap.size
  block : ∀ k, k < w.heap.size → k ≠ g → k ≠ a → k ≠ m → w'.heap[k]? = w.heap[k]?
theorem Off.refl (g a m : Nat) (w : World) : Off g a m w w := ⟨rfl, rfl, rfl, Nat.le_refl _, fun _ _ _ _ _ => rfl⟩
theorem Off.trans {g a m : Nat} {u v w : World} (h : Off g a m u v) (k : Off g a m v w) : Off g a m u w :=
  ⟨k.os.trans h.os, k.tape.trans h.tape, k.output.trans h.output, Nat.le_trans h.size k.size, fun j hj h1 h2 h3 => (k.block j (by have := h.size; omega) h1 h2 h3).trans (h.block j hj h1 h2 h3)⟩
theorem Off.of_below {g a m : Nat} {w w' : World} (h : Below w.heap.size w w') : Off g a m w w' := ⟨h.os, h.tape, h.output, h.size, fun k hk _ _ _ => h.block k hk⟩
theorem Off.of_grown {g a m b : Nat} {w w' : World} (h : w.grownBy w' (some b)) (hb : b = g ∨ b = a ∨ b = m) : Off g a m w w' :=
  ⟨h.os, h.tape, h.output, h.size, fun k hk h1 h2 h3 => h.block k hk (fun e => by injection e with e; omega)⟩
theorem Off.below {B g a m : Nat} {w0 w w' : World} (h : Off g a m w w') (hb : Below B w0 w) (hB : B ≤ w.heap.size) (hg : B ≤ g) (ha : B ≤ a) (hm : B ≤ m) : Below B w0 w' :=
  hb.trans ⟨h.os, h.tape, h.output, h.size, fun k hk => h.block k (by omega) (by omega) (by omega) (by omega)⟩
theorem Arr.off {g a m b : Nat} {t : TypeId} {w w' : World} {cs : List Value} (h : Arr w b t cs) (k : Off g a m w w') (h1 : b ≠ g) (h2 : b ≠ a) (h3 : b ≠ m) : Arr w' b t cs := (k.block b h.lt h1 h2 h3).trans h
section
variable {w w' : World} {g a m c : Nat} {d : Dk}
theorem Dsk.ga (h : Dsk w g a m c d) : a ≠ g := h.secs.ne h.box (by decide)
theorem Dsk.gm (h : Dsk w g a m c d) : m ≠ g := h.map.ne h.box
theorem Dsk.am (h : Dsk w g a m c d) : m ≠ a := by
  obtain ⟨_, _, cur, hA, _⟩ := h.secs
  exact h.map.ne hA
theorem Dsk.grown {row : Option Nat} (h : Dsk w g a m c d) (hg : w.grownBy w' row) (h1 : some g ≠ row) (h2 : some a ≠ row) (h3 : some m ≠ row) : Dsk w' g a m c d :=
  ⟨(hg.block g h.box.lt h1).trans h.box, h.secs.grown hg h2, h.map.grown hg h3⟩
theorem Dsk.below (h : Dsk w g a m c d) (hb : Below w.heap.size w w') : Dsk w' g a m c d := h.grown (grown_of_below hb none) (by simp) (by simp) (by simp)
theorem Dsk.drew (h : Dsk w g a m c d) : Dsk w.drew g a m c d := ⟨h.box, h.secs, h.map⟩
/-- Another disk's call turns nothing. -/
theorem Dsk.off {g' a' m' : Nat} (h : Dsk w g a m c d) (k : Off g' a' m' w w') (hg : g ≠ g' ∧ g ≠ a' ∧ g ≠ m') (ha : a ≠ g' ∧ a ≠ a' ∧ a ≠ m') (hm : m ≠ g' ∧ m ≠ a' ∧ m ≠ m') : Dsk w' g a m c d := by
  have e : ∀ b, b ≠ g' ∧ b ≠ a' ∧ b ≠ m' → b < w.heap.size → w'.heap[b]? = w.heap[b]? := fun b hb hl => k.block b hl hb.1 hb.2.1 hb.2.2
  refine ⟨(e g hg h.box.lt).trans h.box, ?_, ?_⟩
  · obtain ⟨h1, h2, cur, hA, r⟩ := h.secs
    exact ⟨h1, h2, cur, (e a ha hA.lt).trans hA, r⟩
  · have hm' := h.map
    obtain ⟨D, ⟨es, clock, hb, r⟩, r'⟩ := hm'
    exact ⟨D, ⟨es, clock, (e m hm h.map.lt).trans hb, r⟩, r'⟩
/-- A store into the box. -/
theorem Dsk.setBox (h : Dsk w g a m c d) (d' : Dk) (i : Nat) (v : Value) (e : [Value.slice (some ⟨a, 0, none⟩) d.cur.length c, .map (some m), .bool d.fused, .int .i64 d.fuse, .bool d.dead].set i v = [Value.slice (some ⟨a, 0, none⟩) d'.cur.length c, .map (some m), .bool d'.fused, .int .i64 d'.fuse, .bool d'.dead])
    (hc : d'.cur = d.cur) (ho : d'.old = d.old) : Dsk (w.setCell ⟨g, i, none⟩ v) g a m c d' := by
  have hg := grown_setG w g i v
  refine ⟨?_, ?_, ?_⟩
  · rw [← e]; exact h.box.set i v
  · rw [hc]; exact h.secs.grown hg (by simpa using h.ga)
  · rw [ho]; exact h.map.grown hg (by simpa using h.gm)
end
end Go.Proofs.Ytbnomkcliejcaaa
