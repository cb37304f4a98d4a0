/-
  Lists of ints, of bools, of lists in memory; boxes; appends: the words that all contracts of ranking share.
-/
import Derived.Test.YtjpkbaidgddhnaaImgBase
import Derived.Test.YtjpkbaidgddhnaaRkMath
import Derived.Deep.RegionHeld3
import Derived.Deep.Onto
import Derived.Deep.DeepCutAuto
namespace Go.Proofs.Ytjpkbaidgddhnaa
open Go.RowKit Rk

theorem infoI : (Try.prog.info? 3).map (fun i => (i.zero, i.size, i.bytes)) = some (some (.int .i64 0), 1, 8) := by kernel_rfl
theorem sizeI : (Try.prog.info? 3).map (·.size) = some 1 := by kernel_rfl
theorem infoB : (Try.prog.info? 4).map (fun i => (i.zero, i.size, i.bytes)) = some (some (.bool false), 1, 1) := by kernel_rfl
theorem sizeB : (Try.prog.info? 4).map (·.size) = some 1 := by kernel_rfl
theorem infoR : (Try.prog.info? 32).map (fun i => (i.zero, i.size, i.bytes)) = some (some (.slice none 0 0), 1, 24) := by kernel_rfl
theorem sizeR : (Try.prog.info? 32).map (·.size) = some 1 := by kernel_rfl
theorem wf_i64 {x : Int} (h0 : -9223372036854775808 ≤ x) (h1 : x ≤ 9223372036854775807) : (Lit.int .i64 x).wf = true := by
  simp [Lit.wf, IntKind.min, IntKind.max, IntKind.signed, IntKind.bits, h0, h1]
theorem of_wf {x : Int} (h : (Lit.int .i64 x).wf = true) : -9223372036854775808 ≤ x ∧ x ≤ 9223372036854775807 := by
  simpa [Lit.wf, IntKind.min, IntKind.max, IntKind.signed, IntKind.bits] using h
/-- The index of a slice of ints. -/
theorem ixI {w : World} {ao : Option Addr} {n c : Nat} {xs : List Int} (h : Lst .i64 w ao n c xs) (i : Nat) (z : Int) (hz : z = i) (hi : i < n) :
    ∀ W, (Instr.indexAt 32 (.slice ao n c) (.int .i64 z)).run Try.prog W = .ok (.pointer (some (pt ao i))) W := by
  subst hz
  exact run_index Try.underlying32 sizeI h i hi
/-- Element i under a letter. -/
theorem Lst.at {w : World} {ao : Option Addr} {n c : Nat} {xs : List Int} (h : Lst .i64 w ao n c xs) (i : Nat) (hi : i < n) :
    ∃ x : Int, xs.getD i 0 = x ∧ x ∈ xs ∧ -9223372036854775808 ≤ x ∧ x ≤ 9223372036854775807 ∧ xs.drop i = x :: xs.drop (i + 1) ∧ w.cell? (pt ao i) = some (.int .i64 x) := by
  have hl := h.len
  have e : xs.getD i 0 = xs[i]'(by omega) := by rw [List.getD_eq_getElem?_getD, List.getElem?_eq_getElem (by omega)]; rfl
  have hx : xs[i]'(by omega) ∈ xs := List.getElem_mem _
  have hb := of_wf (h.wf _ hx)
  exact ⟨_, e, hx, hb.1, hb.2, List.drop_eq_getElem_cons (by omega), by rw [h.cell i hi, e]⟩
theorem below_drewN {B : Nat} {w w' : World} (h : Below B w w') (n : Nat) : Below B w (w'.drewN n) := ⟨h.os, h.tape, h.output, h.size, h.block⟩
theorem below_drew2 {B : Nat} {w w' : World} (h : Below B w w') : Below B w w'.drew := ⟨h.os, h.tape, h.output, h.size, h.block⟩
theorem cell_keep {w w' : World} {p : Addr} {v : Value} (h : w.cell? p = some v) (hb : Below w.heap.size w w') : w'.cell? p = some v := (World.cell?_of_block (hb.block _ (World.block_lt_of_cell? w _ h))).trans h
theorem ownsRow_keep {B s n : Nat} {E : TypeId} {w w' : World} {v : Value} {us : List Value} (h : w.ownsRow B E s v n us) (hb : Below w.heap.size w w') : w'.ownsRow B E s v n us :=
  World.ownsRow.kept (row := none) h ⟨hb.os, hb.tape, hb.output, hb.size, fun j hj _ => hb.block j hj⟩ (by cases v.ownBlock <;> simp)
theorem set_grown (w : World) (g i : Nat) (u : Value) : w.grownBy (w.setCell ⟨g, i, none⟩ u) (some g) :=
  ⟨rfl, rfl, rfl, by simp [World.setCell], fun k _ hk => Below.heap_setCell w _ u k (fun e => hk (by rw [e]))⟩
theorem new_box (w : World) (T : TypeId) (cs : List Value) : ∃ V, w.alloc (.cells cs.toArray T) = V ∧ Arr V w.heap.size T cs ∧ Below w.heap.size w V ∧ V.heap.size = w.heap.size + 1 :=
  ⟨_, rfl, Arr.new w T cs, (Below.refl _ _).alloc (Nat.le_refl _) _, by simp⟩
theorem Arr.grownBy {w w' : World} {g b : Nat} {t : TypeId} {cs : List Value} (h : Arr w g t cs) (hg : w.grownBy w' (some b)) (hne : g ≠ b) : Arr w' g t cs := (hg.block g h.lt (fun e => hne (by injection e))).trans h
theorem Own.lower {e : TypeId} {k : IntKind} {B B' : Nat} {w : World} {ao : Option Addr} {n c : Nat} {xs : List Int} (h : Own e k B w ao n c xs) (hB : B' ≤ B) : Own e k B' w ao n c xs := ⟨World.ownsRow.mono h.1 hB, h.2⟩

section
variable {w : World} {ops : Array Oper} {rest : List Oper} {a : Act} {Q : Exit → Act → World → Prop} {K : Act → World → Prop} {d : Option Tmp} {p q : Operand} {ty : TypeId} {pos : String} {after : Array Edge} {o : Oper}
/-- One element, in a slice that has just been made, is appended to a row that the call owns. -/
theorem wpList_appK {T E : TypeId} {s bytes : Nat} {z : Value} (ht : Try.prog.underlying T = some (.slice E)) (hinfo : (Try.prog.info? E).map (fun i => (i.zero, i.size, i.bytes)) = some (some z, s, bytes)) (hzs : z.cells.size = s) (hs : 0 < s) (hby : bytes ≤ 1000)
    {B : Nat} {ao : Option Addr} {n c : Nat} {us vs : List Value} (hO : w.ownsRow B E s (.slice ao n c) n us) (hB : B ≤ w.heap.size) (hn : n ≤ 4000000) (hv : vs.length = s) (h1 : ∀ u ∈ vs, u.oneCell' = true)
    (hp : a.eval p = .slice ao n c) (hq : a.eval q = .slice (some ⟨w.heap.size, 0, none⟩) 1 1)
    (h : ∀ ao' c' w', w'.ownsRow B E s (.slice ao' (n + 1) c') (n + 1) (us ++ vs) → w.grownBy w' (Value.slice ao n c).ownBlock → Below B w w' → wpList Try.prog ops Q rest (a.put d (.slice ao' (n + 1) c')) w') :
    wpList Try.prog ops Q (⟨d, .call { callee := .builtin .append, args := #[p, q], argTypes := #[T, T] }, ty, pos, after, none⟩ :: rest) a (w.alloc (.cells vs.toArray E)) := by
  obtain ⟨i0, hi, hz0, hz1, hz2⟩ := info_parts hinfo
  have b1 : Below w.heap.size w (w.alloc (.cells vs.toArray E)) := (Below.refl _ _).alloc (Nat.le_refl _) _
  have g1 : w.grownBy (w.alloc (.cells vs.toArray E)) (Value.slice ao n c).ownBlock := ⟨b1.os, b1.tape, b1.output, b1.size, fun k hk _ => b1.block k hk⟩
  have hnew : Arr (w.alloc (.cells vs.toArray E)) w.heap.size E vs := Arr.new w _ vs
  have hO1 : (w.alloc (.cells vs.toArray E)).ownsRow B E s (.slice ao n c) n us := ownsRow_keep hO b1
  have hbb : (n + 1) * bytes ≤ (4000000 + 1) * 1000 := Nat.mul_le_mul (by omega) hby
  refine wpList_append_own _ rfl p q T rfl B E i0 z s bytes ht hi hz0 hz1 hz2 hzs hs _ n _ hp hO1 ⟨w.heap.size, 0, none⟩ 1 1 vs hq (by omega) ?_ h1 (by unfold maxLen; omega) (by omega) (by simp; omega) ?_
  · intro j u hj
    have e := pt_own w.heap.size j
    simp only [pt, Option.getD_some] at e
    rw [e, hnew.cell]
    exact hj
  · intro v' w' ho' hg _
    obtain ⟨av, cv, hv⟩ : ∃ ao c, v' = .slice ao (n + 1) c := by
      rcases ho'.2 with ⟨hv, h0⟩ | ⟨g, cap, _, hv, _⟩
      · omega
      · exact ⟨_, cap, hv⟩
    subst hv
    exact h av cv w' ho' (grown_trans g1 hg) ((b1.mono hB).trans ((Below.refl _ _).grown hg (by simp; omega) (fun k hk => (World.ownsRow.lt hO k hk).1)))
/-- One int is appended. -/
theorem wpList_appI {B : Nat} {ao : Option Addr} {n c : Nat} {xs : List Int} {x : Int} (hO : Own 3 .i64 B w ao n c xs) (hx : (Lit.int .i64 x).wf = true) (hB : B ≤ w.heap.size) (hn : n ≤ 4000000)
    (hp : a.eval p = .slice ao n c) (hq : a.eval q = .slice (some ⟨w.heap.size, 0, none⟩) 1 1)
    (h : ∀ ao' c' w', Own 3 .i64 B w' ao' (n + 1) c' (xs ++ [x]) → w.grownBy w' (Value.slice ao n c).ownBlock → Below B w w' → wpList Try.prog ops Q rest (a.put d (.slice ao' (n + 1) c')) w') :
    wpList Try.prog ops Q (⟨d, .call { callee := .builtin .append, args := #[p, q], argTypes := #[32, 32] }, ty, pos, after, none⟩ :: rest) a (w.alloc (.cells #[.int .i64 x] 3)) := by
  refine wpList_appK (vs := [.int .i64 x]) Try.underlying32 infoI rfl (by decide) (by decide) hO.1 hB hn rfl (fun u hu => by rw [List.mem_singleton.1 hu]; rfl) hp hq (fun ao' c' w' ho hg hb => h ao' c' w' ⟨by rw [List.map_append]; exact ho, fun y hy => ?_⟩ hg hb)
  rcases List.mem_append.1 hy with hy | hy
  · exact hO.2 y hy
  · rw [List.mem_singleton.1 hy]; exact hx
end

/-- A slice of bools that the call owns. -/
def OwnT (B : Nat) (w : World) (ao : Option Addr) (n c : Nat) (xs : List Bool) : Prop := w.ownsRow B 4 1 (.slice ao n c) n (xs.map Value.bool)
theorem OwnT.made {B : Nat} {w : World} {g n : Nat} (h : w.ownsRow B 4 1 (.slice (some ⟨g, 0, none⟩) n n) n (madeCells #[Value.bool false] n).toList) : OwnT B w (some ⟨g, 0, none⟩) n n (List.replicate n false) := by
  have ez : (madeCells #[Value.bool false] n).toList = (List.replicate n false).map Value.bool := by
    apply List.ext_getElem
    · simp [madeCells]
    · intro i h1 h2
      simp [madeCells, Nat.mod_one]
  rw [ez] at h
  exact h
section
variable {B : Nat} {w : World} {g n : Nat} {xs : List Bool}
theorem OwnT.len (h : OwnT B w (some ⟨g, 0, none⟩) n n xs) : xs.length = n := by simpa using h.1
theorem OwnT.cell (h : OwnT B w (some ⟨g, 0, none⟩) n n xs) {i : Nat} (hi : i < n) : w.cell? ⟨g, i, none⟩ = some (.bool (xs.getD i false)) := by
  have hl := h.len
  rw [World.ownsRow.cellAt h i (by omega)]
  simp [List.getD, show i < xs.length by omega]
theorem OwnT.frozen (h : OwnT B w (some ⟨g, 0, none⟩) n n xs) (i : Nat) : w.frozen? ⟨g, i, none⟩ = false := World.ownsRow.frozenAt h i
theorem OwnT.set (h : OwnT B w (some ⟨g, 0, none⟩) n n xs) (i : Nat) (b : Bool) : OwnT B (w.setCell ⟨g, i, none⟩ (.bool b)) (some ⟨g, 0, none⟩) n n (xs.set i b) := by
  have := (World.ownsRow.stored h i (.bool b)).1
  unfold OwnT
  rw [List.map_set]
  exact this
end
theorem ixB (g n : Nat) (i : Nat) (z : Int) (hz : z = i) (hi : i < n) (W : World) : (Instr.indexAt 37 (.slice (some ⟨g, 0, none⟩) n n) (.int .i64 z)).run Try.prog W = .ok (.pointer (some ⟨g, i, none⟩)) W := by
  subst hz
  obtain ⟨inf, hinf, hs⟩ := Option.map_eq_some_iff.1 sizeB
  have h1 : (0 : Int) ≤ (i : Int) ∧ (i : Int) < (n : Int) := by omega
  have e := pt_own g i
  simp only [pt, Option.getD_some] at e
  simp [Instr.indexAt, run_underlying Try.underlying37, asIntOf, sizeOf, typeInfo, hinf, hs, hi, e]

/-- A slice of slices of ints reads as the lists ls. -/
structure Rks (w : World) (ao : Option Addr) (n c : Nat) (ls : List (List Int)) : Prop where
  len : ls.length = n
  cap : n ≤ c
  room : c ≤ 9223372036854775807
  isSome : 0 < n → ∃ a, ao = some a
  cell : ∀ i, i < n → ∃ bo m d, w.cell? (pt ao i) = some (.slice bo m d) ∧ Lst .i64 w bo m d (ls.getD i []) ∧ (bo = none → d = 0)
theorem Rks.below {w w' : World} {ao : Option Addr} {n c : Nat} {ls : List (List Int)} (h : Rks w ao n c ls) (hb : Below w.heap.size w w') : Rks w' ao n c ls :=
  ⟨h.len, h.cap, h.room, h.isSome, fun i hi => by
    obtain ⟨bo, m, d, h1, h2, h3⟩ := h.cell i hi
    exact ⟨bo, m, d, (hb.cell (World.block_lt_of_cell? w _ h1)).trans h1, h2.below hb, h3⟩⟩
theorem ixR {w : World} {ao : Option Addr} {n c : Nat} {ls : List (List Int)} (h : Rks w ao n c ls) (i : Nat) (z : Int) (hz : z = i) (hi : i < n) (W : World) :
    (Instr.indexAt 25 (.slice ao n c) (.int .i64 z)).run Try.prog W = .ok (.pointer (some (pt ao i))) W := by
  subst hz
  obtain ⟨a, rfl⟩ := h.isSome (by omega)
  obtain ⟨inf, hinf, hs⟩ := Option.map_eq_some_iff.1 sizeR
  have h1 : (0 : Int) ≤ (i : Int) ∧ (i : Int) < (n : Int) := by omega
  simp [Instr.indexAt, run_underlying Try.underlying25, asIntOf, sizeOf, typeInfo, hinf, hs, pt, hi]
/-- Values that are slices of ints, which read as these lists. -/
def LsV (w : World) : List (List Int) → List Value → Prop
  | [], us => us = []
  | l :: ls, us => ∃ bo m d r, us = .slice bo m d :: r ∧ Lst .i64 w bo m d l ∧ (bo = none → d = 0) ∧ LsV w ls r
theorem LsV.below {w w' : World} (hb : Below w.heap.size w w') : ∀ {ls : List (List Int)} {us : List Value}, LsV w ls us → LsV w' ls us
  | [], _, h => h
  | _ :: _, _, ⟨bo, m, d, r, h1, h2, h3, h4⟩ => ⟨bo, m, d, r, h1, h2.below hb, h3, h4.below hb⟩
theorem LsV.snoc {w : World} {bo : Option Addr} {m d : Nat} {l : List Int} (hl : Lst .i64 w bo m d l) (h0 : bo = none → d = 0) : ∀ {ls : List (List Int)} {us : List Value}, LsV w ls us → LsV w (ls ++ [l]) (us ++ [.slice bo m d])
  | [], us, h => by
    have : us = [] := h
    subst this
    exact ⟨bo, m, d, [], rfl, hl, h0, rfl⟩
  | _ :: _, _, ⟨bo', m', d', r, h1, h2, h3, h4⟩ => by
    subst h1
    exact ⟨bo', m', d', _, rfl, h2, h3, LsV.snoc hl h0 h4⟩
theorem LsV.len {w : World} : ∀ {ls : List (List Int)} {us : List Value}, LsV w ls us → us.length = ls.length
  | [], _, h => by
    have : _ = [] := h
    subst this
    rfl
  | _ :: _, _, ⟨_, _, _, _, h1, _, _, h4⟩ => by
    subst h1
    simp [h4.len]
theorem LsV.at {w : World} : ∀ {ls : List (List Int)} {us : List Value}, LsV w ls us → ∀ i, i < ls.length → ∃ bo m d, us[i]? = some (.slice bo m d) ∧ Lst .i64 w bo m d (ls.getD i []) ∧ (bo = none → d = 0)
  | [], _, _, i, hi => by cases hi
  | _ :: _, _, ⟨bo, m, d, _, h1, h2, h3, _⟩, 0, _ => by
    subst h1
    exact ⟨bo, m, d, rfl, h2, h3⟩
  | _ :: _, _, ⟨_, _, _, _, h1, _, _, h4⟩, i + 1, hi => by
    subst h1
    obtain ⟨bo, m, d, e1, e2, e3⟩ := h4.at i (by simpa using hi)
    exact ⟨bo, m, d, by simpa using e1, by simpa using e2, e3⟩
/-- A slice of slices that the call owns reads as lists. -/
theorem rks_own {B : Nat} {w : World} {ao : Option Addr} {n c : Nat} {us : List Value} {ls : List (List Int)} (h : w.ownsRow B 32 1 (.slice ao n c) n us) (hv : LsV w ls us) : Rks w ao n c ls := by
  have h1 : us.length = n := by have := h.1; simpa using this
  have h2 := hv.len
  have hr : n ≤ c ∧ c ≤ 9223372036854775807 ∧ (0 < n → ∃ a, ao = some a) := by
    rcases h.2 with ⟨hv', h0⟩ | ⟨g, cap, cur, hv', _, _, hn, hcm, _⟩
    · injection hv' with h1 h2 h3
      exact ⟨by omega, by omega, fun h => by omega⟩
    · injection hv' with h1 h2 h3
      subst h1; subst h3
      unfold maxLen at hcm
      exact ⟨hn, by omega, fun _ => ⟨_, rfl⟩⟩
  refine ⟨by omega, hr.1, hr.2.1, hr.2.2, fun i hi => ?_⟩
  obtain ⟨bo, m, d, e1, e2, e3⟩ := hv.at i (by omega)
  refine ⟨bo, m, d, ?_, e2, e3⟩
  rcases h.2 with ⟨_, h0⟩ | ⟨g, cap, cur, hv', _⟩
  · omega
  · injection hv' with g1 g2 g3
    subst g1; subst g3
    have := World.ownsRow.cellAt h i (by omega)
    rw [pt_own, this, ← e1, List.getElem?_eq_getElem (by omega)]

/-! Boxes. -/
theorem put_box9 {w : World} {g : Nat} {t : TypeId} {v0 v1 v2 v3 v4 v5 v6 v7 v8 : Value} (h : Arr w g t [v0, v1, v2, v3, v4, v5, v6, v7, v8]) (u0 u1 u2 u3 u4 u5 u6 u7 u8 : Value) : ∃ V, (((((((((w.setCell ⟨g, 0, none⟩ u0).setCell ⟨g, 1, none⟩ u1).setCell ⟨g, 2, none⟩ u2).setCell ⟨g, 3, none⟩ u3).setCell ⟨g, 4, none⟩ u4).setCell ⟨g, 5, none⟩ u5).setCell ⟨g, 6, none⟩ u6).setCell ⟨g, 7, none⟩ u7).setCell ⟨g, 8, none⟩ u8) = V ∧ Arr V g t [u0, u1, u2, u3, u4, u5, u6, u7, u8] ∧ w.grownBy V (some g) ∧ (∀ (B : Nat) (a : World), Below B a w → B ≤ g → Below B a V) ∧ w.cell? ⟨g, 0, none⟩ = some v0 ∧ w.frozen? ⟨g, 0, none⟩ = false ∧ (w.setCell ⟨g, 0, none⟩ u0).cell? ⟨g, 1, none⟩ = some v1 ∧ (w.setCell ⟨g, 0, none⟩ u0).frozen? ⟨g, 1, none⟩ = false ∧ ((w.setCell ⟨g, 0, none⟩ u0).setCell ⟨g, 1, none⟩ u1).cell? ⟨g, 2, none⟩ = some v2 ∧ ((w.setCell ⟨g, 0, none⟩ u0).setCell ⟨g, 1, none⟩ u1).frozen? ⟨g, 2, none⟩ = false ∧ (((w.setCell ⟨g, 0, none⟩ u0).setCell ⟨g, 1, none⟩ u1).setCell ⟨g, 2, none⟩ u2).cell? ⟨g, 3, none⟩ = some v3 ∧ (((w.setCell ⟨g, 0, none⟩ u0).setCell ⟨g, 1, none⟩ u1).setCell ⟨g, 2, none⟩ u2).frozen? ⟨g, 3, none⟩ = false ∧ ((((w.setCell ⟨g, 0, none⟩ u0).setCell ⟨g, 1, none⟩ u1).setCell ⟨g, 2, none⟩ u2).setCell ⟨g, 3, none⟩ u3).cell? ⟨g, 4, none⟩ = some v4 ∧ ((((w.setCell ⟨g, 0, none⟩ u0).setCell ⟨g, 1, none⟩ u1).setCell ⟨g, 2, none⟩ u2).setCell ⟨g, 3, none⟩ u3).frozen? ⟨g, 4, none⟩ = false ∧ (((((w.setCell ⟨g, 0, none⟩ u0).setCell ⟨g, 1, none⟩ u1).setCell ⟨g, 2, none⟩ u2).setCell ⟨g, 3, none⟩ u3).setCell ⟨g, 4, none⟩ u4).cell? ⟨g, 5, none⟩ = some v5 ∧ (((((w.setCell ⟨g, 0, none⟩ u0).setCell ⟨g, 1, none⟩ u1).setCell ⟨g, 2, none⟩ u2).setCell ⟨g, 3, none⟩ u3).setCell ⟨g, 4, none⟩ u4).frozen? ⟨g, 5, none⟩ = false ∧ ((((((w.setCell ⟨g, 0, none⟩ u0).setCell ⟨g, 1, none⟩ u1).setCell ⟨g, 2, none⟩ u2).setCell ⟨g, 3, none⟩ u3).setCell ⟨g, 4, none⟩ u4).setCell ⟨g, 5, none⟩ u5).cell? ⟨g, 6, none⟩ = some v6 ∧ ((((((w.setCell ⟨g, 0, none⟩ u0).setCell ⟨g, 1, none⟩ u1).setCell ⟨g, 2, none⟩ u2).setCell ⟨g, 3, none⟩ u3).setCell ⟨g, 4, none⟩ u4).setCell ⟨g, 5, none⟩ u5).frozen? ⟨g, 6, none⟩ = false ∧ (((((((w.setCell ⟨g, 0, none⟩ u0).setCell ⟨g, 1, none⟩ u1).setCell ⟨g, 2, none⟩ u2).setCell ⟨g, 3, none⟩ u3).setCell ⟨g, 4, none⟩ u4).setCell ⟨g, 5, none⟩ u5).setCell ⟨g, 6, none⟩ u6).cell? ⟨g, 7, none⟩ = some v7 ∧ (((((((w.setCell ⟨g, 0, none⟩ u0).setCell ⟨g, 1, none⟩ u1).setCell ⟨g, 2, none⟩ u2).setCell ⟨g, 3, none⟩ u3).setCell ⟨g, 4, none⟩ u4).setCell ⟨g, 5, none⟩ u5).setCell ⟨g, 6, none⟩ u6).frozen? ⟨g, 7, none⟩ = false ∧ ((((((((w.setCell ⟨g, 0, none⟩ u0).setCell ⟨g, 1, none⟩ u1).setCell ⟨g, 2, none⟩ u2).setCell ⟨g, 3, none⟩ u3).setCell ⟨g, 4, none⟩ u4).setCell ⟨g, 5, none⟩ u5).setCell ⟨g, 6, none⟩ u6).setCell ⟨g, 7, none⟩ u7).cell? ⟨g, 8, none⟩ = some v8 ∧ ((((((((w.setCell ⟨g, 0, none⟩ u0).setCell ⟨g, 1, none⟩ u1).setCell ⟨g, 2, none⟩ u2).setCell ⟨g, 3, none⟩ u3).setCell ⟨g, 4, none⟩ u4).setCell ⟨g, 5, none⟩ u5).setCell ⟨g, 6, none⟩ u6).setCell ⟨g, 7, none⟩ u7).frozen? ⟨g, 8, none⟩ = false :=
  ⟨_, rfl, (((((((((h.set 0 u0).set 1 u1).set 2 u2).set 3 u3).set 4 u4).set 5 u5).set 6 u6).set 7 u7).set 8 u8), grown_trans (grown_trans (grown_trans (grown_trans (grown_trans (grown_trans (grown_trans (grown_trans (set_grown w g 0 u0) (set_grown _ g 1 u1)) (set_grown _ g 2 u2)) (set_grown _ g 3 u3)) (set_grown _ g 4 u4)) (set_grown _ g 5 u5)) (set_grown _ g 6 u6)) (set_grown _ g 7 u7)) (set_grown _ g 8 u8), fun _ _ hb hg => (((((((((hb.setCell (p := ⟨_, 0, none⟩) hg u0).setCell (p := ⟨_, 1, none⟩) hg u1).setCell (p := ⟨_, 2, none⟩) hg u2).setCell (p := ⟨_, 3, none⟩) hg u3).setCell (p := ⟨_, 4, none⟩) hg u4).setCell (p := ⟨_, 5, none⟩) hg u5).setCell (p := ⟨_, 6, none⟩) hg u6).setCell (p := ⟨_, 7, none⟩) hg u7).setCell (p := ⟨_, 8, none⟩) hg u8), h.cell 0, h.frozen 0, (h.set 0 u0).cell 1, (h.set 0 u0).frozen 1, ((h.set 0 u0).set 1 u1).cell 2, ((h.set 0 u0).set 1 u1).frozen 2, (((h.set 0 u0).set 1 u1).set 2 u2).cell 3, (((h.set 0 u0).set 1 u1).set 2 u2).frozen 3, ((((h.set 0 u0).set 1 u1).set 2 u2).set 3 u3).cell 4, ((((h.set 0 u0).set 1 u1).set 2 u2).set 3 u3).frozen 4, (((((h.set 0 u0).set 1 u1).set 2 u2).set 3 u3).set 4 u4).cell 5, (((((h.set 0 u0).set 1 u1).set 2 u2).set 3 u3).set 4 u4).frozen 5, ((((((h.set 0 u0).set 1 u1).set 2 u2).set 3 u3).set 4 u4).set 5 u5).cell 6, ((((((h.set 0 u0).set 1 u1).set 2 u2).set 3 u3).set 4 u4).set 5 u5).frozen 6, (((((((h.set 0 u0).set 1 u1).set 2 u2).set 3 u3).set 4 u4).set 5 u5).set 6 u6).cell 7, (((((((h.set 0 u0).set 1 u1).set 2 u2).set 3 u3).set 4 u4).set 5 u5).set 6 u6).frozen 7, ((((((((h.set 0 u0).set 1 u1).set 2 u2).set 3 u3).set 4 u4).set 5 u5).set 6 u6).set 7 u7).cell 8, ((((((((h.set 0 u0).set 1 u1).set 2 u2).set 3 u3).set 4 u4).set 5 u5).set 6 u6).set 7 u7).frozen 8⟩
theorem box_let9 {w : World} {g : Nat} {t : TypeId} {v0 v1 v2 v3 v4 v5 v6 v7 v8 : Value} (h : Arr w g t [v0, v1, v2, v3, v4, v5, v6, v7, v8]) (u0 u1 u2 u3 u4 u5 u6 u7 u8 : Value) : ∃ Z0 Z1 Z2 Z3 Z4 Z5 Z6 Z7 Z8, w.setCell ⟨g, 0, none⟩ u0 = Z0 ∧ Z0.setCell ⟨g, 1, none⟩ u1 = Z1 ∧ Z1.setCell ⟨g, 2, none⟩ u2 = Z2 ∧ Z2.setCell ⟨g, 3, none⟩ u3 = Z3 ∧ Z3.setCell ⟨g, 4, none⟩ u4 = Z4 ∧ Z4.setCell ⟨g, 5, none⟩ u5 = Z5 ∧ Z5.setCell ⟨g, 6, none⟩ u6 = Z6 ∧ Z6.setCell ⟨g, 7, none⟩ u7 = Z7 ∧ Z7.setCell ⟨g, 8, none⟩ u8 = Z8 ∧ Arr Z8 g t [u0, u1, u2, u3, u4, u5, u6, u7, u8] ∧ w.grownBy Z8 (some g) ∧ (∀ (B : Nat) (a : World), Below B a w → B ≤ g → Below B a Z8) ∧ w.cell? ⟨g, 0, none⟩ = some v0 ∧ w.frozen? ⟨g, 0, none⟩ = false ∧ Z0.cell? ⟨g, 1, none⟩ = some v1 ∧ Z0.frozen? ⟨g, 1, none⟩ = false ∧ Z1.cell? ⟨g, 2, none⟩ = some v2 ∧ Z1.frozen? ⟨g, 2, none⟩ = false ∧ Z2.cell? ⟨g, 3, none⟩ = some v3 ∧ Z2.frozen? ⟨g, 3, none⟩ = false ∧ Z3.cell? ⟨g, 4, none⟩ = some v4 ∧ Z3.frozen? ⟨g, 4, none⟩ = false ∧ Z4.cell? ⟨g, 5, none⟩ = some v5 ∧ Z4.frozen? ⟨g, 5, none⟩ = false ∧ Z5.cell? ⟨g, 6, none⟩ = some v6 ∧ Z5.frozen? ⟨g, 6, none⟩ = false ∧ Z6.cell? ⟨g, 7, none⟩ = some v7 ∧ Z6.frozen? ⟨g, 7, none⟩ = false ∧ Z7.cell? ⟨g, 8, none⟩ = some v8 ∧ Z7.frozen? ⟨g, 8, none⟩ = false := by
  obtain ⟨V, e, A, G, L, r⟩ := put_box9 h u0 u1 u2 u3 u4 u5 u6 u7 u8
  subst e
  exact ⟨_, _, _, _, _, _, _, _, _, rfl, rfl, rfl, rfl, rfl, rfl, rfl, rfl, rfl, A, G, L, r⟩
theorem put_box2 {w : World} {g : Nat} {t : TypeId} {v0 v1 : Value} (h : Arr w g t [v0, v1]) (u0 u1 : Value) : ∃ V, ((w.setCell ⟨g, 0, none⟩ u0).setCell ⟨g, 1, none⟩ u1) = V ∧ Arr V g t [u0, u1] ∧ w.grownBy V (some g) ∧ (∀ (B : Nat) (a : World), Below B a w → B ≤ g → Below B a V) ∧ w.cell? ⟨g, 0, none⟩ = some v0 ∧ w.frozen? ⟨g, 0, none⟩ = false ∧ (w.setCell ⟨g, 0, none⟩ u0).cell? ⟨g, 1, none⟩ = some v1 ∧ (w.setCell ⟨g, 0, none⟩ u0).frozen? ⟨g, 1, none⟩ = false :=
  ⟨_, rfl, ((h.set 0 u0).set 1 u1), grown_trans (set_grown w g 0 u0) (set_grown _ g 1 u1), fun _ _ hb hg => ((hb.setCell (p := ⟨_, 0, none⟩) hg u0).setCell (p := ⟨_, 1, none⟩) hg u1), h.cell 0, h.frozen 0, (h.set 0 u0).cell 1, (h.set 0 u0).frozen 1⟩
theorem box_let2 {w : World} {g : Nat} {t : TypeId} {v0 v1 : Value} (h : Arr w g t [v0, v1]) (u0 u1 : Value) : ∃ Z0 Z1, w.setCell ⟨g, 0, none⟩ u0 = Z0 ∧ Z0.setCell ⟨g, 1, none⟩ u1 = Z1 ∧ Arr Z1 g t [u0, u1] ∧ w.grownBy Z1 (some g) ∧ (∀ (B : Nat) (a : World), Below B a w → B ≤ g → Below B a Z1) ∧ w.cell? ⟨g, 0, none⟩ = some v0 ∧ w.frozen? ⟨g, 0, none⟩ = false ∧ Z0.cell? ⟨g, 1, none⟩ = some v1 ∧ Z0.frozen? ⟨g, 1, none⟩ = false := by
  obtain ⟨V, e, A, G, L, r⟩ := put_box2 h u0 u1
  subst e
  exact ⟨_, _, rfl, rfl, A, G, L, r⟩
end Go.Proofs.Ytjpkbaidgddhnaa
