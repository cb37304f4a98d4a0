/-
  Definitions in memory: slices of strings, of fields, of blocks; what becomes of them where other blocks turn.
-/
import Derived.Test.YtfknckbclddnmaaLexTokAt
import Derived.Test.YtfknckbclddnmaaSynMath
namespace Go.Proofs.Ytfknckbclddnmaa
open Go.RowKit Lx

/-- What may be said of a block that stays true as long as the block stays. -/
def Stable (S : World → Nat → Prop) : Prop := ∀ (w w' : World) (k : Nat), k < w.heap.size → w'.heap[k]? = w.heap[k]? → S w k → S w' k
/-- The blocks of S stay. -/
def Keeps (S : World → Nat → Prop) (w w' : World) : Prop := ∀ k, k < w.heap.size → S w k → w'.heap[k]? = w.heap[k]?
def anyF : World → Nat → Prop := fun _ _ => True
/-- Rows of these types, from block lo on. -/
def ownF (lo : Nat) (Es : List TypeId) : World → Nat → Prop := fun w k => lo ≤ k ∧ ∃ E ∈ Es, ∃ cs fz, w.heap[k]? = some (.cells cs E fz)
theorem stable_any : Stable anyF := fun _ _ _ _ _ _ => trivial
theorem stable_own (lo : Nat) (Es : List TypeId) : Stable (ownF lo Es) := fun w w' k _ he ⟨h1, E, hE, cs, fz, h⟩ => ⟨h1, E, hE, cs, fz, he.trans h⟩
theorem keeps_below (S : World → Nat → Prop) {w w' : World} (h : Below w.heap.size w w') : Keeps S w w' := fun k hk _ => h.block k hk
theorem keeps_grown {S : World → Nat → Prop} {w w' : World} {row : Option Nat} (h : w.grownBy w' row) (hS : ∀ k, S w k → row ≠ some k) : Keeps S w w' := fun k hk hs => h.block k hk (fun e => hS k hs e.symm)
theorem keeps_older {lo g : Nat} {Es : List TypeId} {w w' : World} (h : w.grownBy w' (some g)) (hg : g < lo) : Keeps (ownF lo Es) w w' := keeps_grown h (fun k hs e => by injection e with e; have := hs.1; omega)
theorem keeps_row {lo B : Nat} {E : TypeId} {s n : Nat} {v : Value} {us : List Value} {Es : List TypeId} {w w' : World} (hO : w.ownsRow B E s v n us) (h : w.grownBy w' v.ownBlock) (hE : E ∉ Es) : Keeps (ownF lo Es) w w' := by
  refine keeps_grown h (fun k ⟨_, E', hE', cs, fz, hk⟩ e => ?_)
  rcases hO.2 with ⟨hv, _⟩ | ⟨g, cap, cur, hv, _, hh, _⟩
  · rw [hv] at e; cases e
  · rw [hv] at e
    have e' : some g = some k := e
    injection e' with e'
    subst e'
    rw [hh] at hk
    injection hk with hk
    injection hk with _ h2 _
    exact hE (h2 ▸ hE')
theorem keeps_set {S : World → Nat → Prop} {w : World} {p : Addr} (u : Value) (hS : ∀ k, S w k → p.block ≠ k) : Keeps S w (w.setCell p u) := fun k _ hs => Below.heap_setCell w _ u k (fun e => hS k hs (by rw [e]))
theorem keeps_set_kind {lo : Nat} {Es : List TypeId} {w : World} {g i : Nat} {T : TypeId} {cs : List Value} (h : Arr w g T cs) (hT : T ∉ Es) (u : Value) : Keeps (ownF lo Es) w (w.setCell ⟨g, i, none⟩ u) := by
  refine keeps_set u (fun k ⟨_, E', hE', cs', fz, hk⟩ e => ?_)
  have e' : g = k := e
  subst e'
  rw [show w.heap[g]? = _ from h] at hk
  injection hk with hk
  injection hk with _ h2 _
  exact hT (h2 ▸ hE')
theorem Keeps.trans {S : World → Nat → Prop} (hS : Stable S) {a b d : World} (h : Keeps S a b) (hz : a.heap.size ≤ b.heap.size) (k : Keeps S b d) : Keeps S a d :=
  fun j hj hs => (k j (Nat.lt_of_lt_of_le hj hz) (hS a b j hj (h j hj hs) hs)).trans (h j hj hs)

/-- A slice reads as the cells us, s cells an element, in blocks of S. -/
structure Row (S : World → Nat → Prop) (s : Nat) (w : World) (ao : Option Addr) (n c : Nat) (us : List Value) : Prop where
  len : us.length = n * s
  cap : n ≤ c
  room : c ≤ 9223372036854775807
  isSome : 0 < n → ∃ a, ao = some a
  cell : ∀ i u, us[i]? = some u → w.cell? (pt ao i) = some u ∧ S w (pt ao i).block
section
variable {S T : World → Nat → Prop} {s n c : Nat} {w w' : World} {ao : Option Addr} {us : List Value}
theorem Row.keep (h : Row S s w ao n c us) (hS : Stable S) (hk : Keeps S w w') : Row S s w' ao n c us :=
  ⟨h.len, h.cap, h.room, h.isSome, fun i u hu => by
    obtain ⟨h1, h2⟩ := h.cell i u hu
    have hb := World.block_lt_of_cell? w _ h1
    have he := hk _ hb h2
    exact ⟨(World.cell?_of_block he).trans h1, hS w w' _ hb he h2⟩⟩
theorem Row.mono (h : Row S s w ao n c us) (hm : ∀ k, S w k → T w k) : Row T s w ao n c us := ⟨h.len, h.cap, h.room, h.isSome, fun i u hu => ⟨(h.cell i u hu).1, hm _ (h.cell i u hu).2⟩⟩
theorem Row.nil (S : World → Nat → Prop) (s : Nat) (w : World) : Row S s w none 0 0 [] := ⟨by simp, Nat.le_refl _, by omega, fun h => absurd h (by omega), fun i u hu => by simp at hu⟩
theorem Row.own {B : Nat} {E : TypeId} (h : w.ownsRow B E s (.slice ao n c) n us) (hs : 0 < s) : Row (ownF B [E]) s w ao n c us := by
  have hl := h.1
  rcases h.2 with ⟨hv, h0⟩ | ⟨g, cap, cur, hv, hg, hh, hn, hc, hz, ht⟩
  · injection hv with h1 h2 h3
    subst h1 h2 h3
    have : us = [] := List.eq_nil_of_length_eq_zero (by omega)
    subst this
    exact Row.nil _ _ _
  · injection hv with h1 h2 h3
    subst h1; subst h3
    refine ⟨hl, hn, by unfold maxLen at hc; omega, fun _ => ⟨_, rfl⟩, fun i u hu => ?_⟩
    rw [pt_own]
    have hi : i < us.length := (List.getElem?_eq_some_iff.1 hu).1
    have := cell_of_row w g i _ _ _ hh
    refine ⟨?_, hg, E, List.mem_singleton.2 rfl, _, _, hh⟩
    rw [this, ← hu, ← ht, List.getElem?_take, if_pos (by omega), Array.getElem?_toList]
end
theorem run_ix {T E : TypeId} {s : Nat} (ht : Try.prog.underlying T = some (.slice E)) (he : (Try.prog.info? E).map (·.size) = some s) {S : World → Nat → Prop} {w : World} {ao : Option Addr} {n c : Nat} {us : List Value} (h : Row S s w ao n c us) (i : Nat) (hi : i < n) (W : World) :
    (Instr.indexAt T (.slice ao n c) (.int .i64 (i : Int))).run Try.prog W = .ok (.pointer (some (pt ao (i * s)))) W := by
  obtain ⟨a, rfl⟩ := h.isSome (by omega)
  obtain ⟨inf, hinf, hs⟩ := Option.map_eq_some_iff.1 he
  have h1 : (0 : Int) ≤ (i : Int) ∧ (i : Int) < (n : Int) := by omega
  simp [Instr.indexAt, run_underlying ht, asIntOf, sizeOf, typeInfo, hinf, hs, pt, hi]

/-! Strings, fields, blocks. -/
/-- A slice of strings reads as these texts. -/
def StrL (S : World → Nat → Prop) (w : World) (ao : Option Addr) (n c : Nat) (vs : List (List UInt8)) : Prop := Row S 1 w ao n c (vs.map fun v => .string (stg v))
/-- Cells that read as fields; q: with their lines. -/
def FCells (q : Bool) (S : World → Nat → Prop) (w : World) : List Fld → List Value → Prop
  | [], us => us = []
  | f :: fs, us => ∃ vo vn vc z r, us = .string (stg f.key) :: .slice vo vn vc :: .int .i64 z :: r ∧ StrL S w vo vn vc f.vals ∧ (q = true → z = (f.line : Int)) ∧ FCells q S w fs r
def FldL (q : Bool) (S : World → Nat → Prop) (w : World) (ao : Option Addr) (n c : Nat) (fs : List Fld) : Prop := ∃ us, Row S 3 w ao n c us ∧ FCells q S w fs us
def BCells (q : Bool) (S : World → Nat → Prop) (w : World) : List Blc → List Value → Prop
  | [], us => us = []
  | b :: bs, us => ∃ fo fn fc z r, us = .string (stg b.kind) :: .string (stg b.name) :: .slice fo fn fc :: .int .i64 z :: r ∧ FldL q S w fo fn fc b.flds ∧ (q = true → z = (b.line : Int)) ∧ BCells q S w bs r
def BlkL (q : Bool) (S : World → Nat → Prop) (w : World) (ao : Option Addr) (n c : Nat) (bs : List Blc) : Prop := ∃ us, Row S 4 w ao n c us ∧ BCells q S w bs us
section
variable {q : Bool} {S T : World → Nat → Prop} {n c : Nat} {w w' : World} {ao : Option Addr} {us : List Value}
theorem FCells.keep (hS : Stable S) (hk : Keeps S w w') : ∀ {fs : List Fld} {us : List Value}, FCells q S w fs us → FCells q S w' fs us
  | [], _, h => h
  | _ :: _, _, ⟨vo, vn, vc, z, r, h1, h2, h3, h4⟩ => ⟨vo, vn, vc, z, r, h1, Row.keep h2 hS hk, h3, FCells.keep hS hk h4⟩
theorem FCells.mono (hm : ∀ k, S w k → T w k) : ∀ {fs : List Fld} {us : List Value}, FCells q S w fs us → FCells q T w fs us
  | [], _, h => h
  | _ :: _, _, ⟨vo, vn, vc, z, r, h1, h2, h3, h4⟩ => ⟨vo, vn, vc, z, r, h1, Row.mono h2 hm, h3, FCells.mono hm h4⟩
theorem FCells.append : ∀ {fs : List Fld} {us : List Value} {gs : List Fld} {vs : List Value}, FCells q S w fs us → FCells q S w gs vs → FCells q S w (fs ++ gs) (us ++ vs)
  | [], _, _, _, h, k => by
    have : _ = [] := h
    subst this
    exact k
  | _ :: _, _, _, _, ⟨vo, vn, vc, z, r, h1, h2, h3, h4⟩, k => by
    subst h1
    exact ⟨vo, vn, vc, z, _, rfl, h2, h3, FCells.append h4 k⟩
theorem FCells.len : ∀ {fs : List Fld} {us : List Value}, FCells q S w fs us → us.length = fs.length * 3
  | [], _, h => by
    have : _ = [] := h
    subst this
    rfl
  | _ :: fs, _, ⟨vo, vn, vc, z, r, h1, _, _, h4⟩ => by
    subst h1
    have := FCells.len h4
    simp only [List.length_cons]
    omega
theorem FCells.at : ∀ {fs : List Fld} {us : List Value}, FCells q S w fs us → ∀ (i : Nat) (f : Fld), fs[i]? = some f → us[i * 3]? = some (.string (stg f.key)) ∧ (∃ vo vn vc, us[i * 3 + 1]? = some (.slice vo vn vc) ∧ StrL S w vo vn vc f.vals) ∧ ∃ z, us[i * 3 + 2]? = some (.int .i64 z) ∧ (q = true → z = (f.line : Int))
  | [], _, _, i, f, hf => by simp at hf
  | g :: fs, _, ⟨vo, vn, vc, z, r, h1, h2, h3, h4⟩, 0, f, hf => by
    have : g = f := by simpa using hf
    subst this
    subst h1
    exact ⟨rfl, ⟨vo, vn, vc, rfl, h2⟩, z, rfl, h3⟩
  | g :: fs, _, ⟨vo, vn, vc, z, r, h1, h2, h3, h4⟩, i + 1, f, hf => by
    subst h1
    have := FCells.at h4 i f (by simpa using hf)
    rw [show (i + 1) * 3 = i * 3 + 3 by omega]
    exact this
theorem FldL.keep {fs : List Fld} (h : FldL q S w ao n c fs) (hS : Stable S) (hk : Keeps S w w') : FldL q S w' ao n c fs := by
  obtain ⟨us, h1, h2⟩ := h
  exact ⟨us, h1.keep hS hk, h2.keep hS hk⟩
theorem FldL.mono {fs : List Fld} (h : FldL q S w ao n c fs) (hm : ∀ k, S w k → T w k) : FldL q T w ao n c fs := by
  obtain ⟨us, h1, h2⟩ := h
  exact ⟨us, h1.mono hm, h2.mono hm⟩
theorem FldL.len {fs : List Fld} (h : FldL q S w ao n c fs) : fs.length = n := by
  obtain ⟨us, h1, h2⟩ := h
  have a := h1.len
  have b := h2.len
  omega
theorem BCells.keep (hS : Stable S) (hk : Keeps S w w') : ∀ {bs : List Blc} {us : List Value}, BCells q S w bs us → BCells q S w' bs us
  | [], _, h => h
  | _ :: _, _, ⟨vo, vn, vc, z, r, h1, h2, h3, h4⟩ => ⟨vo, vn, vc, z, r, h1, FldL.keep h2 hS hk, h3, BCells.keep hS hk h4⟩
theorem BCells.mono (hm : ∀ k, S w k → T w k) : ∀ {bs : List Blc} {us : List Value}, BCells q S w bs us → BCells q T w bs us
  | [], _, h => h
  | _ :: _, _, ⟨vo, vn, vc, z, r, h1, h2, h3, h4⟩ => ⟨vo, vn, vc, z, r, h1, FldL.mono h2 hm, h3, BCells.mono hm h4⟩
theorem BCells.append : ∀ {bs : List Blc} {us : List Value} {gs : List Blc} {vs : List Value}, BCells q S w bs us → BCells q S w gs vs → BCells q S w (bs ++ gs) (us ++ vs)
  | [], _, _, _, h, k => by
    have : _ = [] := h
    subst this
    exact k
  | _ :: _, _, _, _, ⟨vo, vn, vc, z, r, h1, h2, h3, h4⟩, k => by
    subst h1
    exact ⟨vo, vn, vc, z, _, rfl, h2, h3, BCells.append h4 k⟩
theorem BCells.len : ∀ {bs : List Blc} {us : List Value}, BCells q S w bs us → us.length = bs.length * 4
  | [], _, h => by
    have : _ = [] := h
    subst this
    rfl
  | _ :: bs, _, ⟨vo, vn, vc, z, r, h1, _, _, h4⟩ => by
    subst h1
    have := BCells.len h4
    simp only [List.length_cons]
    omega
theorem BCells.at : ∀ {bs : List Blc} {us : List Value}, BCells q S w bs us → ∀ (i : Nat) (b : Blc), bs[i]? = some b → us[i * 4]? = some (.string (stg b.kind)) ∧ us[i * 4 + 1]? = some (.string (stg b.name)) ∧ (∃ fo fn fc, us[i * 4 + 2]? = some (.slice fo fn fc) ∧ FldL q S w fo fn fc b.flds) ∧ ∃ z, us[i * 4 + 3]? = some (.int .i64 z) ∧ (q = true → z = (b.line : Int))
  | [], _, _, i, f, hf => by simp at hf
  | g :: fs, _, ⟨vo, vn, vc, z, r, h1, h2, h3, h4⟩, 0, f, hf => by
    have : g = f := by simpa using hf
    subst this
    subst h1
    exact ⟨rfl, rfl, ⟨vo, vn, vc, rfl, h2⟩, z, rfl, h3⟩
  | g :: fs, _, ⟨vo, vn, vc, z, r, h1, h2, h3, h4⟩, i + 1, f, hf => by
    subst h1
    have := BCells.at h4 i f (by simpa using hf)
    rw [show (i + 1) * 4 = i * 4 + 4 by omega]
    exact this
theorem BlkL.keep {bs : List Blc} (h : BlkL q S w ao n c bs) (hS : Stable S) (hk : Keeps S w w') : BlkL q S w' ao n c bs := by
  obtain ⟨us, h1, h2⟩ := h
  exact ⟨us, h1.keep hS hk, h2.keep hS hk⟩
theorem BlkL.mono {bs : List Blc} (h : BlkL q S w ao n c bs) (hm : ∀ k, S w k → T w k) : BlkL q T w ao n c bs := by
  obtain ⟨us, h1, h2⟩ := h
  exact ⟨us, h1.mono hm, h2.mono hm⟩
theorem BlkL.len {bs : List Blc} (h : BlkL q S w ao n c bs) : bs.length = n := by
  obtain ⟨us, h1, h2⟩ := h
  have a := h1.len
  have b := h2.len
  omega
theorem StrL.len {vs : List (List UInt8)} (h : StrL S w ao n c vs) : vs.length = n := by have := Row.len h; simpa using this
/-- Element i, as a walk asks for it. -/
theorem StrL.at {vs : List (List UInt8)} (h : StrL S w ao n c vs) (i : Nat) (v : List UInt8) (hv : vs[i]? = some v) : w.cell? (pt ao i) = some (.string (stg v)) :=
  (Row.cell h i _ (by rw [List.getElem?_map, hv]; rfl)).1
theorem pt_add (ao : Option Addr) (i j : Nat) : (pt ao i).add j = pt ao (i + j) := by
  unfold pt Addr.add
  generalize ao.getD ⟨0, 0, none⟩ = a
  obtain ⟨b, o, f⟩ := a
  cases i <;> cases j <;> simp [Nat.add_assoc]
theorem FldL.at {fs : List Fld} (h : FldL q S w ao n c fs) (i : Nat) (f : Fld) (hf : fs[i]? = some f) : w.cell? (pt ao (i * 3)) = some (.string (stg f.key)) ∧ (∃ vo vn vc, w.cell? (pt ao (i * 3 + 1)) = some (.slice vo vn vc) ∧ StrL S w vo vn vc f.vals) ∧ ∃ z, w.cell? (pt ao (i * 3 + 2)) = some (.int .i64 z) ∧ (q = true → z = (f.line : Int)) := by
  obtain ⟨us, h1, h2⟩ := h
  obtain ⟨a, ⟨vo, vn, vc, b1, b2⟩, z, d1, d2⟩ := h2.at i f hf
  exact ⟨(h1.cell _ _ a).1, ⟨vo, vn, vc, (h1.cell _ _ b1).1, b2⟩, z, (h1.cell _ _ d1).1, d2⟩
theorem BlkL.at {bs : List Blc} (h : BlkL q S w ao n c bs) (i : Nat) (b : Blc) (hb : bs[i]? = some b) : w.cell? (pt ao (i * 4)) = some (.string (stg b.kind)) ∧ w.cell? (pt ao (i * 4 + 1)) = some (.string (stg b.name)) ∧ (∃ fo fn fc, w.cell? (pt ao (i * 4 + 2)) = some (.slice fo fn fc) ∧ FldL q S w fo fn fc b.flds) ∧ ∃ z, w.cell? (pt ao (i * 4 + 3)) = some (.int .i64 z) ∧ (q = true → z = (b.line : Int)) := by
  obtain ⟨us, h1, h2⟩ := h
  obtain ⟨a, a2, ⟨vo, vn, vc, b1, b2⟩, z, d1, d2⟩ := h2.at i b hb
  exact ⟨(h1.cell _ _ a).1, (h1.cell _ _ a2).1, ⟨vo, vn, vc, (h1.cell _ _ b1).1, b2⟩, z, (h1.cell _ _ d1).1, d2⟩
end

/-! Appends. -/
section
variable {w : World} {ops : Array Oper} {rest : List Oper} {a : Act} {Q : Exit → Act → World → Prop} {d : Option Tmp} {p q : Operand} {ty : TypeId} {pos : String} {after : Array Edge}
/-- One element, in a slice that has just been made, is appended to a row that the call owns. -/
theorem wpList_appR {T E : TypeId} {s bytes : Nat} {z : Value} (ht : Try.prog.underlying T = some (.slice E)) (hinfo : (Try.prog.info? E).map (fun i => (i.zero, i.size, i.bytes)) = some (some z, s, bytes)) (hzs : z.cells.size = s) (hs : 0 < s) (hby : bytes ≤ 64)
    {B : Nat} {ao : Option Addr} {n c : Nat} {us vs : List Value} (hO : w.ownsRow B E s (.slice ao n c) n us) (hB : B ≤ w.heap.size) (hn : n ≤ 1048576) (hv : vs.length = s) (h1 : ∀ u ∈ vs, u.oneCell' = true)
    (hp : a.eval p = .slice ao n c) (hq : a.eval q = .slice (some ⟨w.heap.size, 0, none⟩) 1 1)
    (h : ∀ ao' c' w', w'.ownsRow B E s (.slice ao' (n + 1) c') (n + 1) (us ++ vs) → w.grownBy w' (Value.slice ao n c).ownBlock → Below B w w' → wpList Try.prog ops Q rest (a.put d (.slice ao' (n + 1) c')) w') :
    wpList Try.prog ops Q (⟨d, .call { callee := .builtin .append, args := #[p, q], argTypes := #[T, T] }, ty, pos, after, none⟩ :: rest) a (w.alloc (.cells vs.toArray E)) := by
  obtain ⟨i0, hi, hz0, hz1, hz2⟩ := info_parts hinfo
  have b1 : Below w.heap.size w (w.alloc (.cells vs.toArray E)) := (Below.refl _ _).alloc (Nat.le_refl _) _
  have g1 : w.grownBy (w.alloc (.cells vs.toArray E)) (Value.slice ao n c).ownBlock := ⟨b1.os, b1.tape, b1.output, b1.size, fun k hk _ => b1.block k hk⟩
  have hnew : Arr (w.alloc (.cells vs.toArray E)) w.heap.size E vs := Arr.new w _ vs
  have hO1 : (w.alloc (.cells vs.toArray E)).ownsRow B E s (.slice ao n c) n us := World.ownsRow.kept (row := none) hO ⟨b1.os, b1.tape, b1.output, b1.size, fun j hj _ => b1.block j hj⟩ (by cases (Value.slice ao n c).ownBlock <;> simp)
  have hbb : (n + 1) * bytes ≤ (1048576 + 1) * 64 := Nat.mul_le_mul (by omega) hby
  refine wpList_append_own _ rfl p q T rfl B E i0 z s bytes ht hi hz0 hz1 hz2 hzs hs _ n _ hp hO1 ⟨w.heap.size, 0, none⟩ 1 1 vs hq (by omega) ?_ h1 (by unfold maxLen; omega) (by omega) (by simp; omega) ?_
  · intro j u hj
    have e := pt_own w.heap.size j
    simp only [pt, Option.getD_some] at e
    rw [e, hnew.cell]
    exact hj
  · intro v' w' ho' hg _
    obtain ⟨av, cv, hv⟩ : ∃ ao c, v' = .slice ao (n + 1) c := by
      rcases ho'.2 with ⟨hv, h0⟩ | ⟨g, cap, _, hv, _⟩
      · omega
      · exact ⟨_, cap, hv⟩
    subst hv
    exact h av cv w' ho' (grown_trans g1 hg) ((b1.mono hB).trans ((Below.refl _ _).grown hg (by simp; omega) (fun k hk => (World.ownsRow.lt hO k hk).1)))
end
theorem ownsRow_keep {B s n : Nat} {E : TypeId} {w w' : World} {v : Value} {us : List Value} (h : w.ownsRow B E s v n us) (hb : Below w.heap.size w w') : w'.ownsRow B E s v n us :=
  World.ownsRow.kept (row := none) h ⟨hb.os, hb.tape, hb.output, hb.size, fun j hj _ => hb.block j hj⟩ (by cases v.ownBlock <;> simp)
theorem ownsRow_older {B g s n : Nat} {E : TypeId} {w w' : World} {v : Value} {us : List Value} (h : w.ownsRow B E s v n us) (hg : w.grownBy w' (some g)) (hl : g < B) : w'.ownsRow B E s v n us := by
  refine World.ownsRow.kept (row := some g) h hg ?_
  cases hv : v.ownBlock with
  | none => exact Or.inl rfl
  | some k => exact Or.inr (fun e => by injection e with e; have := (World.ownsRow.lt h k hv).1; omega)
theorem set_grown (w : World) (g i : Nat) (u : Value) : w.grownBy (w.setCell ⟨g, i, none⟩ u) (some g) :=
  ⟨rfl, rfl, rfl, by simp [World.setCell], fun k _ hk => Below.heap_setCell w _ u k (fun e => hk (by rw [e]))⟩
/-! Boxes of three and four cells; stores into what the call itself has made. -/
def put3 (w : World) (g : Nat) (u0 u1 u2 : Value) : World := ((w.setCell ⟨g, 0, none⟩ u0).setCell ⟨g, 1, none⟩ u1).setCell ⟨g, 2, none⟩ u2
def put4 (w : World) (g : Nat) (u0 u1 u2 u3 : Value) : World := (((w.setCell ⟨g, 0, none⟩ u0).setCell ⟨g, 1, none⟩ u1).setCell ⟨g, 2, none⟩ u2).setCell ⟨g, 3, none⟩ u3
section
variable {w : World} {g : Nat} {t : TypeId} {v0 v1 v2 v3 : Value}
theorem Arr.store3 (h : Arr w g t [v0, v1, v2]) (u0 u1 : Value) :
    w.cell? ⟨g, 0, none⟩ = some v0 ∧ w.frozen? ⟨g, 0, none⟩ = false ∧ (w.setCell ⟨g, 0, none⟩ u0).cell? ⟨g, 1, none⟩ = some v1 ∧ (w.setCell ⟨g, 0, none⟩ u0).frozen? ⟨g, 1, none⟩ = false ∧
    ((w.setCell ⟨g, 0, none⟩ u0).setCell ⟨g, 1, none⟩ u1).cell? ⟨g, 2, none⟩ = some v2 ∧ ((w.setCell ⟨g, 0, none⟩ u0).setCell ⟨g, 1, none⟩ u1).frozen? ⟨g, 2, none⟩ = false :=
  ⟨h.cell 0, h.frozen 0, (h.set 0 u0).cell 1, (h.set 0 u0).frozen 1, ((h.set 0 u0).set 1 u1).cell 2, ((h.set 0 u0).set 1 u1).frozen 2⟩
theorem Arr.put3 (h : Arr w g t [v0, v1, v2]) (u0 u1 u2 : Value) : Arr (put3 w g u0 u1 u2) g t [u0, u1, u2] := ((h.set 0 u0).set 1 u1).set 2 u2
theorem Arr.store4 (h : Arr w g t [v0, v1, v2, v3]) (u0 u1 u2 : Value) :
    w.cell? ⟨g, 0, none⟩ = some v0 ∧ w.frozen? ⟨g, 0, none⟩ = false ∧ (w.setCell ⟨g, 0, none⟩ u0).cell? ⟨g, 1, none⟩ = some v1 ∧ (w.setCell ⟨g, 0, none⟩ u0).frozen? ⟨g, 1, none⟩ = false ∧
    ((w.setCell ⟨g, 0, none⟩ u0).setCell ⟨g, 1, none⟩ u1).cell? ⟨g, 2, none⟩ = some v2 ∧ ((w.setCell ⟨g, 0, none⟩ u0).setCell ⟨g, 1, none⟩ u1).frozen? ⟨g, 2, none⟩ = false ∧
    (((w.setCell ⟨g, 0, none⟩ u0).setCell ⟨g, 1, none⟩ u1).setCell ⟨g, 2, none⟩ u2).cell? ⟨g, 3, none⟩ = some v3 ∧ (((w.setCell ⟨g, 0, none⟩ u0).setCell ⟨g, 1, none⟩ u1).setCell ⟨g, 2, none⟩ u2).frozen? ⟨g, 3, none⟩ = false :=
  ⟨h.cell 0, h.frozen 0, (h.set 0 u0).cell 1, (h.set 0 u0).frozen 1, ((h.set 0 u0).set 1 u1).cell 2, ((h.set 0 u0).set 1 u1).frozen 2, (((h.set 0 u0).set 1 u1).set 2 u2).cell 3, (((h.set 0 u0).set 1 u1).set 2 u2).frozen 3⟩
theorem Arr.put4 (h : Arr w g t [v0, v1, v2, v3]) (u0 u1 u2 u3 : Value) : Arr (put4 w g u0 u1 u2 u3) g t [u0, u1, u2, u3] := (((h.set 0 u0).set 1 u1).set 2 u2).set 3 u3
end
section
variable {a w : World} {row : Option Nat} {b : Nat}
theorem grown_set (h : a.grownBy w row) (hb : a.heap.size ≤ b) (j : Nat) (u : Value) : a.grownBy (w.setCell ⟨b, j, none⟩ u) row :=
  ⟨h.os, h.tape, h.output, by simpa [World.setCell] using h.size, fun k hk hne => (Below.heap_setCell w _ u k (fun e => by have e' : k = b := e; omega)).trans (h.block k hk hne)⟩
theorem grown_put2 (h : a.grownBy w row) (hb : a.heap.size ≤ b) (u0 u1 : Value) : a.grownBy (put2 w b u0 u1) row := grown_set (grown_set h hb 0 u0) hb 1 u1
theorem grown_put3 (h : a.grownBy w row) (hb : a.heap.size ≤ b) (u0 u1 u2 : Value) : a.grownBy (put3 w b u0 u1 u2) row := grown_set (grown_set (grown_set h hb 0 u0) hb 1 u1) hb 2 u2
theorem grown_put4 (h : a.grownBy w row) (hb : a.heap.size ≤ b) (u0 u1 u2 u3 : Value) : a.grownBy (put4 w b u0 u1 u2 u3) row := grown_set (grown_set (grown_set (grown_set h hb 0 u0) hb 1 u1) hb 2 u2) hb 3 u3
theorem grown_below (h : Below a.heap.size a w) (row : Option Nat) : a.grownBy w row := ⟨h.os, h.tape, h.output, h.size, fun k hk _ => h.block k hk⟩
theorem below_grown {g : Nat} (h : a.grownBy w (some g)) {B : Nat} (hg : B ≤ g) (hB : B ≤ a.heap.size) : Below B a w := ⟨h.os, h.tape, h.output, h.size, fun k hk => h.block k (by omega) (fun e => by injection e with e; omega)⟩
theorem size_put2 (w : World) (g : Nat) (u0 u1 : Value) : (put2 w g u0 u1).heap.size = w.heap.size := by simp [put2, World.setCell]
theorem size_put3 (w : World) (g : Nat) (u0 u1 u2 : Value) : (put3 w g u0 u1 u2).heap.size = w.heap.size := by simp [put3, World.setCell]
theorem size_put4 (w : World) (g : Nat) (u0 u1 u2 u3 : Value) : (put4 w g u0 u1 u2 u3).heap.size = w.heap.size := by simp [put4, World.setCell]
/-- A stretch of a run that turns one old block alone. -/
theorem grown_on {g : Nat} {b d : World} (h : a.grownBy b (some g)) (k : b.grownBy d (some g)) : a.grownBy d (some g) :=
  ⟨k.os.trans h.os, k.tape.trans h.tape, k.output.trans h.output, Nat.le_trans h.size k.size, fun i hi hne => (k.block i (Nat.lt_of_lt_of_le hi h.size) hne).trans (h.block i hi hne)⟩
theorem Arr.grown {t : TypeId} {cs : List Value} {g : Nat} (h : Arr a b t cs) (hg : a.grownBy w (some g)) (hne : b ≠ g) : Arr w b t cs := (hg.block b h.lt (fun e => by injection e with e; exact hne e)).trans h
end

/-! Worlds under a letter: the equation stands in the context, and the walk writes the letter. -/
theorem new_box (w : World) (T : TypeId) (cs : List Value) : ∃ V, w.alloc (.cells cs.toArray T) = V ∧ Arr V w.heap.size T cs ∧ Below w.heap.size w V ∧ V.heap.size = w.heap.size + 1 :=
  ⟨_, rfl, Arr.new w T cs, (Below.refl _ _).alloc (Nat.le_refl _) _, by simp⟩
section
variable {w : World} {g : Nat} {t : TypeId} {v0 v1 v2 v3 : Value}
theorem put_box2 (h : Arr w g t [v0, v1]) (u0 u1 : Value) : ∃ V, (w.setCell ⟨g, 0, none⟩ u0).setCell ⟨g, 1, none⟩ u1 = V ∧ Hid (V = put2 w g u0 u1) ∧ Arr V g t [u0, u1] ∧
    w.cell? ⟨g, 0, none⟩ = some v0 ∧ w.frozen? ⟨g, 0, none⟩ = false ∧ (w.setCell ⟨g, 0, none⟩ u0).cell? ⟨g, 1, none⟩ = some v1 ∧ (w.setCell ⟨g, 0, none⟩ u0).frozen? ⟨g, 1, none⟩ = false :=
  ⟨_, rfl, rfl, h.put2 u0 u1, h.store2 u0⟩
theorem put_box3 (h : Arr w g t [v0, v1, v2]) (u0 u1 u2 : Value) : ∃ V, ((w.setCell ⟨g, 0, none⟩ u0).setCell ⟨g, 1, none⟩ u1).setCell ⟨g, 2, none⟩ u2 = V ∧ Hid (V = put3 w g u0 u1 u2) ∧ Arr V g t [u0, u1, u2] ∧
    w.cell? ⟨g, 0, none⟩ = some v0 ∧ w.frozen? ⟨g, 0, none⟩ = false ∧ (w.setCell ⟨g, 0, none⟩ u0).cell? ⟨g, 1, none⟩ = some v1 ∧ (w.setCell ⟨g, 0, none⟩ u0).frozen? ⟨g, 1, none⟩ = false ∧
    ((w.setCell ⟨g, 0, none⟩ u0).setCell ⟨g, 1, none⟩ u1).cell? ⟨g, 2, none⟩ = some v2 ∧ ((w.setCell ⟨g, 0, none⟩ u0).setCell ⟨g, 1, none⟩ u1).frozen? ⟨g, 2, none⟩ = false :=
  ⟨_, rfl, rfl, h.put3 u0 u1 u2, h.store3 u0 u1⟩
theorem put_box4 (h : Arr w g t [v0, v1, v2, v3]) (u0 u1 u2 u3 : Value) : ∃ V, (((w.setCell ⟨g, 0, none⟩ u0).setCell ⟨g, 1, none⟩ u1).setCell ⟨g, 2, none⟩ u2).setCell ⟨g, 3, none⟩ u3 = V ∧ Hid (V = put4 w g u0 u1 u2 u3) ∧ Arr V g t [u0, u1, u2, u3] ∧
    w.cell? ⟨g, 0, none⟩ = some v0 ∧ w.frozen? ⟨g, 0, none⟩ = false ∧ (w.setCell ⟨g, 0, none⟩ u0).cell? ⟨g, 1, none⟩ = some v1 ∧ (w.setCell ⟨g, 0, none⟩ u0).frozen? ⟨g, 1, none⟩ = false ∧
    ((w.setCell ⟨g, 0, none⟩ u0).setCell ⟨g, 1, none⟩ u1).cell? ⟨g, 2, none⟩ = some v2 ∧ ((w.setCell ⟨g, 0, none⟩ u0).setCell ⟨g, 1, none⟩ u1).frozen? ⟨g, 2, none⟩ = false ∧
    (((w.setCell ⟨g, 0, none⟩ u0).setCell ⟨g, 1, none⟩ u1).setCell ⟨g, 2, none⟩ u2).cell? ⟨g, 3, none⟩ = some v3 ∧ (((w.setCell ⟨g, 0, none⟩ u0).setCell ⟨g, 1, none⟩ u1).setCell ⟨g, 2, none⟩ u2).frozen? ⟨g, 3, none⟩ = false :=
  ⟨_, rfl, rfl, h.put4 u0 u1 u2 u3, h.store4 u0 u1 u2⟩
/-- One cell. -/
theorem put_cell {cs : List Value} (h : Arr w g t cs) (i : Nat) (v : Value) (hv : cs[i]? = some v) (u : Value) : ∃ V, w.setCell ⟨g, i, none⟩ u = V ∧ Arr V g t (cs.set i u) ∧ w.grownBy V (some g) ∧ w.cell? ⟨g, i, none⟩ = some v ∧ w.frozen? ⟨g, i, none⟩ = false :=
  ⟨_, rfl, h.set i u, set_grown w g i u, (h.cell i).trans hv, h.frozen i⟩
end
/-- A new box whose zeros are overwritten, by zeros perhaps. -/
theorem new_put2 (w : World) (T : TypeId) (z0 z1 u0 u1 : Value) : ∃ V V2, w.alloc (.cells #[z0, z1] T) = V ∧ (V.setCell ⟨w.heap.size, 0, none⟩ u0).setCell ⟨w.heap.size, 1, none⟩ u1 = V2 ∧ Arr V2 w.heap.size T [u0, u1] ∧ Below w.heap.size w V2 ∧ V2.heap.size = w.heap.size + 1 ∧
    V.cell? ⟨w.heap.size, 0, none⟩ = some z0 ∧ V.frozen? ⟨w.heap.size, 0, none⟩ = false ∧ (V.setCell ⟨w.heap.size, 0, none⟩ u0).cell? ⟨w.heap.size, 1, none⟩ = some z1 ∧ (V.setCell ⟨w.heap.size, 0, none⟩ u0).frozen? ⟨w.heap.size, 1, none⟩ = false := by
  obtain ⟨V, e1, A, B, hz⟩ := new_box w T [z0, z1]
  obtain ⟨V2, e2, h2, A2, f⟩ := put_box2 A u0 u1
  exact ⟨V, V2, e1, e2, A2, by rw [h2.out]; exact below_put2 B (Nat.le_refl _) u0 u1, by rw [h2.out, size_put2, hz], f⟩
theorem new_put3 (w : World) (T : TypeId) (z0 z1 z2 u0 u1 u2 : Value) : ∃ V V2, w.alloc (.cells #[z0, z1, z2] T) = V ∧ ((V.setCell ⟨w.heap.size, 0, none⟩ u0).setCell ⟨w.heap.size, 1, none⟩ u1).setCell ⟨w.heap.size, 2, none⟩ u2 = V2 ∧ Arr V2 w.heap.size T [u0, u1, u2] ∧ Below w.heap.size w V2 ∧ V2.heap.size = w.heap.size + 1 ∧
    V.cell? ⟨w.heap.size, 0, none⟩ = some z0 ∧ V.frozen? ⟨w.heap.size, 0, none⟩ = false ∧ (V.setCell ⟨w.heap.size, 0, none⟩ u0).cell? ⟨w.heap.size, 1, none⟩ = some z1 ∧ (V.setCell ⟨w.heap.size, 0, none⟩ u0).frozen? ⟨w.heap.size, 1, none⟩ = false ∧
    ((V.setCell ⟨w.heap.size, 0, none⟩ u0).setCell ⟨w.heap.size, 1, none⟩ u1).cell? ⟨w.heap.size, 2, none⟩ = some z2 ∧ ((V.setCell ⟨w.heap.size, 0, none⟩ u0).setCell ⟨w.heap.size, 1, none⟩ u1).frozen? ⟨w.heap.size, 2, none⟩ = false := by
  obtain ⟨V, e1, A, B, hz⟩ := new_box w T [z0, z1, z2]
  obtain ⟨V2, e2, h2, A2, f⟩ := put_box3 A u0 u1 u2
  exact ⟨V, V2, e1, e2, A2, by rw [h2.out]; exact (B.setCell (p := ⟨_, 0, none⟩) (Nat.le_refl _) u0 |>.setCell (p := ⟨_, 1, none⟩) (Nat.le_refl _) u1 |>.setCell (p := ⟨_, 2, none⟩) (Nat.le_refl _) u2), by rw [h2.out, size_put3, hz], f⟩
theorem new_put4 (w : World) (T : TypeId) (z0 z1 z2 z3 u0 u1 u2 u3 : Value) : ∃ V V2, w.alloc (.cells #[z0, z1, z2, z3] T) = V ∧ (((V.setCell ⟨w.heap.size, 0, none⟩ u0).setCell ⟨w.heap.size, 1, none⟩ u1).setCell ⟨w.heap.size, 2, none⟩ u2).setCell ⟨w.heap.size, 3, none⟩ u3 = V2 ∧ Arr V2 w.heap.size T [u0, u1, u2, u3] ∧ Below w.heap.size w V2 ∧ V2.heap.size = w.heap.size + 1 ∧
    V.cell? ⟨w.heap.size, 0, none⟩ = some z0 ∧ V.frozen? ⟨w.heap.size, 0, none⟩ = false ∧ (V.setCell ⟨w.heap.size, 0, none⟩ u0).cell? ⟨w.heap.size, 1, none⟩ = some z1 ∧ (V.setCell ⟨w.heap.size, 0, none⟩ u0).frozen? ⟨w.heap.size, 1, none⟩ = false ∧
    ((V.setCell ⟨w.heap.size, 0, none⟩ u0).setCell ⟨w.heap.size, 1, none⟩ u1).cell? ⟨w.heap.size, 2, none⟩ = some z2 ∧ ((V.setCell ⟨w.heap.size, 0, none⟩ u0).setCell ⟨w.heap.size, 1, none⟩ u1).frozen? ⟨w.heap.size, 2, none⟩ = false ∧
    (((V.setCell ⟨w.heap.size, 0, none⟩ u0).setCell ⟨w.heap.size, 1, none⟩ u1).setCell ⟨w.heap.size, 2, none⟩ u2).cell? ⟨w.heap.size, 3, none⟩ = some z3 ∧ (((V.setCell ⟨w.heap.size, 0, none⟩ u0).setCell ⟨w.heap.size, 1, none⟩ u1).setCell ⟨w.heap.size, 2, none⟩ u2).frozen? ⟨w.heap.size, 3, none⟩ = false := by
  obtain ⟨V, e1, A, B, hz⟩ := new_box w T [z0, z1, z2, z3]
  obtain ⟨V2, e2, h2, A2, f⟩ := put_box4 A u0 u1 u2 u3
  exact ⟨V, V2, e1, e2, A2, by rw [h2.out]; exact (B.setCell (p := ⟨_, 0, none⟩) (Nat.le_refl _) u0 |>.setCell (p := ⟨_, 1, none⟩) (Nat.le_refl _) u1 |>.setCell (p := ⟨_, 2, none⟩) (Nat.le_refl _) u2 |>.setCell (p := ⟨_, 3, none⟩) (Nat.le_refl _) u3), by rw [h2.out, size_put4, hz], f⟩
end Go.Proofs.Ytfknckbclddnmaa
