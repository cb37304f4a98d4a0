/-
  The map of the dirty sectors in memory: which keys it has, what lies under each.
-/
import Derived.Test.YtbnomkcliejcaaaImgBase
import Derived.Test.YtbnomkcliejcaaaDskMath
import Derived.Maps.OwnSet
import Derived.Lib.SlKeysI
namespace Go.Proofs.Ytbnomkcliejcaaa
open Go.RowKit Ds Go.Maps Go.ChangeMaps

/-- An element of the map reads as itself. -/
def RV (v : Value) : Option (DataW Value × List MemPlace) := some (.held v, [])
def secV (s : Sec) : Value := .agg (s.map (Value.int .u8)).toArray
theorem infoS : (Try.prog.info? 56).map (fun i => (i.zero, i.size, i.bytes)) = some (some (secV zeroS), 64, 64) := by kernel_rfl
theorem sizeS : (Try.prog.info? 56).map (·.size) = some 64 := by kernel_rfl
theorem zeroV (w : World) : (zeroValue 56).run Try.prog w = .ok (secV zeroS) w :=
  (zero_of_info (P := Try.prog) (t := 56) (v := secV zeroS) (n := 64) (by kernel_rfl)).1 w
theorem secV_inj {a b : Sec} (h : secV a = secV b) : a = b := by
  unfold secV at h
  injection h with h
  have h := congrArg Array.toList h
  simp only at h
  exact (List.map_inj_right (fun x y e => by injection e)).1 h
theorem keyI (i : Nat) (hi : i < 4096) : keyOf Try.prog 3 (.int .i64 (i : Int)) = some (.int .i64 (i : Int)) :=
  keyOf_int_mk Try.underlying3 (by simp [Lit.wf, IntKind.min, IntKind.max, IntKind.signed, IntKind.bits]; omega)
theorem KI : Keyed Try.prog 3 := int_keyed Try.underlying3
theorem owns_tight {P : Program} {k : TypeId} {R : Value → Option (DataW Value × List MemPlace)} {w : World} {b n : Nat} {D : DataW Value} (h : w.ownsMap P k R b n D) : w.ownsMap P k R b (Maps.size D) D := by
  obtain ⟨es, clock, hb, F, hs, rfl⟩ := h
  exact ⟨es, clock, hb, F, by simp [Maps.size, length_sorted], rfl⟩

/-- Block m is the map of the dirty sectors. -/
def MapD (w : World) (m : Nat) (old : List (Option Sec)) : Prop :=
  ∃ D, w.ownsMap Try.prog 3 RV m (Maps.size D) D ∧ (∀ x : Int, Maps.has D (.int .i64 x) = true ↔ ∃ (i : Nat) (o : Sec), x = (i : Int) ∧ old[i]? = some (some o)) ∧
    ∀ (i : Nat) (o : Sec), old[i]? = some (some o) → ∀ z, D.atKey (.int .i64 (i : Int)) z = .held (secV o)
theorem MapD.lt {w : World} {m : Nat} {old : List (Option Sec)} (h : MapD w m old) : m < w.heap.size := by
  obtain ⟨D, h, _⟩ := h
  exact h.lt
theorem MapD.grown {w w' : World} {m : Nat} {row : Option Nat} {old : List (Option Sec)} (h : MapD w m old) (hg : w.grownBy w' row) (hne : some m ≠ row) : MapD w' m old := by
  obtain ⟨D, h, r⟩ := h
  exact ⟨D, h.kept hg hne, r⟩
theorem MapD.below {w w' : World} {m : Nat} {old : List (Option Sec)} (h : MapD w m old) (hb : Below w.heap.size w w') : MapD w' m old :=
  h.grown (row := none) ⟨hb.os, hb.tape, hb.output, hb.size, fun j hj _ => hb.block j hj⟩ (by simp)
theorem MapD.drew {w : World} {m : Nat} {old : List (Option Sec)} (h : MapD w m old) : MapD w.drew m old := h
theorem MapD.ne {w : World} {m g : Nat} {t : TypeId} {cs : List Value} {old : List (Option Sec)} (h : MapD w m old) (hA : Arr w g t cs) : m ≠ g := by
  obtain ⟨D, ⟨es, clock, hb, _⟩, _⟩ := h
  rintro rfl
  rw [show w.heap[m]? = _ from hA] at hb
  cases hb
theorem MapD.made (w : World) (n : Nat) : MapD (w.alloc (.map #[] 0)) w.heap.size (List.replicate n none) := by
  refine ⟨.map [], World.ownsMap_made w _ _ _, fun x => ?_, fun i o h => ?_⟩
  · constructor
    · intro h; simp [Maps.has] at h
    · rintro ⟨i, o, _, h⟩; simp [List.getElem?_replicate] at h
  · simp [List.getElem?_replicate] at h
section
variable {w : World} {m : Nat} {old : List (Option Sec)}
theorem keys_perm {D : DataW Value} {n : Nat} (hown : w.ownsMap Try.prog 3 RV m n D) (hh : ∀ x : Int, Maps.has D (.int .i64 x) = true ↔ ∃ (i : Nat) (o : Sec), x = (i : Int) ∧ old[i]? = some (some o)) :
    ((dirtN 0 old).map Int.ofNat).Perm (intKeys D) := by
  obtain ⟨es, hD, hpw, _⟩ := hown.entries KI
  obtain ⟨es', hD', hko⟩ := hown.keysOf
  obtain rfl : es = es' := by rw [hD] at hD'; simpa using hD'
  subst hD
  refine perm_intKeys hpw (fun p hp => ?_) ?_ (fun x => ?_)
  · obtain ⟨v, hv⟩ := hko p hp
    obtain ⟨x, _, hx, _⟩ := Maps.keyOf_i64 Try.underlying3 hv
    exact ⟨x, hx⟩
  · refine List.pairwise_map.2 ((dirtN_sorted old 0).imp fun h e => ?_)
    have := Int.ofNat.inj e
    omega
  · rw [hh x, List.mem_map]
    constructor
    · rintro ⟨i, hi, rfl⟩
      obtain ⟨j, o, rfl, h⟩ := (mem_dirtN old 0 i).1 hi
      exact ⟨j, o, by simp, h⟩
    · rintro ⟨i, o, rfl, h⟩
      exact ⟨i, (mem_dirtN old 0 i).2 ⟨i, o, by simp, h⟩, rfl⟩
theorem size_intKeys {D : DataW Value} {n : Nat} (hown : w.ownsMap Try.prog 3 RV m n D) : (intKeys D).length = Maps.size D := by
  obtain ⟨es, clock, _, _, _, rfl⟩ := hown
  simp [intKeys, Maps.size]
theorem size_dirt {D : DataW Value} {n : Nat} (hown : w.ownsMap Try.prog 3 RV m n D) (hh : ∀ x : Int, Maps.has D (.int .i64 x) = true ↔ ∃ (i : Nat) (o : Sec), x = (i : Int) ∧ old[i]? = some (some o)) : Maps.size D = dirt old := by
  rw [← size_intKeys hown, ← (keys_perm hown hh).length_eq]
  simp [dirt]
theorem sorted_dirt {ss : List Int} (h : ((dirtN 0 old).map Int.ofNat).Perm ss) : ss.mergeSort (fun x y => decide (x ≤ y)) = (dirtN 0 old).map Int.ofNat := by
  rw [← show _ = ss.mergeSort _ from mergeSort_of_perm_i h]
  refine List.mergeSort_of_pairwise (List.pairwise_map.2 ((dirtN_sorted old 0).imp fun h => ?_))
  simp only [decide_eq_true_eq, Int.ofNat_eq_natCast]
  omega
theorem MapD.len (h : MapD w m old) (ty : TypeId) : (Builtin.len_ #[58] ty #[.map (some m)]).run Try.prog w = .ok (.int .i64 (dirt old : Int)) w := by
  obtain ⟨D, hown, hh, _⟩ := h
  rw [hown.len Try.underlying58 ty, size_dirt hown hh]
/-- v, ok := m[i]. -/
theorem MapD.look (h : MapD w m old) (hs : ∀ o, some o ∈ old → o.length = 64) {i : Nat} (hi : i < 4096) : ∃ s : Sec, s.length = 64 ∧
    (Instr.lookup 58 (.map (some m)) (.int .i64 (i : Int)) true).run Try.prog w = .ok (.tuple #[secV s, .bool (old.getD i none).isSome]) w := by
  obtain ⟨D, hown, hh, ha⟩ := h
  obtain ⟨v, ps, hrun, hv⟩ := hown.look_ok KI Try.underlying58 (zeroV w) (zd := .held (secV zeroS)) (zp := []) rfl (keyI i hi)
  cases hc : old[i]? with
  | none =>
    have hn : Maps.has D (.int .i64 (i : Int)) = false := by
      rw [Bool.eq_false_iff]
      intro e
      obtain ⟨j, o, e1, e2⟩ := (hh _).1 e
      obtain rfl : i = j := by omega
      rw [hc] at e2
      cases e2
    rw [Maps.atKey_of_not_has hn] at hv
    rw [hn] at hrun
    injection hv with hv
    injection hv with hv
    injection hv with hv
    subst hv
    exact ⟨zeroS, rfl, by rw [hrun]; simp [List.getD, hc]⟩
  | some q =>
    cases q with
    | none =>
      have hn : Maps.has D (.int .i64 (i : Int)) = false := by
        rw [Bool.eq_false_iff]
        intro e
        obtain ⟨j, o, e1, e2⟩ := (hh _).1 e
        obtain rfl : i = j := by omega
        rw [hc] at e2
        cases e2
      rw [Maps.atKey_of_not_has hn] at hv
      rw [hn] at hrun
      injection hv with hv
      injection hv with hv
      injection hv with hv
      subst hv
      exact ⟨zeroS, rfl, by rw [hrun]; simp [List.getD, hc]⟩
    | some o =>
      have hn : Maps.has D (.int .i64 (i : Int)) = true := (hh _).2 ⟨i, o, rfl, hc⟩
      rw [ha i o hc] at hv
      injection hv with hv
      injection hv with hv
      injection hv with hv
      subst hv
      exact ⟨o, hs o (List.mem_of_getElem? hc), by rw [hrun, hn]; simp [List.getD, hc]⟩
/-- m[i] of a dirty sector. -/
theorem MapD.at (h : MapD w m old) {i : Nat} {o : Sec} (hi : i < 4096) (ho : old[i]? = some (some o)) :
    (Instr.lookup 58 (.map (some m)) (.int .i64 (i : Int)) false).run Try.prog w = .ok (secV o) w := by
  obtain ⟨D, hown, hh, ha⟩ := h
  obtain ⟨v, ps, hrun, hv⟩ := hown.lookup KI Try.underlying58 (zeroV w) (zd := .held (secV zeroS)) (zp := []) rfl (keyI i hi)
  rw [ha i o ho] at hv
  injection hv with hv
  injection hv with hv
  injection hv with hv
  rw [hrun, hv]
/-- m[i] = s, of a sector that is not dirty. -/
theorem MapD.store (h : MapD w m old) (hl : old.length ≤ 4096) {i : Nat} (hi : i < old.length) (hn : old.getD i none = none) (s : Sec) :
    ∃ w', (Instr.mapUpdate 58 (.map (some m)) (.int .i64 (i : Int)) (secV s)).run Try.prog w = .ok () w' ∧ MapD w' m (old.set i (some s)) ∧ w.grownBy w' (some m) ∧ w'.heap.size = w.heap.size := by
  obtain ⟨D, hown, hh, ha⟩ := h
  have hsz := size_dirt hown hh
  have hle := dirtN_le old 0
  obtain ⟨w', hrun, hown', hturn⟩ := hown.store KI Try.underlying58 (by unfold maxLen; rw [hsz]; unfold dirt; omega) (d := .held (secV s)) (ps := []) (keyI i (by omega)) rfl
  refine ⟨w', hrun, ⟨_, owns_tight hown', fun x => ?_, fun j o hj z => ?_⟩, hturn.grown, ?_⟩
  · by_cases hx : x = (i : Int)
    · subst hx
      rw [Maps.has_put_same hown.isMap (KI.key (keyI i (by omega)))]
      exact ⟨fun _ => ⟨i, s, rfl, by simp [hi]⟩, fun _ => rfl⟩
    · rw [Maps.has_put_other (fun e => hx (by injection e)), hh x]
      constructor
      · rintro ⟨j, o, rfl, hj⟩
        exact ⟨j, o, rfl, by rw [List.getElem?_set_ne (by omega)]; exact hj⟩
      · rintro ⟨j, o, rfl, hj⟩
        rw [List.getElem?_set_ne (by omega)] at hj
        exact ⟨j, o, rfl, hj⟩
  · by_cases hji : j = i
    · subst hji
      rw [List.getElem?_set_self hi] at hj
      injection hj with hj
      injection hj with hj
      subst hj
      exact Maps.atKey_put_same hown.isMap (KI.key (keyI j (by omega))) _ _
    · rw [List.getElem?_set_ne (by omega)] at hj
      rw [Maps.atKey_put_other (fun e => hji (by injection e with _ e; omega))]
      exact ha j o hj z
  · obtain ⟨es, clock, es', clock', hb, rfl⟩ := hturn
    simp [setBlock]
/-- clear(m). -/
theorem MapD.clear (h : MapD w m old) (n : Nat) : ∃ w', (∀ ty, (Builtin.clear_ #[58] ty #[.map (some m)]).run Try.prog w = .ok (.tuple #[]) w') ∧ MapD w' m (List.replicate n none) ∧ w.grownBy w' (some m) ∧ w'.heap.size = w.heap.size := by
  obtain ⟨D, ⟨es, clock, hb, F, _⟩, _⟩ := h
  have hturn : w.mapTurned (setBlock w m (.map #[] clock)) m := ⟨es, clock, #[], clock, hb, rfl⟩
  refine ⟨setBlock w m (.map #[] clock), fun ty => ?_, ⟨.map [], ⟨#[], clock, heap_setBlock_same hb _, ⟨by simp, ⟨by simp, by simp, by simp⟩, by simp⟩, by simp, rfl⟩, fun x => ?_, fun i o h => ?_⟩, hturn.grown, by simp [setBlock]⟩
  · simp [Builtin.clear_, run_underlying Try.underlying58, MapKept.run_getObj_map hb, MapKept.run_setObj_map _ hb, Result.andThen]
    rfl
  · constructor
    · intro h; simp [Maps.has] at h
    · rintro ⟨i, o, _, h⟩; simp [List.getElem?_replicate] at h
  · simp [List.getElem?_replicate] at h
end
end Go.Proofs.Ytbnomkcliejcaaa
