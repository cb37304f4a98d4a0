/-
  digest.Text.
-/
import Derived.Test.YtfmpccfoemgiiaaDoorDigRefSum
import Derived.Lib.OwnKind
import Derived.Lib.BufferRead
namespace Go.Proofs.YtfmpccfoemgiiaaDoor
open Go.RowKit Dig

namespace Dig
def hexN (x : Nat) : Nat := if x < 10 then 48 + x else 87 + x
def hexI (d : List Int) : List Int := d.flatMap fun x => [((hexN (x.toNat / 16) : Nat) : Int), ((hexN (x.toNat % 16) : Nat) : Int)]
/-- Bytes as a string. -/
def strOf (xs : List Int) : ByteArray := ⟨(xs.map fun x => UInt8.ofNat x.toNat).toArray⟩
def textS (d : List Int) : ByteArray := strOf (hexI d)
/-- A digest: 32 bytes. -/
structure IsD (d : List Int) : Prop where
  len : d.length = 32
  lo : ∀ x ∈ d, 0 ≤ x
  hi : ∀ x ∈ d, x ≤ 255
theorem IsD.at {d : List Int} (h : IsD d) (i : Nat) (hi : i < 32) : ∃ b : Nat, Hid (d.getD i 0 = (b : Int)) ∧ b ≤ 255 := by
  have hm : d.getD i 0 ∈ d := by
    rw [List.getD_eq_getElem?_getD, List.getElem?_eq_getElem (by rw [h.len]; exact hi)]
    exact List.getElem_mem _
  have h0 := h.lo _ hm
  have h1 := h.hi _ hm
  exact ⟨(d.getD i 0).toNat, by show _ = _; omega, by omega⟩
theorem beN_bytes (n k : Nat) : ∀ x ∈ beN n k, 0 ≤ x ∧ x ≤ 255 := by
  induction k with
  | zero => intro x hx; cases hx
  | succ k ih =>
    intro x hx
    rcases List.mem_cons.1 hx with rfl | hx
    · omega
    · exact ih x hx
theorem outL_isD (s : St) : IsD (outL s) := by
  refine ⟨rfl, fun x hx => ?_, fun x hx => ?_⟩ <;> obtain ⟨y, _, hy⟩ := List.mem_flatMap.1 hx <;> have := beN_bytes y 4 x hy <;> omega
theorem sumL_isD (m : List Int) : IsD (sumL m) := outL_isD _
theorem hexN_le (x : Nat) (h : x < 16) : 48 ≤ hexN x ∧ hexN x ≤ 102 := by unfold hexN; split <;> omega
theorem hexI_len (d : List Int) : (hexI d).length = 2 * d.length := by
  induction d with
  | nil => rfl
  | cons x d ih =>
    have e : hexI (x :: d) = [((hexN (x.toNat / 16) : Nat) : Int), ((hexN (x.toNat % 16) : Nat) : Int)] ++ hexI d := rfl
    rw [e, List.length_append, ih]
    simp
    omega
theorem hexI_next (d : List Int) (i : Nat) (hi : i < d.length) (b : Nat) (hb : d.getD i 0 = (b : Int)) : hexI (d.take i) ++ [((hexN (b / 16) : Nat) : Int), ((hexN (b % 16) : Nat) : Int)] = hexI (d.take (i + 1)) := by
  rw [take_next _ _ hi, hb, hexI, hexI, List.flatMap_append]
  simp
end Dig

theorem bcells_at {d : List Int} {i : Nat} (h : i < d.length) : (bcells d)[i]? = some (.int .u8 (d.getD i 0)) := by
  rw [bcells, List.getElem?_append_left (by simpa using h)]
  simp [List.getD, h]

/-- The digit of a number below 16. -/
theorem hex_ix (z : Nat) (hz : z < 16) (W : World) : (Instr.index 9 (.string ⟨#[48, 49, 50, 51, 52, 53, 54, 55, 56, 57, 97, 98, 99, 100, 101, 102]⟩) (.int .u8 (z : Int))).run Tryd.prog W = .ok (.int .u8 ((hexN z : Nat) : Int)) W := by
  rcases (show z = 0 ∨ z = 1 ∨ z = 2 ∨ z = 3 ∨ z = 4 ∨ z = 5 ∨ z = 6 ∨ z = 7 ∨ z = 8 ∨ z = 9 ∨ z = 10 ∨ z = 11 ∨ z = 12 ∨ z = 13 ∨ z = 14 ∨ z = 15 by omega) with rfl | rfl | rfl | rfl | rfl | rfl | rfl | rfl | rfl | rfl | rfl | rfl | rfl | rfl | rfl | rfl <;> kernel_rfl

theorem two_lst (w : World) (x y : Int) (h0 : 0 ≤ x) (h1 : x ≤ 255) (h2 : 0 ≤ y) (h3 : y ≤ 255) : Lst .u8 (w.alloc (.cells #[.int .u8 x, .int .u8 y] 5)) (some ⟨w.heap.size, 0, none⟩) 2 2 [x, y] := by
  have o : Own 5 .u8 w.heap.size (w.alloc (.cells #[.int .u8 x, .int .u8 y] 5)) (some ⟨w.heap.size, 0, none⟩) 2 2 [x, y] := by
    refine ⟨World.ownsRow_lit w #[.int .u8 x, .int .u8 y] 2 (Nat.le_refl _) (by unfold maxLen; omega) rfl, ?_⟩
    intro z hz
    simp at hz
    rcases hz with rfl | rfl
    · exact wf_u8 h0 h1
    · exact wf_u8 h2 h3
  exact o.lst
theorem four_lst (w : World) (x y z u : Int) (hx : 0 ≤ x ∧ x ≤ 255) (hy : 0 ≤ y ∧ y ≤ 255) (hz : 0 ≤ z ∧ z ≤ 255) (hu : 0 ≤ u ∧ u ≤ 255) : Lst .u8 (w.alloc (.cells #[.int .u8 x, .int .u8 y, .int .u8 z, .int .u8 u] 5)) (some ⟨w.heap.size, 0, none⟩) 4 4 [x, y, z, u] := by
  have o : Own 5 .u8 w.heap.size (w.alloc (.cells #[.int .u8 x, .int .u8 y, .int .u8 z, .int .u8 u] 5)) (some ⟨w.heap.size, 0, none⟩) 4 4 [x, y, z, u] := by
    refine ⟨World.ownsRow_lit w #[.int .u8 x, .int .u8 y, .int .u8 z, .int .u8 u] 4 (Nat.le_refl _) (by unfold maxLen; omega) rfl, ?_⟩
    intro v hv
    simp at hv
    rcases hv with rfl | rfl | rfl | rfl
    · exact wf_u8 hx.1 hx.2
    · exact wf_u8 hy.1 hy.2
    · exact wf_u8 hz.1 hz.2
    · exact wf_u8 hu.1 hu.2
  exact o.lst
section
variable {w : World} {a : Act} {K : Act → World → Prop} {Q : Exit → Act → World → Prop} {d : Option Tmp} {p q : Operand} {ty : TypeId} {pos : String} {after : Array Edge} {gd : Option (Nat × Bool)}
/-- An append as one step of a drawn region. -/
theorem wp_appL {B : Nat} {ao : Option Addr} {n c : Nat} {xs : List Int} {bo : Option Addr} {m e : Nat} {ys : List Int} (hO : Own 5 .u8 B w ao n c xs) (hL : Lst .u8 w bo m e ys) (h0 : bo = none → e = 0) (hB : B ≤ w.heap.size) (hn : n ≤ 1099511627776) (hm : m ≤ 1099511627776)
    (hp : a.eval p = .slice ao n c) (hq : a.eval q = .slice bo m e)
    (h : ∀ ao' c' w', Own 5 .u8 B w' ao' (n + m) c' (xs ++ ys) → Below B w w' → K (a.put d (.slice ao' (n + m) c')) w') :
    Oper.wp Tryd.prog ⟨d, .call { callee := .builtin .append, args := #[p, q], argTypes := #[22, 22] }, ty, pos, after, gd⟩ a w K Q := by
  obtain ⟨i0, hi, hz0, hz1, hz2⟩ := info_parts info5
  cases bo with
  | none =>
    have hm0 : m = 0 := by
      rcases Nat.eq_zero_or_pos m with h1 | h1
      · exact h1
      · obtain ⟨a, ha⟩ := hL.isSome h1; cases ha
    have hc0 := h0 rfl
    subst hm0; subst hc0
    have hx0 : ys = [] := List.eq_nil_of_length_eq_zero hL.len
    subst hx0
    have hrun := run_append_owned_none (P := Tryd.prog) (w := w) B 22 ty 5 i0 1 Tryd.underlying22 hi (.slice ao n c) n _ hO.1
    have h1 := h ao c w (by simpa using hO) (Below.refl _ _)
    unfold Oper.wp
    simp [execOp, resolve, invoke, builtin, hp, hq, hrun, Result.andThen]
    exact h1
  | some ad =>
    refine wp_append_own w p q 22 rfl B 5 i0 (.int .u8 0) 1 1 Tryd.underlying22 hi hz0 hz1 hz2 rfl (by decide) _ n _ hp hO.1 ad m e (ys.map (Value.int .u8)) hq (by simp [hL.len]) hL.cells (ints_one _ _) (by unfold maxLen; omega) (by omega) hB ?_
    intro v' w' ho' hg _
    obtain ⟨av, cv, hv⟩ := own_shape ho'
    subst hv
    refine h av cv w' ⟨by rw [List.map_append]; exact ho', fun x hx => ?_⟩ ((Below.refl _ _).grown hg hB (fun k hk => (World.ownsRow.lt hO.1 k hk).1))
    rcases List.mem_append.1 hx with hx | hx
    · exact hO.2 x hx
    · exact hL.wf x hx
end
/-- 'string(b)'. -/
theorem own_string {B : Nat} {w : World} {ao : Option Addr} {n c : Nat} {xs : List Int} (h : Own 5 .u8 B w ao n c xs) : (convert 22 9 (.slice ao n c)).run Tryd.prog w = .ok (.string (strOf xs)) w := by
  have hl := h.len
  have hcells : xs.map (Value.int .u8) = Lib.byteCells (xs.map fun x => UInt8.ofNat x.toNat) := by
    unfold Lib.byteCells
    rw [List.map_map]
    refine List.map_congr_left fun x hx => ?_
    have hw := h.2 x hx
    have hb : 0 ≤ x ∧ x ≤ 255 := by simpa [Lit.wf, IntKind.min, IntKind.max, IntKind.signed, IntKind.bits] using hw
    simp only [Function.comp]
    congr 1
    rw [UInt8.toNat_ofNat_of_lt' (by show x.toNat < 256; omega)]
    omega
  have h1 := h.1
  rw [hcells] at h1
  rcases h1.2 with ⟨hv, h0⟩ | ⟨g, cap, cur, hv, hg, hh, hn, hc, hs, ht⟩
  · rw [hv]
    obtain rfl : xs = [] := List.eq_nil_of_length_eq_zero (by omega)
    exact Lib.run_convert_nil_bytes w _ _ 5 0 Tryd.underlying22 Tryd.underlying5 Tryd.underlying9
  · rw [hv]
    have hlen : (xs.map fun x => UInt8.ofNat x.toNat).length = n := by simpa using hl
    subst hlen
    exact run_convert_bytes_back w _ _ 5 ⟨g, 0, none⟩ cap (xs.map fun x => UInt8.ofNat x.toNat) Tryd.underlying22 Tryd.underlying5 Tryd.underlying9 (Lib.bytes_of_row hh (by simpa using ht))

set_option maxHeartbeats 1600000 in
set_option maxRecDepth 100000 in
theorem text_c (D : List Int) (hD : IsD D) (w : World) :
    Calls Tryd.prog 19 #[.agg (bcells D).toArray] w fun e w' => e = .returned (.string (textS D)) ∧ Below w.heap.size w w' := by
  obtain ⟨i0, hi, hz0, hz1, hz2⟩ := info_parts info5
  have HDl := Lib.hid hD.len
  have hA : Arr (w.alloc (.cells (bcells D).toArray 25)) w.heap.size 25 (bcells D) := Arr.new _ _ _
  have HA := Lib.hid hA
  have b1 : Below w.heap.size w (w.alloc (.cells (bcells D).toArray 25)) := (Below.refl _ _).alloc (Nat.le_refl _) _
  have z1 : w.heap.size ≤ (w.alloc (.cells (bcells D).toArray 25)).heap.size := b1.size
  obtain ⟨T, hT⟩ : ∃ T, Hid (T = textS D) := ⟨_, rfl⟩
  rw [← hT.out]
  clear hA
  go_enter Tryd.func19, Tryd.ntmps19
  go_wp2_with (first
    | (at_make; refine wpList_make_own _ rfl _ _ 22 rfl w.heap.size 5 i0 (.int .u8 0) 1 Tryd.underlying22 hi hz0 hz1 _ _ _ 64 rfl rfl rfl (by rw [hz2]; omega) (by unfold maxLen; omega) z1 ?_; intro w1 hown hgr; have HA1 := Lib.hid (HA.out.kept ((Below.refl _ _).grown hgr (Nat.le_refl _) (fun k hk => by cases hk))); have O1 : Own 5 .u8 w.heap.size w1 (some ⟨w.heap.size + 1, 0, none⟩) 0 64 [] := ⟨by simpa using hown, fun x hx => by cases hx⟩; have B1 : Below w.heap.size w w1 := b1.grown hgr z1 (fun k hk => by cases hk); clear hown hgr)
    | ((with_reducible refine wpList_load_arr (d := some 7) arr25 HA1.out ?e1 ?e2 ?_); (case e1 => rfl); (case e2 => exact bcells_len (Nat.le_of_eq HDl.out))))
  go_loopw [3, 8] (fun v i wr => ∃ (i' l : Nat) (a : Option Addr) (d : Nat), i' ≤ 32 ∧ v = .slice a l d ∧ i = .int .i64 i' ∧ Own 5 .u8 w.heap.size wr a l d (hexI (D.take i')) ∧ Below w.heap.size w wr)
    (fun _ i _ => 32 - (intOf i).toNat)
  case atStart => exact ⟨0, 0, _, _, by omega, rfl, rfl, O1, B1⟩
  case round =>
    clear O1 B1
    obtain ⟨i, l, a, d, hi32, rfl, rfl, O, B⟩ := hrel
    have hl : l ≤ 64 := by have h1 := O.len; rw [hexI_len, List.length_take, HDl.out] at h1; omega
    by_cases hlt : i < 32
    · obtain ⟨b, hb, hb255⟩ := hD.at i hlt
      have hix : ∀ W, (Instr.index 25 (.agg (bcells D).toArray) (.int .i64 (i : Int))).run Tryd.prog W = .ok (.int .u8 (b : Int)) W := by
        have := run_index_arr arr25 size5 agg_u8 (cs := bcells D) i (i : Int) rfl _ (bcells_at (by rw [HDl.out]; exact hlt)) (bcells_len (Nat.le_of_eq HDl.out))
        rw [hb.out] at this
        exact this
      have q32 : (i : Int) < 32 := by omega
      obtain ⟨p, hp⟩ : ∃ p : Nat, Hid (p = b / 16) := ⟨_, rfl⟩
      obtain ⟨q, hq⟩ : ∃ q : Nat, Hid (q = b % 16) := ⟨_, rfl⟩
      have hp16 : p < 16 := by rw [hp.out]; omega
      have hq16 : q < 16 := by rw [hq.out]; omega
      have e1 : (b : Int) / 16 = (p : Int) := by rw [hp.out]; omega
      have e2 : bits .and .u8 (b : Int) 15 = (q : Int) := by
        rw [show (15 : Int) = ((15 : Nat) : Int) from rfl, u8_and_nat b 15 (by omega) (by omega), nat_mask4, hq.out]
      have x1 := hex_ix p hp16
      have x2 := hex_ix q hq16
      obtain ⟨X, hX⟩ : ∃ X, Hid (hexN p = X) := ⟨_, rfl⟩
      obtain ⟨Y, hY⟩ : ∃ Y, Hid (hexN q = Y) := ⟨_, rfl⟩
      have lX := hexN_le p hp16
      have lY := hexN_le q hq16
      rw [hX.out] at x1 lX
      rw [hY.out] at x2 lY
      have HX : Hid (hexI (D.take i) ++ [(X : Int), (Y : Int)] = hexI (D.take (i + 1))) := by
        show _ = _
        rw [← hexI_next D i (by rw [HDl.out]; exact hlt) b hb.out, ← hp.out, ← hq.out, hX.out, hY.out]
      have h0a : (0 : Int) ≤ X := by omega
      have h0b : (X : Int) ≤ 255 := by omega
      have h1a : (0 : Int) ≤ Y := by omega
      have h1b : (Y : Int) ≤ 255 := by omega
      have zB := B.size
      have bA : Below wr.heap.size wr (wr.drew.alloc (.cells #[.int .u8 (X : Int), .int .u8 (Y : Int)] 5)) := (below_drew (Below.refl _ _)).alloc (Nat.le_refl _) _
      go_wp2
      refine wp_region_held_drew (S := fun _ => True) (by kernel_rfl) (trivial) (fun hHeld => ?_)
      refine reg_take (i := 0) rfl (by kernel_rfl) (by kernel_rfl) (by kernel_rfl) (fun _ _ _ h => h) (by rfl) hHeld (v := ?v1) ?hy1 ?rest1
      case hy1 => (intro w' hSw; go_simp <;> try rfl)
      try simp only [Act.put, List.setIfInBounds_toArray, List.set_cons_zero, List.set_cons_succ]
      refine reg_take (i := 1) rfl (by kernel_rfl) (by kernel_rfl) (by kernel_rfl) (fun _ _ _ h => h) (by rfl) hHeld (v := ?v2) ?hy2 ?rest2
      case hy2 => (intro w' hSw; go_simp <;> try rfl)
      try simp only [Act.put, List.setIfInBounds_toArray, List.set_cons_zero, List.set_cons_succ]
      refine reg_take (i := 2) rfl (by kernel_rfl) (by kernel_rfl) (by kernel_rfl) (fun _ _ _ h => h) (by rfl) hHeld (v := ?v3) ?hy3 ?rest3
      case hy3 => (intro w' hSw; go_simp <;> try rfl)
      try simp only [Act.put, List.setIfInBounds_toArray, List.set_cons_zero, List.set_cons_succ]
      refine reg_take (i := 3) rfl (by kernel_rfl) (by kernel_rfl) (by kernel_rfl) (fun _ _ _ h => h) (by rfl) hHeld (v := ?v4) ?hy4 ?rest4
      case hy4 => (intro w' hSw; go_simp <;> try rfl)
      try simp only [Act.put, List.setIfInBounds_toArray, List.set_cons_zero, List.set_cons_succ]
      refine reg_take (i := 4) rfl (by kernel_rfl) (by kernel_rfl) (by kernel_rfl) (fun _ _ _ h => h) (by rfl) hHeld (v := ?v5) ?hy5 ?rest5
      case hy5 => (intro w' hSw; go_simp <;> try rfl)
      try simp only [Act.put, List.setIfInBounds_toArray, List.set_cons_zero, List.set_cons_succ]
      refine reg_take (i := 5) rfl (by kernel_rfl) (by kernel_rfl) (by kernel_rfl) (fun _ _ _ h => h) (by rfl) hHeld (v := ?v6) ?hy6 ?rest6
      case hy6 => (intro w' hSw; go_simp <;> try rfl)
      try simp only [Act.put, List.setIfInBounds_toArray, List.set_cons_zero, List.set_cons_succ]
      refine reg_take (i := 6) rfl (by kernel_rfl) (by kernel_rfl) (by kernel_rfl) (fun _ _ _ h => h) (by rfl) hHeld (v := ?v7) ?hy7 ?rest7
      case hy7 => (intro w' hSw; go_simp <;> try rfl)
      try simp only [Act.put, List.setIfInBounds_toArray, List.set_cons_zero, List.set_cons_succ]
      refine wpAnyH_ready (rs := [7]) (by kernel_rfl) (by simp) ?_
      refine reg_cons rfl (by rfl) (fun K hK => ?_) ?_
      · go_simp
        refine hK.out _ _ (trivial) (fun hHeld => ?_)
        clear hK K
        try simp only [Act.put, List.setIfInBounds_toArray, List.set_cons_zero, List.set_cons_succ]
        refine wpAnyH_ready (rs := [8]) (by kernel_rfl) (by simp) ?_
        refine reg_cons rfl (by rfl) (fun K hK => ?_) ?_
        · refine wp_appL (B := w.heap.size) (O.kept bA) (two_lst wr.drew _ _ h0a h0b h1a h1b) (fun e => by cases e) (by simp; omega) (by omega) (by omega) rfl rfl ?_
          intro a2 d2 w2 O2 b2
          refine hK.out _ _ (trivial) (fun hHeld => ?_)
          clear hK K
          try simp only [Act.put, List.setIfInBounds_toArray, List.set_cons_zero, List.set_cons_succ]
          refine reg_take (i := 9) rfl (by kernel_rfl) (by kernel_rfl) (by kernel_rfl) (fun _ _ _ h => h) (by rfl) hHeld (v := ?v8) ?hy8 ?rest8
          case hy8 => (intro w' hSw; go_simp <;> try rfl)
          try simp only [Act.put, List.setIfInBounds_toArray, List.set_cons_zero, List.set_cons_succ]
          refine wpAnyH_done (by kernel_rfl) ?_ _
          go_wp2
          rw [HX.out] at O2
          have B2 := B.trans ((bA.mono zB).trans b2)
          go_roundw
          case rel => exact ⟨i + 1, l + 2, a2, d2, by omega, rfl, by go_num, O2, B2⟩
          case measure => simp [intOf]; omega
        exact AllReadyH.nil
      exact AllReadyH.nil
    · obtain rfl : i = 32 := by omega
      rw [List.take_of_length_le (by rw [HDl.out]; omega)] at O
      have hs := own_string O
      rw [show strOf (hexI D) = T from hT.out.symm] at hs
      rw [show ((32 : Nat) : Int) = 32 from rfl]
      go_wp2
      go_ret
      exact ⟨rfl, B⟩
end Go.Proofs.YtfmpccfoemgiiaaDoor

