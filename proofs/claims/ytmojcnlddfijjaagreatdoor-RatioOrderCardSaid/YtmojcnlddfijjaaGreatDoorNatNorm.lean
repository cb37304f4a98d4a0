/-
  slices.Clone at Nat, nat.Norm, nat.Of.
-/
import Derived.Test.YtmojcnlddfijjaaGreatDoorNatCmp
namespace Go.Proofs.YtmojcnlddfijjaaGreatDoor
open Go.RowKit NatMath

theorem info60 : (Tryz.prog.info? 66).map (fun i => (i.zero, i.size, i.bytes)) = some (some (.int .u32 0), 1, 4) := by kernel_rfl

/-- The cells of a slice that came in, as the append laws ask for them. -/
theorem Lst.cells {k : IntKind} {w : World} {a : Addr} {n c : Nat} {xs : List Int} (h : Lst k w (some a) n c xs) : ∀ j u, (xs.map (Value.int k))[j]? = some u → w.cell? (a.add j) = some u := by
  intro j u hu
  have hj : j < n := by
    have := (List.getElem?_eq_some_iff.1 hu).1
    simpa [h.len] using this
  have := h.cell j hj
  simp only [pt, Option.getD_some] at this
  rw [this]
  have hl := h.len
  rw [← hu]
  simp [List.getD, show j < xs.length by omega]

theorem Below.of_grown {B : Nat} {w w' : World} {row : Option Nat} (hg : w.grownBy w' row) (hB : B ≤ w.heap.size) (hr : ∀ k, row = some k → B ≤ k) : Below B w w' := (Below.refl B w).grown hg hB hr

set_option maxHeartbeats 800000 in
theorem clone_c (ao : Option Addr) (n c : Nat) (xs : List Int) (w : World) (h : Lst .u32 w ao n c xs) (hn : n ≤ 1073741824) :
    Calls Tryz.prog 86 #[.slice ao n c] w fun e w' => ∃ ao' c', e = .returned (.slice ao' n c') ∧ Own 66 .u32 w.heap.size w' ao' n c' xs ∧ Below w.heap.size w w' := by
  have hroom := h.room
  have hcap := h.cap
  have hl := Lib.hid h.len
  obtain ⟨i0, hi, hz0, hz1, hz2⟩ := info_parts info60
  have hnil := fun W => Lib.run_eql_slice_nil (P := Tryz.prog) W 23 66 ao n c 0 0 Tryz.underlying23
  cases ao with
  | none =>
    have h0 : n = 0 := by
      rcases Nat.eq_zero_or_pos n with h0 | h0
      · exact h0
      · obtain ⟨a, ha⟩ := h.isSome h0; cases ha
    subst h0
    have hx : xs = [] := List.eq_nil_of_length_eq_zero hl.out
    subst hx
    go_enter Tryz.func86, Tryz.ntmps86
    go_wp2
    go_ret
    exact ⟨none, 0, rfl, ⟨World.ownsRow_nil _ _ _ _, fun _ hx => by cases hx⟩, Below.refl _ _⟩
  | some a =>
    go_enter Tryz.func86, Tryz.ntmps86
    have hown : (w.alloc (.cells #[] 66)).ownsRow w.heap.size 66 1 (.slice (some ⟨w.heap.size, 0, none⟩) 0 0) 0 [] := World.ownsRow_made w #[] 0 (Nat.le_refl _) (by unfold maxLen; omega) rfl
    have hcells := (h.below ((Below.refl w.heap.size w).alloc (Nat.le_refl _) (.cells #[] 66))).cells
    have HC := Lib.hid hcells; clear hcells
    have H := Lib.hid h; clear h
    go_wp2_with (at_builtin; refine wpList_append_own _ rfl _ _ 23 rfl w.heap.size 66 i0 (.int .u32 0) 1 4 Tryz.underlying23 hi hz0 hz1 hz2 rfl (by decide) _ _ _ rfl hown a n c (xs.map (Value.int .u32)) rfl (by simp [hl.out]) HC.out (ints_oneCell _ _) ?c1 ?c2 ?c3 ?_)
    case c1 => unfold maxLen; omega
    case c2 => omega
    case c3 => simp
    intro v' w1 hown0 hgrow _
    have hown' : w1.ownsRow w.heap.size 66 1 v' n (xs.map (Value.int .u32)) := by simpa using hown0
    clear hown0
    have hv : ∃ ao' c', v' = .slice ao' n c' := by
      rcases hown'.2 with ⟨hv, h0⟩ | ⟨g, cap, _, hv, _⟩
      · exact ⟨none, 0, by rw [hv, h0]⟩
      · exact ⟨_, cap, hv⟩
    obtain ⟨ao', c', rfl⟩ := hv
    have hb : Below w.heap.size w w1 := ((Below.refl w.heap.size w).alloc (Nat.le_refl _) (.cells #[] 66)).grown hgrow (by simp) (fun k hk => by simp [Value.ownBlock] at hk; omega)
    have hw := H.out.wf
    clear hgrow hown
    have HO := Lib.hid hown'; clear hown'
    go_wp2
    go_ret
    exact ⟨ao', c', rfl, ⟨HO.out, hw⟩, hb⟩

set_option maxHeartbeats 800000 in
theorem norm_c (ao : Option Addr) (n c : Nat) (xs : List Int) (w : World) (h : Lst .u32 w ao n c xs) (hn : n ≤ 1073741824) :
    Calls Tryz.prog 72 #[.slice ao n c] w fun e w' => ∃ ao' n' c', n' ≤ n ∧ e = .returned (.slice ao' n' c') ∧ Own 66 .u32 w.heap.size w' ao' n' c' (limbs (val xs)) ∧ Below w.heap.size w w' := by
  have hl := limbs_val_length h.ok
  rw [h.len] at hl
  go_enter Tryz.func72, Tryz.ntmps72
  go_wp2_with fail
  refine (trim_c _ _ _ xs _ h).mono ?_
  rintro e w' ⟨rfl, a1, n1, c1, rfl, h1, -⟩
  have hl1 := h1.len
  have hle : n1 ≤ n := by omega
  clear hl hl1
  go_wp2_with fail
  refine (clone_c _ _ _ _ _ h1 (by omega)).mono ?_
  rintro e w' ⟨a2, c2, rfl, ho, hb⟩
  go_wp2_with fail
  go_ret
  exact ⟨a2, n1, c2, hle, rfl, ho, hb⟩

/-- The limbs of a word. -/
theorem limbs_word (x : Int) (h0 : 0 ≤ x) (h1 : x ≤ 18446744073709551615) : val [x % 4294967296, x / 4294967296] = x.toNat := by
  simp only [val]
  omega

set_option maxHeartbeats 800000 in
theorem of_c (x : Int) (w : World) (h0 : 0 ≤ x) (h1 : x ≤ 18446744073709551615) :
    Calls Tryz.prog 54 #[.int .u64 x] w fun e w' => ∃ ao' n' c', n' ≤ 2 ∧ e = .returned (.slice ao' n' c') ∧ Own 66 .u32 w.heap.size w' ao' n' c' (limbs x.toNat) ∧ Below w.heap.size w w' := by
  have ho : Own 66 .u32 w.heap.size (w.alloc (.cells #[.int .u32 (x % 4294967296), .int .u32 (x / 4294967296)] 66)) (some ⟨w.heap.size, 0, none⟩) 2 2 [x % 4294967296, x / 4294967296] := by
    refine ⟨World.ownsRow_lit w #[.int .u32 (x % 4294967296), .int .u32 (x / 4294967296)] 2 (Nat.le_refl _) (by unfold maxLen; omega) rfl, ?_⟩
    intro y hy
    simp at hy
    rcases hy with rfl | rfl <;> exact wf_u32 (by omega) (by omega)
  have hv := Lib.hid (limbs_word x h0 h1)
  have HO := Lib.hid ho; clear ho
  go_enter Tryz.func54, Tryz.ntmps54
  go_wp2_with fail
  refine (trim_c _ _ _ _ _ HO.out.lst).mono ?_
  rintro e w' ⟨rfl, a1, n1, c1, rfl, k1, hh⟩
  go_wp2_with fail
  go_ret
  have hlen := k1.len
  have hle := limbs_val_length HO.out.lst.ok
  rw [hlen] at hle
  refine ⟨a1, n1, c1, hle, rfl, ?_, (Below.refl _ _).alloc (Nat.le_refl _) _⟩
  rw [← hv.out, limbs_take HO.out.lst.ok, hlen]
  exact HO.out.head hh hle
end Go.Proofs.YtmojcnlddfijjaaGreatDoor
