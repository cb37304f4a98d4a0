/-
  electionref01.shift, Mul.
-/
import Derived.Test.YtmojcnlddfijjaaGreatDoorNatRefAdd
namespace Go.Proofs.YtmojcnlddfijjaaGreatDoor
open Go.RowKit NatMath

/-- What 'make([]bool, n)' leaves. -/
theorem OwnT.made {B : Nat} {w : World} {g n : Nat} (h : w.ownsRow B 4 1 (.slice (some ⟨g, 0, none⟩) n n) n (madeCells #[Value.bool false] n).toList) : OwnT B w (some ⟨g, 0, none⟩) n n (List.replicate n false) := by
  rw [toList_madeCells_one] at h
  show w.ownsRow _ _ _ _ _ _
  rwa [List.map_replicate]

set_option maxHeartbeats 1600000 in
set_option maxRecDepth 100000 in
theorem shift_c (ao : Option Addr) (n c : Nat) (xs : List Bool) (k : Nat) (w : World) (h : LstB w ao n c xs) (hn : n ≤ 1073741824) (hk : k ≤ 1073741824) :
    Calls Tryz.prog 62 #[.slice ao n c, .int .i64 k] w fun e w' => ∃ ao' c', e = .returned (.slice ao' (k + n) c') ∧ OwnT w.heap.size w' ao' (k + n) c' (List.replicate k false ++ xs) ∧ Below w.heap.size w w' := by
  obtain ⟨i0, hi, hz0, hz1, hz2⟩ := info_parts info4
  have hl := Lib.hid h.len
  have hroom := h.room
  have hcap := h.cap
  have b63 : Hid (k + n ≤ maxLen) := by show k + n ≤ maxLen; unfold maxLen; omega
  have b47 : Hid ((k + n) * 1 ≤ 140737488355328) := by show (k + n) * 1 ≤ 140737488355328; omega
  have hlm : Hid ((xs.map Value.bool).length = n * 1) := by show _ = _; rw [List.length_map, hl.out, Nat.mul_one]
  cases ao with
  | none =>
    have h0 : n = 0 := by
      rcases Nat.eq_zero_or_pos n with h0 | h0
      · exact h0
      · obtain ⟨a, ha⟩ := h.isSome h0; cases ha
    have hc0 : c = 0 := h.nil0 rfl
    subst h0
    subst hc0
    have hx : xs = [] := List.eq_nil_of_length_eq_zero hl.out
    subst hx
    go_enter Tryz.func62, Tryz.ntmps62
    go_wp2_with (at_make; refine wpList_make_full _ rfl _ _ 28 rfl w.heap.size 4 i0 (.bool false) 1 Tryz.underlying28 hi hz0 hz1 _ _ _ _ k rfl rfl (by omega) (by omega) ?b2 ?b3 (Nat.le_refl _) ?_)
    case b2 => rw [hz2]; omega
    case b3 => unfold maxLen; omega
    intro w1 hown hgr
    have o1 : OwnT w.heap.size w1 (some ⟨w.heap.size, 0, none⟩) k k (List.replicate k false) := OwnT.made hown
    have b1 : Below w.heap.size w w1 := below_grown_none (Below.refl _ _) hgr (Nat.le_refl _)
    have HO := Lib.hid o1
    clear hown hgr o1
    go_wp2_with (at_builtin; refine wpList_append_own_none rfl _ _ 28 rfl w.heap.size 4 i0 1 Tryz.underlying28 hi _ k _ rfl HO.out rfl ?_)
    go_ret
    exact ⟨some ⟨w.heap.size, 0, none⟩, k, rfl, by rw [List.append_nil]; exact HO.out, b1⟩
  | some a =>
    have hlow := Lib.hid h
    clear h
    go_enter Tryz.func62, Tryz.ntmps62
    go_wp2_with (at_make; refine wpList_make_full _ rfl _ _ 28 rfl w.heap.size 4 i0 (.bool false) 1 Tryz.underlying28 hi hz0 hz1 _ _ _ _ k rfl rfl (by omega) (by omega) ?b2 ?b3 (Nat.le_refl _) ?_)
    case b2 => rw [hz2]; omega
    case b3 => unfold maxLen; omega
    intro w1 hown hgr
    have o1 : OwnT w.heap.size w1 (some ⟨w.heap.size, 0, none⟩) k k (List.replicate k false) := OwnT.made hown
    have b1 : Below w.heap.size w w1 := below_grown_none (Below.refl _ _) hgr (Nat.le_refl _)
    have HO := Lib.hid o1
    have HC := Lib.hid (hlow.out.below b1).cells
    have hsz := b1.size
    clear hown hgr o1
    go_wp2_with (at_builtin; refine wpList_append_own _ rfl _ _ 28 rfl w.heap.size 4 i0 (.bool false) 1 1 Tryz.underlying28 hi hz0 hz1 hz2 rfl (by decide) _ _ _ rfl HO.out a n c (xs.map Value.bool) rfl hlm.out HC.out (bools_oneCell _) b63.out b47.out hsz ?_)
    intro v2 w2 hown hgr _
    obtain ⟨a2, c2, rfl⟩ := own_shape hown
    have o2 : OwnT w.heap.size w2 a2 (k + n) c2 (List.replicate k false ++ xs) := by
      show w2.ownsRow _ _ _ _ _ _
      rw [List.map_append, List.map_replicate]
      exact hown
    have b2 : Below w.heap.size w w2 := b1.grown hgr hsz (fun g hg => (HO.out.lt g hg).1)
    clear hown hgr
    go_wp2_with fail
    go_ret
    exact ⟨a2, c2, rfl, o2, b2⟩

theorem bval_shift (k : Nat) (xs : List Bool) : bval (List.replicate k false ++ xs) = bval xs * 2 ^ k := by
  rw [bval_append, bval_falses, List.length_replicate, Nat.zero_add, Nat.mul_comm]

set_option maxHeartbeats 1600000 in
set_option maxRecDepth 100000 in
theorem mulT_c (ao bo : Option Addr) (n c m d : Nat) (xs ys : List Bool) (w : World) (h : LstB w ao n c xs) (k : LstB w bo m d ys) (hn : n ≤ 1048576) (hm : m ≤ 1048576) :
    Calls Tryz.prog 34 #[.slice ao n c, .slice bo m d] w fun e w' => ∃ ao' n' c', e = .returned (.slice ao' n' c') ∧ OwnT w.heap.size w' ao' n' c' (bitsN (bval xs * bval ys)) ∧ Below w.heap.size w w' := by
  have hr1 := h.room
  have hc1 := h.cap
  have hr2 := k.room
  have hc2 := k.cap
  have hyl := Lib.hid k.len
  have hxb : Hid (bval xs < 2 ^ n) := by have := bval_lt xs; rw [h.len] at this; exact this
  have HA := Lib.hid h; have HB := Lib.hid k
  have hst : OwnT w.heap.size w none 0 0 (bitsN (bval xs * bval (ys.take 0))) := by
    rw [List.take_zero, show bval [] = 0 from rfl, Nat.mul_zero, bitsN_zero]; exact OwnT.nil _ _
  clear h k
  go_enter Tryz.func34, Tryz.ntmps34
  go_wp2_with fail
  go_loopw [5, 6] (fun s5 i wr => ∃ (j : Nat) (a : Option Addr) (l f : Nat), j ≤ m ∧ i = .int .i64 j ∧ s5 = .slice a l f ∧ OwnT w.heap.size wr a l f (bitsN (bval xs * bval (ys.take j))) ∧ Below w.heap.size w wr)
    (fun _ i _ => m - (intOf i).toNat)
  case atStart => exact ⟨0, none, 0, 0, Nat.zero_le _, rfl, rfl, hst, Below.refl _ _⟩
  case round =>
    obtain ⟨j, a, l, f, hj, rfl, rfl, ho, hb⟩ := hrel
    clear hst
    have hlb : l ≤ n + j := by
      refine OwnT.len ho ▸ bitsN_length _ _ ?_
      have h1 := hxb.out
      have h2 := bval_take_lt ys j
      rw [Nat.pow_add]
      exact Nat.mul_lt_mul'' h1 h2
    by_cases hlt : j < m
    · have hia := ixB (HB.out.below hb) j hlt
      have hcl := (HB.out.below hb).cell j hlt
      cases hbit : ys.getD j false with
      | false =>
        rw [hbit] at hcl
        have e : bval (ys.take (j + 1)) = bval (ys.take j) := by rw [bval_take_succ, hbit]; simp [b2n]
        rw [← e] at ho
        clear e hbit
        go_wp2_with fail
        go_roundw
        case rel => exact ⟨j + 1, a, l, f, by omega, by go_num, rfl, ho, hb⟩
        case measure => simp [intOf]; omega
      | true =>
        rw [hbit] at hcl
        have HS := Lib.hid (shift_c ao n c xs j wr (HA.out.below hb) (by omega) (by omega))
        have e : bval xs * bval (ys.take j) + bval xs * 2 ^ j = bval xs * bval (ys.take (j + 1)) := by
          rw [bval_take_succ, hbit, Nat.mul_add]; simp [b2n]
        have HE := Lib.hid e
        have HO := Lib.hid ho.lst; have HBL := Lib.hid hb
        have hbs := hb.size
        clear e hbit ho hb
        go_wp2_with fail
        refine HS.out.mono ?_
        rintro e w2 ⟨a2, c2, rfl, o2, b2⟩
        have hra := addT_c _ _ _ _ _ _ _ _ _ (HO.out.below b2) o2.lst (by omega) (by omega)
        rw [bval_bitsN, bval_shift, HE.out] at hra
        have HR := Lib.hid hra
        have B2 := belowOn HBL.out b2 hbs
        clear hra o2 b2 HO HBL HS hcl hia
        go_wp2_with fail
        refine HR.out.mono ?_
        rintro e w3 ⟨a3, l3, c3, rfl, o3, b3⟩
        have B3 := belowOn B2 b3 B2.size
        have O3 := o3.low B2.size
        clear o3 b3 B2 HR
        go_wp2_with fail
        go_roundw
        case rel => exact ⟨j + 1, a3, l3, c3, by omega, by go_num, rfl, O3, B3⟩
        case measure => simp [intOf]; omega
    · obtain rfl : j = m := by omega
      have ht := trimT_c a l f _ wr ho.lst (by omega)
      rw [bval_bitsN, List.take_of_length_le (by rw [hyl.out]; exact Nat.le_refl _)] at ht
      have HTR := Lib.hid ht
      have HBL := Lib.hid hb
      clear ht ho hb
      go_wp2_with fail
      refine HTR.out.mono ?_
      rintro e w2 ⟨a2, n2, c2, rfl, o2, b2⟩
      go_wp2_with fail
      go_ret
      exact ⟨a2, n2, c2, rfl, o2.low HBL.out.size, belowOn HBL.out b2 HBL.out.size⟩
end Go.Proofs.YtmojcnlddfijjaaGreatDoor
