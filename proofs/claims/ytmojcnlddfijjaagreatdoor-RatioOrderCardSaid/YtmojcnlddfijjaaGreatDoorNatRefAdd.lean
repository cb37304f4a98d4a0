/-
  electionref01.Add, Sub.
-/
import Derived.Test.YtmojcnlddfijjaaGreatDoorNatRefCmp
namespace Go.Proofs.YtmojcnlddfijjaaGreatDoor
open Go.RowKit NatMath

/-- Behind i bits of an addition. -/
structure AddT (xs ys out : List Bool) (cr : Bool) (i : Nat) : Prop where
  eq : bval out + b2n cr * 2 ^ i = bval (xs.take i) + bval (ys.take i)
  len : out.length = i
theorem AddT.start (xs ys : List Bool) : AddT xs ys [] false 0 := ⟨by simp [bval, b2n], rfl⟩
theorem add_bits (x y c : Bool) : b2n x + b2n y + b2n c = b2n ((x != y) != c) + 2 * b2n (x && y || x && c || y && c) := by cases x <;> cases y <;> cases c <;> decide
theorem AddT.step {xs ys out : List Bool} {cr : Bool} {i : Nat} (h : AddT xs ys out cr i) {x y : Bool} (hx : x = xs.getD i false) (hy : y = ys.getD i false) : AddT xs ys (out ++ [(x != y) != cr]) (x && y || x && cr || y && cr) (i + 1) := by
  refine ⟨?_, by simp [h.len]⟩
  have he := h.eq
  have ha := add_bits x y cr
  rw [bval_append, bval_take_succ, bval_take_succ, ← hx, ← hy, h.len, Nat.pow_succ]
  simp only [bval, Nat.mul_zero, Nat.add_zero]
  generalize 2 ^ i = P at he ⊢
  have h2 := congrArg (· * P) ha
  simp only [Nat.add_mul] at h2
  rw [Nat.mul_comm P (b2n _), show b2n (x && y || x && cr || y && cr) * (P * 2) = 2 * b2n (x && y || x && cr || y && cr) * P by rw [Nat.mul_comm P 2, ← Nat.mul_assoc, Nat.mul_comm _ 2]]
  omega
theorem AddT.done {xs ys out : List Bool} {cr : Bool} {K : Nat} (h : AddT xs ys out cr (K + 1)) (hx : xs.length ≤ K) (hy : ys.length ≤ K) : bval out = bval xs + bval ys := by
  have he := h.eq
  rw [List.take_of_length_le (by omega), List.take_of_length_le (by omega), Nat.pow_succ] at he
  have h1 := bval_lt xs
  have h2 := bval_lt ys
  have h3 : 2 ^ xs.length ≤ 2 ^ K := Nat.pow_le_pow_right (by omega) hx
  have h4 : 2 ^ ys.length ≤ 2 ^ K := Nat.pow_le_pow_right (by omega) hy
  cases cr with
  | false => simpa [b2n] using he
  | true => simp only [b2n, if_true] at he; omega

/-- Behind i bits of a subtraction. -/
structure SubT (xs ys out : List Bool) (br : Bool) (i : Nat) : Prop where
  eq : bval out + bval (ys.take i) = bval (xs.take i) + b2n br * 2 ^ i
  len : out.length = i
theorem SubT.start (xs ys : List Bool) : SubT xs ys [] false 0 := ⟨by simp [bval, b2n], rfl⟩
theorem sub_bits (x y c : Bool) : b2n ((x != y) != c) + b2n y + b2n c = b2n x + 2 * b2n (!x && y || !x && c || y && c) := by cases x <;> cases y <;> cases c <;> decide
theorem SubT.step {xs ys out : List Bool} {br : Bool} {i : Nat} (h : SubT xs ys out br i) {x y : Bool} (hx : x = xs.getD i false) (hy : y = ys.getD i false) : SubT xs ys (out ++ [(x != y) != br]) (!x && y || !x && br || y && br) (i + 1) := by
  refine ⟨?_, by simp [h.len]⟩
  have he := h.eq
  have ha := sub_bits x y br
  rw [bval_append, bval_take_succ, bval_take_succ, ← hx, ← hy, h.len, Nat.pow_succ]
  simp only [bval, Nat.mul_zero, Nat.add_zero]
  generalize 2 ^ i = P at he ⊢
  have h2 := congrArg (· * P) ha
  simp only [Nat.add_mul] at h2
  rw [Nat.mul_comm P (b2n _), show b2n (!x && y || !x && br || y && br) * (P * 2) = 2 * b2n (!x && y || !x && br || y && br) * P by rw [Nat.mul_comm P 2, ← Nat.mul_assoc, Nat.mul_comm _ 2]]
  omega
theorem bval_take_mod (ys : List Bool) (n : Nat) : bval (ys.take n) = bval ys % 2 ^ n := by
  by_cases hn : n ≤ ys.length
  · have h := bval_append (ys.take n) (ys.drop n)
    rw [List.take_append_drop] at h
    have hl : (ys.take n).length = n := by simp; omega
    rw [hl] at h
    rw [h, Nat.add_mul_mod_self_left, Nat.mod_eq_of_lt (bval_take_lt ys n)]
  · have h1 := bval_lt ys
    have h2 : 2 ^ ys.length ≤ 2 ^ n := Nat.pow_le_pow_right (by omega) (by omega)
    rw [List.take_of_length_le (by omega), Nat.mod_eq_of_lt (by omega)]
theorem SubT.done {xs ys out : List Bool} {br : Bool} (h : SubT xs ys out br xs.length) (hle : bval ys ≤ bval xs) : bval out = bval xs - bval ys := by
  have he := h.eq
  have h1 := bval_lt xs
  have h2 := bval_lt out
  rw [h.len] at h2
  rw [List.take_of_length_le (Nat.le_refl _), bval_take_mod, Nat.mod_eq_of_lt (by omega)] at he
  cases br with
  | false => simp [b2n] at he; omega
  | true => simp only [b2n, if_true] at he; omega

set_option maxHeartbeats 6400000 in
set_option maxRecDepth 100000 in
theorem addT_c (ao bo : Option Addr) (n c m d : Nat) (xs ys : List Bool) (w : World) (h : LstB w ao n c xs) (k : LstB w bo m d ys) (hn : n ≤ 1073741824) (hm : m ≤ 1073741824) :
    Calls Tryz.prog 35 #[.slice ao n c, .slice bo m d] w fun e w' => ∃ ao' n' c', e = .returned (.slice ao' n' c') ∧ OwnT w.heap.size w' ao' n' c' (bitsN (bval xs + bval ys)) ∧ Below w.heap.size w w' := by
  obtain ⟨i0, hi, hz0, hz1, hz2⟩ := info_parts info4
  have hr1 := h.room
  have hc1 := h.cap
  have hr2 := k.room
  have hc2 := k.cap
  have hxl := Lib.hid h.len
  have hyl := Lib.hid k.len
  have HA := Lib.hid (fun j wr (hb : Below w.heap.size w wr) => at_c ao n c xs j wr (h.below hb))
  have HB := Lib.hid (fun j wr (hb : Below w.heap.size w wr) => at_c bo m d ys j wr (k.below hb))
  have hst := AddT.start xs ys
  clear h k
  rcases (show n < m ∨ m ≤ n by omega) with hnm | hnm
  case' inl =>
    have hxk : Hid (xs.length ≤ m) := by rw [hxl.out]; exact Nat.le_of_lt hnm
    have hyk : Hid (ys.length ≤ m) := by rw [hyl.out]; exact Nat.le_refl _
    obtain ⟨K, rfl⟩ : ∃ x, x = m := ⟨_, rfl⟩
    have hk : K ≤ 1073741824 := hm
  case' inr =>
    have hxk : Hid (xs.length ≤ n) := by rw [hxl.out]; exact Nat.le_refl _
    have hyk : Hid (ys.length ≤ n) := by rw [hyl.out]; exact hnm
    obtain ⟨K, rfl⟩ : ∃ x, x = n := ⟨_, rfl⟩
    have hk : K ≤ 1073741824 := hn
  all_goals
    go_enter Tryz.func35, Tryz.ntmps35
    go_wp2_with fail
    go_loopw [5, 6, 7] (fun s5 s6 i wr => ∃ (j : Nat) (cr : Bool) (a : Option Addr) (f : Nat) (out : List Bool), j ≤ K + 1 ∧ i = .int .i64 j ∧ s6 = .bool cr ∧ s5 = .slice a j f ∧ AddT xs ys out cr j ∧ OwnT w.heap.size wr a j f out ∧ Below w.heap.size w wr)
      (fun _ _ i _ => K + 1 - (intOf i).toNat)
    case atStart => exact ⟨0, false, none, 0, [], Nat.zero_le _, rfl, rfl, rfl, hst, OwnT.nil _ _, Below.refl _ _⟩
    case round =>
      obtain ⟨j, cr, a, f, out, hj, rfl, rfl, rfl, hinv, ho, hb⟩ := hrel
      clear hst
      by_cases hlt : j ≤ K
      · have hA1 := HA.out j wr hb
        have hB1 := HB.out j wr hb
        obtain ⟨x, hx⟩ : ∃ x, Hid (x = xs.getD j false) := ⟨_, rfl⟩
        obtain ⟨y, hy⟩ : ∃ y, Hid (y = ys.getD j false) := ⟨_, rfl⟩
        rw [← hx.out] at hA1
        rw [← hy.out] at hB1
        have hs := hinv.step hx.out hy.out
        have HA1 := Lib.hid hA1; have HB1 := Lib.hid hB1; have HS := Lib.hid hs
        have HC := Lib.hid (World.ownsRow.alloc ho (.cells #[Value.bool ((x != y) != cr)] 4))
        have HO := Lib.hid ho; have HBL := Lib.hid hb
        have hsz := hb.size
        have b63 : Hid (j + 1 ≤ maxLen) := by show j + 1 ≤ maxLen; unfold maxLen; omega
        have b47 : Hid ((j + 1) * 1 ≤ 140737488355328) := by show (j + 1) * 1 ≤ 140737488355328; omega
        clear hA1 hB1 hs hinv ho hb hx hy
        go_wp2_with fail
        refine HA1.out.mono ?_
        rintro e w' ⟨rfl, rfl⟩
        go_wp2_with fail
        refine HB1.out.mono ?_
        rintro e w' ⟨rfl, rfl⟩
        clear HA1 HB1
        cases x <;> cases y <;> cases cr
        all_goals
          go_wp2_with (at_builtin; refine wpList_append_own _ rfl _ _ 28 rfl w.heap.size 4 i0 (.bool false) 1 1 Tryz.underlying28 hi hz0 hz1 hz2 rfl (by decide) _ _ _ rfl HC.out ⟨wr.heap.size, 0, none⟩ 1 1 [.bool _] rfl rfl (cell_one_new _ _ _) (by intro u hu; simp at hu; subst hu; rfl) b63.out b47.out (by simp; omega) ?_)
          intro v2 w1 hown hgr _
          obtain ⟨a2, f2, rfl⟩ := own_shape hown
          have b2 := (HBL.out.alloc hsz (.cells #[Value.bool _] 4)).grown hgr (by simp; omega) (fun g hg => (HO.out.lt g hg).1)
          have R2 := Lib.hid hown
          clear hown hgr HC HO HBL
          go_wp2_with fail
          go_roundw
          case rel => exact ⟨j + 1, _, a2, f2, _, by omega, by go_num, rfl, rfl, HS.out, by (show w1.ownsRow _ _ _ _ _ _; rw [List.map_append]; exact R2.out), b2⟩
          case measure => simp [intOf]; omega
      · obtain rfl : j = K + 1 := by omega
        have hv := hinv.done hxk.out hyk.out
        have ht := trimT_c a (K + 1) f out wr ho.lst (by omega)
        rw [hv] at ht
        have HTR := Lib.hid ht
        have HBL := Lib.hid hb
        clear hv ht hinv ho hb
        go_wp2_with fail
        refine HTR.out.mono ?_
        rintro e w2 ⟨a2, n2, c2, rfl, o2, b2⟩
        go_wp2_with fail
        go_ret
        exact ⟨a2, n2, c2, rfl, o2.low HBL.out.size, belowOn HBL.out b2 HBL.out.size⟩

set_option maxHeartbeats 6400000 in
set_option maxRecDepth 100000 in
theorem subT_c (ao bo : Option Addr) (n c m d : Nat) (xs ys : List Bool) (w : World) (h : LstB w ao n c xs) (k : LstB w bo m d ys) (hn : n ≤ 1073741824) (hle : bval ys ≤ bval xs) :
    Calls Tryz.prog 37 #[.slice ao n c, .slice bo m d] w fun e w' => ∃ ao' n' c', e = .returned (.slice ao' n' c') ∧ OwnT w.heap.size w' ao' n' c' (bitsN (bval xs - bval ys)) ∧ Below w.heap.size w w' := by
  obtain ⟨i0, hi, hz0, hz1, hz2⟩ := info_parts info4
  have hr1 := h.room
  have hc1 := h.cap
  have hxl := Lib.hid h.len
  have HA := Lib.hid (fun j wr (hb : Below w.heap.size w wr) => at_c ao n c xs j wr (h.below hb))
  have HB := Lib.hid (fun j wr (hb : Below w.heap.size w wr) => at_c bo m d ys j wr (k.below hb))
  have hst := SubT.start xs ys
  have HLE := Lib.hid hle
  clear h k hle
  go_enter Tryz.func37, Tryz.ntmps37
  go_wp2_with fail
  go_loopw [5, 6, 7] (fun s5 s6 i wr => ∃ (j : Nat) (cr : Bool) (a : Option Addr) (f : Nat) (out : List Bool), j ≤ n ∧ i = .int .i64 j ∧ s6 = .bool cr ∧ s5 = .slice a j f ∧ SubT xs ys out cr j ∧ OwnT w.heap.size wr a j f out ∧ Below w.heap.size w wr)
    (fun _ _ i _ => n - (intOf i).toNat)
  case atStart => exact ⟨0, false, none, 0, [], Nat.zero_le _, rfl, rfl, rfl, hst, OwnT.nil _ _, Below.refl _ _⟩
  case round =>
    obtain ⟨j, cr, a, f, out, hj, rfl, rfl, rfl, hinv, ho, hb⟩ := hrel
    clear hst
    by_cases hlt : j < n
    · have hA1 := HA.out j wr hb
      have hB1 := HB.out j wr hb
      obtain ⟨x, hx⟩ : ∃ x, Hid (x = xs.getD j false) := ⟨_, rfl⟩
      obtain ⟨y, hy⟩ : ∃ y, Hid (y = ys.getD j false) := ⟨_, rfl⟩
      rw [← hx.out] at hA1
      rw [← hy.out] at hB1
      have hs := hinv.step hx.out hy.out
      have HA1 := Lib.hid hA1; have HB1 := Lib.hid hB1; have HS := Lib.hid hs
      have HC := Lib.hid (World.ownsRow.alloc ho (.cells #[Value.bool ((x != y) != cr)] 4))
      have HO := Lib.hid ho; have HBL := Lib.hid hb
      have hsz := hb.size
      have b63 : Hid (j + 1 ≤ maxLen) := by show j + 1 ≤ maxLen; unfold maxLen; omega
      have b47 : Hid ((j + 1) * 1 ≤ 140737488355328) := by show (j + 1) * 1 ≤ 140737488355328; omega
      clear hA1 hB1 hs hinv ho hb hx hy
      go_wp2_with fail
      refine HA1.out.mono ?_
      rintro e w' ⟨rfl, rfl⟩
      go_wp2_with fail
      refine HB1.out.mono ?_
      rintro e w' ⟨rfl, rfl⟩
      clear HA1 HB1
      cases x <;> cases y <;> cases cr
      all_goals
        go_wp2_with (at_builtin; refine wpList_append_own _ rfl _ _ 28 rfl w.heap.size 4 i0 (.bool false) 1 1 Tryz.underlying28 hi hz0 hz1 hz2 rfl (by decide) _ _ _ rfl HC.out ⟨wr.heap.size, 0, none⟩ 1 1 [.bool _] rfl rfl (cell_one_new _ _ _) (by intro u hu; simp at hu; subst hu; rfl) b63.out b47.out (by simp; omega) ?_)
        intro v2 w1 hown hgr _
        obtain ⟨a2, f2, rfl⟩ := own_shape hown
        have b2 := (HBL.out.alloc hsz (.cells #[Value.bool _] 4)).grown hgr (by simp; omega) (fun g hg => (HO.out.lt g hg).1)
        have R2 := Lib.hid hown
        clear hown hgr HC HO HBL
        go_wp2_with fail
        go_roundw
        case rel => exact ⟨j + 1, _, a2, f2, _, by omega, by go_num, rfl, rfl, HS.out, by (show w1.ownsRow _ _ _ _ _ _; rw [List.map_append]; exact R2.out), b2⟩
        case measure => simp [intOf]; omega
    · obtain rfl : j = n := by omega
      have hv : bval out = bval xs - bval ys := by
        have h1 := hinv
        rw [← hxl.out] at h1
        exact h1.done HLE.out
      have ht := trimT_c a j f out wr ho.lst (by omega)
      rw [hv] at ht
      have HTR := Lib.hid ht
      have HBL := Lib.hid hb
      clear hv ht hinv ho hb
      go_wp2_with fail
      refine HTR.out.mono ?_
      rintro e w2 ⟨a2, n2, c2, rfl, o2, b2⟩
      go_wp2_with fail
      go_ret
      exact ⟨a2, n2, c2, rfl, o2.low HBL.out.size, belowOn HBL.out b2 HBL.out.size⟩
end Go.Proofs.YtmojcnlddfijjaaGreatDoor
