/-
  Slices of bools; electionref01.trim, at, Small, shift.
-/
import Derived.Test.YtmojcnlddfijjaaGreatDoorNatNorm
import Derived.Test.YtmojcnlddfijjaaGreatDoorNatMath
import Derived.Laws.AppendOwnNone
namespace Go.Proofs.YtmojcnlddfijjaaGreatDoor
open Go.RowKit NatMath

theorem info4 : (Tryz.prog.info? 4).map (fun i => (i.zero, i.size, i.bytes)) = some (some (.bool false), 1, 1) := by kernel_rfl
theorem size4 : (Tryz.prog.info? 4).map (·.size) = some 1 := by kernel_rfl

/-- A slice value reads as these bits. -/
structure LstB (w : World) (ao : Option Addr) (n c : Nat) (xs : List Bool) : Prop where
  len : xs.length = n
  cap : n ≤ c
  room : c ≤ 9223372036854775807
  isSome : 0 < n → ∃ a, ao = some a
  cell : ∀ i, i < n → w.cell? (pt ao i) = some (.bool (xs.getD i false))
  nil0 : ao = none → c = 0

theorem LstB.block {w : World} {ao : Option Addr} {n c : Nat} {xs : List Bool} (h : LstB w ao n c xs) (i : Nat) (hi : i < n) : (pt ao i).block < w.heap.size :=
  World.block_lt_of_cell? w _ (h.cell i hi)
theorem LstB.below {w w' : World} {ao : Option Addr} {n c : Nat} {xs : List Bool} (h : LstB w ao n c xs) (hb : Below w.heap.size w w') : LstB w' ao n c xs :=
  ⟨h.len, h.cap, h.room, h.isSome, fun i hi => (hb.cell (h.block i hi)).trans (h.cell i hi), h.nil0⟩
theorem LstB.drewN {w : World} {ao : Option Addr} {n c : Nat} {xs : List Bool} (h : LstB w ao n c xs) (q : Nat) : LstB (w.drewN q) ao n c xs := ⟨h.len, h.cap, h.room, h.isSome, h.cell, h.nil0⟩
theorem LstB.take {w : World} {ao : Option Addr} {n c : Nat} {xs : List Bool} (h : LstB w ao n c xs) {m : Nat} (hm : m ≤ n) : LstB w ao m c (xs.take m) := by
  have hl := h.len
  have hc := h.cap
  refine ⟨by simp; omega, by omega, h.room, fun h0 => h.isSome (by omega), fun i hi => ?_, h.nil0⟩
  rw [h.cell i (by omega)]
  simp [List.getD, hi]
theorem LstB.nil (w : World) : LstB w none 0 0 [] :=
  ⟨rfl, Nat.le_refl _, by omega, fun h => absurd h (by omega), fun i hi => absurd hi (by omega), fun _ => rfl⟩
theorem LstB.at {w : World} {ao : Option Addr} {n c : Nat} {xs : List Bool} (h : LstB w ao n c xs) (i : Nat) (hi : i < n) :
    ∃ x : Bool, Hid (x = xs.getD i false) ∧ w.cell? (pt ao i) = some (.bool x) := ⟨_, rfl, h.cell i hi⟩
theorem LstB.cells {w : World} {a : Addr} {n c : Nat} {xs : List Bool} (h : LstB w (some a) n c xs) : ∀ j u, (xs.map Value.bool)[j]? = some u → w.cell? (a.add j) = some u := by
  intro j u hu
  have hj : j < n := by
    have := (List.getElem?_eq_some_iff.1 hu).1
    simpa [h.len] using this
  have := h.cell j hj
  simp only [pt, Option.getD_some] at this
  rw [this]
  have hl := h.len
  rw [← hu]
  simp [List.getD, show j < xs.length by omega]
theorem bools_oneCell (zs : List Bool) : ∀ u ∈ zs.map Value.bool, u.oneCell' = true := by
  intro u hu
  obtain ⟨_, _, rfl⟩ := List.mem_map.1 hu
  rfl
theorem ixB {ao : Option Addr} {n c : Nat} {xs : List Bool} {w : World} (h : LstB w ao n c xs) (i : Nat) (hi : i < n) :
    ∀ W, (Instr.indexAt 28 (.slice ao n c) (.int .i64 (i : Int))).run Tryz.prog W = .ok (.pointer (some (pt ao i))) W := by
  intro W
  obtain ⟨a, rfl⟩ := h.isSome (by omega)
  obtain ⟨inf, hinf, hs⟩ := Option.map_eq_some_iff.1 size4
  simp [Instr.indexAt, run_underlying Tryz.underlying28, asIntOf, sizeOf, typeInfo, hinf, hs, pt, hi]

/-- A slice of bools that the call itself made. -/
def OwnT (B : Nat) (w : World) (ao : Option Addr) (n c : Nat) (xs : List Bool) : Prop := w.ownsRow B 4 1 (.slice ao n c) n (xs.map Value.bool)
section
variable {B : Nat} {w w' : World} {ao : Option Addr} {n c : Nat} {xs : List Bool}
theorem OwnT.len (h : OwnT B w ao n c xs) : xs.length = n := by
  have := h.1
  simpa using this
theorem OwnT.cases (h : OwnT B w ao n c xs) : (ao = none ∧ n = 0 ∧ c = 0 ∧ xs = []) ∨ ∃ g, ao = some ⟨g, 0, none⟩ ∧ B ≤ g ∧ g < w.heap.size ∧ n ≤ c ∧ c ≤ maxLen := by
  have hl := h.len
  rcases h.2 with ⟨hv, hn⟩ | ⟨g, cap, cur, hv, hg, hh, hn, hc, _⟩
  · injection hv with h1 h2 h3
    exact Or.inl ⟨h1, hn, h3, List.eq_nil_of_length_eq_zero (by omega)⟩
  · injection hv with h1 h2 h3
    subst h3
    exact Or.inr ⟨g, h1, hg, (Array.getElem?_eq_some_iff.1 hh).1, hn, hc⟩
theorem OwnT.lst (h : OwnT B w ao n c xs) : LstB w ao n c xs := by
  have hl := h.len
  rcases h.cases with ⟨rfl, rfl, rfl, rfl⟩ | ⟨g, rfl, hg, hgs, hn, hc⟩
  · exact LstB.nil _
  · refine ⟨hl, hn, by simpa [maxLen] using hc, fun _ => ⟨_, rfl⟩, fun i hi => ?_, fun e => by cases e⟩
    rw [pt_own, World.ownsRow.cellAt h i (by omega)]
    simp [List.getD, show i < xs.length by omega]
theorem OwnT.kept (h : OwnT B w ao n c xs) (hb : Below w.heap.size w w') : OwnT B w' ao n c xs :=
  World.ownsRow.kept h (row := none) ⟨hb.os, hb.tape, hb.output, hb.size, fun j hj _ => hb.block j hj⟩ (by cases (Value.slice ao n c).ownBlock <;> simp)
theorem OwnT.nil (B : Nat) (w : World) : OwnT B w none 0 0 [] := World.ownsRow_nil _ _ _ _
/-- The shape of what an append leaves. -/
theorem own_shape {e : TypeId} {v : Value} {us : List Value} (h : w.ownsRow B e 1 v n us) : ∃ ao c, v = .slice ao n c := by
  rcases h.2 with ⟨hv, h0⟩ | ⟨g, cap, _, hv, _⟩
  · exact ⟨none, 0, by rw [hv, h0]⟩
  · exact ⟨_, cap, hv⟩
theorem OwnT.lt (h : OwnT B w ao n c xs) : ∀ g, (Value.slice ao n c).ownBlock = some g → B ≤ g ∧ g < w.heap.size := World.ownsRow.lt h
end

set_option maxHeartbeats 1600000 in
set_option maxRecDepth 100000 in
/-- The copy without the zero bits at its end. -/
theorem trimT_c (ao : Option Addr) (n c : Nat) (xs : List Bool) (w : World) (h : LstB w ao n c xs) (hn : n ≤ 1099511627776) :
    Calls Tryz.prog 47 #[.slice ao n c] w fun e w' => ∃ ao' n' c', e = .returned (.slice ao' n' c') ∧ OwnT w.heap.size w' ao' n' c' (bitsN (bval xs)) ∧ Below w.heap.size w w' := by
  obtain ⟨i0, hi, hz0, hz1, hz2⟩ := info_parts info4
  have hroom := h.room
  have hcap := h.cap
  have hl := Lib.hid h.len
  have hnoneC : ao = none → n = 0 := fun e => by
    rcases Nat.eq_zero_or_pos n with h0 | h0
    · exact h0
    · obtain ⟨a, ha⟩ := h.isSome h0
      rw [e] at ha; cases ha
  have HN := Lib.hid hnoneC
  clear hnoneC
  go_enter Tryz.func47, Tryz.ntmps47
  go_wp2_with fail
  go_loop [3] (fun i => ∃ m : Nat, m ≤ n ∧ i = .int .i64 m ∧ ∀ j, m ≤ j → xs.getD j false = false) (fun i => (intOf i).toNat)
  case atStart => exact ⟨n, Nat.le_refl _, rfl, fun j hj => by rw [List.getD, List.getElem?_eq_none (by rw [hl.out]; exact hj)]; rfl⟩
  case round =>
    obtain ⟨m, hm, rfl, hz⟩ := hrel
    have HZ := Lib.hid hz; clear hz
    by_cases hcont : 0 < m ∧ xs.getD (m - 1) false = false
    · obtain ⟨h0, hx⟩ := hcont
      have hia := ixB h (m - 1) (by omega)
      rw [show ((m - 1 : Nat) : Int) = (m : Int) - 1 from by omega] at hia
      have hcl := h.cell (m - 1) (by omega)
      rw [hx] at hcl
      have HX := Lib.hid hx; clear hx
      go_wp2_with fail
      go_round
      case rel => exact ⟨m - 1, by omega, by go_num, fun j hj => by
        by_cases e : j = m - 1
        · rw [e]; exact HX.out
        · exact HZ.out j (by omega)⟩
      case measure => simp [intOf]; omega
    · have hfin : bitsN (bval xs) = xs.take m := by
        refine bitsN_eq_take m (by rw [hl.out]; exact hm) HZ.out ?_
        rcases Nat.eq_zero_or_pos m with h0 | h0
        · exact Or.inl h0
        · refine Or.inr ?_
          cases hx : xs.getD (m - 1) false with
          | true => rfl
          | false => exact absurd ⟨h0, hx⟩ hcont
      have HF := Lib.hid hfin; clear hfin
      have ht := h.take hm
      have htl : (xs.take m).length = m := ht.len
      have HTL := Lib.hid htl; clear htl
      -- the walk from the test on: m is 0, or bit m - 1 is set
      have hdec : m = 0 ∨ (0 < m ∧ xs.getD (m - 1) false = true) := by
        rcases Nat.eq_zero_or_pos m with h0 | h0
        · exact Or.inl h0
        · refine Or.inr ⟨h0, ?_⟩
          cases hx : xs.getD (m - 1) false with
          | true => rfl
          | false => exact absurd ⟨h0, hx⟩ hcont
      clear hcont
      cases ao with
      | none =>
        have hn0 : n = 0 := HN.out rfl
        have hc0 : c = 0 := h.nil0 rfl
        subst hn0
        subst hc0
        obtain rfl : m = 0 := by omega
        clear hdec ht
        go_wp2_with (at_builtin; refine wpList_append_own_none rfl _ _ 28 rfl w.heap.size 4 i0 1 Tryz.underlying28 hi _ 0 [] rfl (World.ownsRow_nil _ _ _ _) rfl ?_)
        go_ret
        exact ⟨none, 0, 0, rfl, by rw [HF.out]; exact OwnT.nil _ _, Below.refl _ _⟩
      | some a =>
        have HC := Lib.hid ht.cells
        have b63 : Hid (0 + m ≤ maxLen) := by show 0 + m ≤ maxLen; unfold maxLen; omega
        have b47 : Hid ((0 + m) * 1 ≤ 140737488355328) := by show (0 + m) * 1 ≤ 140737488355328; omega
        have hlm : Hid (((xs.take m).map Value.bool).length = m * 1) := by show _ = _; rw [List.length_map, HTL.out, Nat.mul_one]
        rcases (show m ≤ 0 ∨ (0 < m ∧ xs.getD (m - 1) false = true) from by rcases hdec with h1 | h1; exact Or.inl (by omega); exact Or.inr h1) with h0 | ⟨h0, hx⟩
        · obtain rfl : m = 0 := by omega
          clear ht hdec HC hlm b63 b47
          go_wp2_with fail
          go_ret
          exact ⟨none, 0, 0, rfl, by rw [HF.out]; exact OwnT.nil _ _, Below.refl _ _⟩
        · have hia := ixB h (m - 1) (by omega)
          rw [show ((m - 1 : Nat) : Int) = (m : Int) - 1 from by omega] at hia
          have hcl := h.cell (m - 1) (by omega)
          rw [hx] at hcl
          clear hx ht hdec
          go_wp2_with (at_builtin; refine wpList_append_own _ rfl _ _ 28 rfl w.heap.size 4 i0 (.bool false) 1 1 Tryz.underlying28 hi hz0 hz1 hz2 rfl (by decide) (.slice none 0 0) 0 [] rfl (World.ownsRow_nil _ _ _ _) a m c ((xs.take m).map Value.bool) rfl hlm.out HC.out (bools_oneCell _) b63.out b47.out (Nat.le_refl _) ?_)
          intro v' w1 hown hgr _
          have hown' : w1.ownsRow w.heap.size 4 1 v' m ((xs.take m).map Value.bool) := by simpa using hown
          obtain ⟨ao', c', rfl⟩ := own_shape hown'
          have hb : Below w.heap.size w w1 := (Below.refl _ _).grown hgr (Nat.le_refl _) (fun k hk => by simp [Value.ownBlock] at hk)
          have HO := Lib.hid hown'
          clear hown hown' hgr
          go_wp2_with fail
          go_ret
          refine ⟨ao', _, c', rfl, ?_, hb⟩
          rw [HF.out]
          exact HO.out
end Go.Proofs.YtmojcnlddfijjaaGreatDoor
