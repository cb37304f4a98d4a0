/-
  The walk of RandomPerm.
-/
import Derived.Test.YtgomconcfjllcaaDoorRndAwake
namespace Go.Proofs.YtgomconcfjllcaaDoor
open Go.RowKit Dig Rnd

/-- A slice of bools that the call owns. -/
def OwnT (B : Nat) (w : World) (ao : Option Addr) (n c : Nat) (xs : List Bool) : Prop := w.ownsRow B 4 1 (.slice ao n c) n (xs.map Value.bool)
theorem infoB : (Tryd.prog.info? 4).map (fun i => (i.zero, i.size, i.bytes)) = some (some (.bool false), 1, 1) := by kernel_rfl
theorem OwnT.made {B : Nat} {w : World} {g n : Nat} (h : w.ownsRow B 4 1 (.slice (some ⟨g, 0, none⟩) n n) n (madeCells #[Value.bool false] n).toList) : OwnT B w (some ⟨g, 0, none⟩) n n (List.replicate n false) := by
  have ez : (madeCells #[Value.bool false] n).toList = (List.replicate n false).map Value.bool := by
    apply List.ext_getElem
    · simp [madeCells]
    · intro i h1 h2
      simp [madeCells, Nat.mod_one]
  rw [ez] at h
  exact h
section
variable {B : Nat} {w : World} {g n : Nat} {xs : List Bool}
theorem OwnT.len (h : OwnT B w (some ⟨g, 0, none⟩) n n xs) : xs.length = n := by simpa using h.1
theorem OwnT.cell (h : OwnT B w (some ⟨g, 0, none⟩) n n xs) {i : Nat} (hi : i < n) : w.cell? ⟨g, i, none⟩ = some (.bool (xs.getD i false)) := by
  have hl := h.len
  rw [World.ownsRow.cellAt h i (by omega)]
  simp [List.getD, show i < xs.length by omega]
theorem OwnT.frozen (h : OwnT B w (some ⟨g, 0, none⟩) n n xs) (i : Nat) : w.frozen? ⟨g, i, none⟩ = false := World.ownsRow.frozenAt h i
theorem OwnT.set (h : OwnT B w (some ⟨g, 0, none⟩) n n xs) (i : Nat) (b : Bool) : OwnT B (w.setCell ⟨g, i, none⟩ (.bool b)) (some ⟨g, 0, none⟩) n n (xs.set i b) := by
  have := (World.ownsRow.stored h i (.bool b)).1
  unfold OwnT
  rw [List.map_set]
  exact this
end
theorem sizeB : (Tryd.prog.info? 4).map (·.size) = some 1 := by kernel_rfl
theorem ixB (g n : Nat) (i : Nat) (z : Int) (hz : z = i) (hi : i < n) (W : World) : (Instr.indexAt 40 (.slice (some ⟨g, 0, none⟩) n n) (.int .i64 z)).run Tryd.prog W = .ok (.pointer (some ⟨g, i, none⟩)) W := by
  subst hz
  obtain ⟨inf, hinf, hs⟩ := Option.map_eq_some_iff.1 sizeB
  have h1 : (0 : Int) ≤ (i : Int) ∧ (i : Int) < (n : Int) := by omega
  have e := pt_own g i
  simp only [pt, Option.getD_some] at e
  simp [Instr.indexAt, run_underlying Tryd.underlying40, asIntOf, sizeOf, typeInfo, hinf, hs, hi, e]

namespace Rnd
theorem seen_step {l : List Int} {bs : List Bool} {N j X : Nat} (hb : ∀ x : Nat, x < N → bs.getD x false = decide ((x : Int) ∈ l.take j)) (hl : bs.length = N) (hj : j < l.length) (hX : l.getD j 0 = (X : Int)) (hXN : X < N) :
    ∀ x : Nat, x < N → (bs.set X true).getD x false = decide ((x : Int) ∈ l.take (j + 1)) := by
  intro x hx
  have e : l.take (j + 1) = l.take j ++ [(X : Int)] := by
    rw [List.take_succ_eq_append_getElem hj]
    rw [List.getD_eq_getElem?_getD, List.getElem?_eq_getElem hj] at hX
    simp at hX
    rw [hX]
  rw [e, List.getD_eq_getElem?_getD, List.getElem?_set]
  by_cases hxX : X = x
  · subst hxX
    rw [if_pos rfl, if_pos (by omega)]
    simp
  · rw [if_neg hxX, ← List.getD_eq_getElem?_getD, hb x hx]
    have : ¬ (x : Int) = (X : Int) := by omega
    simp [this]
theorem not_seen {l : List Int} {j : Nat} (hn : l.Nodup) (hj : j < l.length) : l.getD j 0 ∉ l.take j := by
  rw [List.getD_eq_getElem?_getD, List.getElem?_eq_getElem hj]
  simp only [Option.getD_some]
  intro hm
  obtain ⟨i, hi, he⟩ := List.mem_iff_getElem.1 hm
  rw [List.getElem_take] at he
  have hi' : i < j := by simp at hi; omega
  exact List.pairwise_iff_getElem.1 hn i j (by omega) hj hi' he
end Rnd

set_option maxHeartbeats 3200000 in
set_option maxRecDepth 100000 in
theorem permLaw_c (S : ByteArray) (z : Int) (w : World) (hs : S.size ≤ maxLen) (hK : KTab 1 w) (hK0 : KTab 0 w) :
    Calls Tryd.prog 4 #[.string S, .int .i64 z] w fun e w' => e = .returned (.bool true) ∧ Below w.heap.size w w' := by
  obtain ⟨i0, hi, hz0, hz1, hz2⟩ := info_parts infoB
  have HC := Lib.hid (short_c S w hs)
  obtain ⟨N, hN, hrem⟩ := rem20 z
  clear hs
  go_enter Tryd.func4, Tryd.ntmps4
  go_wp2_with fail
  refine HC.out.mono ?_
  rintro e w1 ⟨T, rfl, hT, rfl⟩
  have H1 := Lib.hid (order_c T N w (by omega) (by omega) hK)
  clear HC
  go_wp2_with fail
  refine H1.out.mono ?_
  rintro e w3 ⟨ao, c, rfl, O3, b3⟩
  have HPM := Lib.hid (permN_perm T N 0)
  obtain ⟨l, hl⟩ : ∃ l, Hid (l = (permN T N 0).1) := ⟨_, rfl⟩
  rw [← hl.out] at O3 HPM
  have HL := Lib.hid O3.lst
  have HB3 := Lib.hid b3
  have hcap := O3.lst.cap
  have hroom := O3.lst.room
  have HLL := Lib.hid O3.len
  have HND : Hid l.Nodup := (HPM.out.nodup_iff).2 (asc_nodup N)
  have HMM : Hid (∀ x ∈ l, 0 ≤ x ∧ x < N) := fun x hx => asc_mem N x (HPM.out.mem_iff.1 hx)
  clear H1 O3 b3
  go_wp2_with (at_make; refine wpList_make_full _ rfl _ _ 40 rfl w3.heap.size 4 i0 (.bool false) 1 Tryd.underlying40 hi hz0 hz1 _ _ _ _ N rfl rfl (by omega) (by omega) ?b2 ?b3 (Nat.le_refl _) ?_)
  case b2 => first | omega | (rw [hz2]; omega)
  case b3 => unfold maxLen; omega
  intro w4 hown hgr
  have O4 : OwnT w3.heap.size w4 (some ⟨w3.heap.size, 0, none⟩) N N (List.replicate N false) := OwnT.made hown
  have b4 : Below w3.heap.size w3 w4 := (Below.refl _ _).grown hgr (Nat.le_refl _) (fun k hk => by cases hk)
  have HO4 := Lib.hid O4
  have HB4 := Lib.hid b4
  clear hown hgr O4 b4
  go_wp2_with fail
  go_loopw [7] (fun i wr => ∃ (j : Nat) (bs : List Bool), j ≤ N ∧ i = .int .i64 j ∧ Hid (OwnT w3.heap.size wr (some ⟨w3.heap.size, 0, none⟩) N N bs ∧ Below w3.heap.size w3 wr ∧ ∀ x : Nat, x < N → bs.getD x false = decide ((x : Int) ∈ l.take j)))
    (fun i _ => N - (intOf i).toNat)
  case atStart => exact ⟨0, _, by omega, rfl, HO4.out, HB4.out, fun x hx => by simp [List.getD, hx]⟩
  case round =>
    obtain ⟨j, bs, hj, rfl, hI⟩ := hrel
    clear HO4 HB4
    by_cases hlt : j < N
    · have hlt' : (j : Int) < N := by omega
      have L := HL.out.below hI.out.2.1
      have hix := ixI L j j rfl hlt
      have hmem : l.getD j 0 ∈ l := by
        rw [List.getD_eq_getElem?_getD, List.getElem?_eq_getElem (by rw [HLL.out]; exact hlt)]
        exact List.getElem_mem _
      have hmm := HMM.out _ hmem
      obtain ⟨X, hX⟩ : ∃ X : Nat, Hid (l.getD j 0 = (X : Int)) := ⟨(l.getD j 0).toNat, by show _ = _; omega⟩
      rw [hX.out] at hmm
      have hXN : X < N := by omega
      have hc : wr.cell? (pt ao j) = some (.int .i64 (X : Int)) := by rw [L.cell j hlt, hX.out]
      have hixB := ixB w3.heap.size N X X rfl hXN
      have hcB := hI.out.1.cell hXN
      have hns := not_seen HND.out (show j < l.length by rw [HLL.out]; exact hlt)
      rw [hX.out] at hns
      rw [hI.out.2.2 X hXN, decide_eq_false hns] at hcB
      have hfB := hI.out.1.frozen X
      have hst := seen_step hI.out.2.2 hI.out.1.len (show j < l.length by rw [HLL.out]; exact hlt) hX.out hXN
      have hI2 : Hid (OwnT w3.heap.size (wr.setCell ⟨w3.heap.size, X, none⟩ (.bool true)) (some ⟨w3.heap.size, 0, none⟩) N N (bs.set X true) ∧ Below w3.heap.size w3 (wr.setCell ⟨w3.heap.size, X, none⟩ (.bool true)) ∧ ∀ x : Nat, x < N → (bs.set X true).getD x false = decide ((x : Int) ∈ l.take (j + 1))) :=
        ⟨hI.out.1.set X true, hI.out.2.1.setCell (Nat.le_refl _) _, hst⟩
      have hx1 : ¬ ((X : Int) < 0) := by omega
      have hx2 : ¬ ((X : Int) ≥ (N : Int)) := by omega
      clear hst hns hmem hmm L hI
      go_wp2_with fail
      go_roundw
      case rel => exact ⟨j + 1, _, by omega, by go_num, hI2⟩
      case measure => simp [intOf]; omega
    · obtain rfl : j = N := by omega
      have B := HB3.out.trans (hI.out.2.1.mono HB3.out.size)
      have HA := Lib.hid (awake_c wr (hK.below B) (hK0.below B))
      have hjj : ((j : Int) == (j : Int)) = true := beq_self_eq_true _
      clear hI
      go_wp2_with fail
      refine HA.out.mono ?_
      rintro e w5 ⟨rfl, b5⟩
      have B5 : Below w.heap.size w w5 := B.trans (b5.mono B.size)
      clear HA B b5
      go_wp2_with fail
      go_ret
      exact ⟨rfl, B5⟩
end Go.Proofs.YtgomconcfjllcaaDoor
