/-
  The program's New; boxes of images.
-/
import Derived.Test.YtcgfoagfoncjiaaImgSet
import Derived.Deep.CutRange
import Derived.Deep.OwnRows
namespace Go.Proofs.Ytcgfoagfoncjiaa
open Go.RowKit Im

theorem below_grown {B g : Nat} {w0 w w' : World} (h : Below B w0 w) (hg : w.grownBy w' (some g)) (hB : B ≤ w.heap.size) (hb : B ≤ g) : Below B w0 w' :=
  h.grown hg hB (fun k hk => by injection hk with hk; omega)
theorem Arr.grownBy {w w' : World} {g b : Nat} {t : TypeId} {cs : List Value} (h : Arr w g t cs) (hg : w.grownBy w' (some b)) (hne : g ≠ b) : Arr w' g t cs := (hg.block g h.lt (fun e => hne (by injection e))).trans h
theorem grown_set (w : World) (p : Addr) (v : Value) : w.grownBy (w.setCell p v) (some p.block) :=
  ⟨rfl, rfl, rfl, by simp [World.setCell], fun k _ hne => Below.heap_setCell w p v k (fun e => hne (by rw [e]))⟩
/-- A store of a whole image into its box. -/
theorem put_img {w : World} {g : Nat} {a b s : Value} (h : Arr w g 24 [a, b, s]) (x y t : Value) : ∃ W, ((w.setCell ⟨g, 0, none⟩ x).setCell ⟨g, 1, none⟩ y).setCell ⟨g, 2, none⟩ t = W ∧ Arr W g 24 [x, y, t] ∧ w.grownBy W (some g) ∧ W.heap.size = w.heap.size ∧
    w.cell? ⟨g, 0, none⟩ = some a ∧ w.frozen? ⟨g, 0, none⟩ = false ∧ (w.setCell ⟨g, 0, none⟩ x).cell? ⟨g, 1, none⟩ = some b ∧ (w.setCell ⟨g, 0, none⟩ x).frozen? ⟨g, 1, none⟩ = false ∧
    ((w.setCell ⟨g, 0, none⟩ x).setCell ⟨g, 1, none⟩ y).cell? ⟨g, 2, none⟩ = some s ∧ ((w.setCell ⟨g, 0, none⟩ x).setCell ⟨g, 1, none⟩ y).frozen? ⟨g, 2, none⟩ = false ∧
    W.cell? ⟨g, 0, none⟩ = some x ∧ W.cell? ⟨g, 1, none⟩ = some y ∧ W.cell? ⟨g, 2, none⟩ = some t := by
  have a1 := h.set 0 x
  have a2 := a1.set 1 y
  have a3 := a2.set 2 t
  exact ⟨_, rfl, a3, grown_trans (grown_trans (grown_set w ⟨g, 0, none⟩ x) (grown_set _ ⟨g, 1, none⟩ y)) (grown_set _ ⟨g, 2, none⟩ t), by simp [World.setCell], h.cell 0, h.frozen 0, a1.cell 1, a1.frozen 1, a2.cell 2, a2.frozen 2, a3.cell 0, a3.cell 1, a3.cell 2⟩
/-- make([]byte, m). -/
theorem make8 (m : Nat) (hm : m ≤ 100000) (W : World) : (Instr.makeSlice 22 (.int .i64 (m : Int)) (.int .i64 (m : Int))).run Try.prog W = .ok (.slice (some ⟨W.heap.size, 0, none⟩) m m) (W.alloc (.cells (madeCells #[.int .u8 0] m) 5)) := by
  refine run_make_row' _ _ _ 1 Try.underlying22 info5 ?_ _ _ m ?_ ?_ W
  · rfl
  · omega
  · omega
/-- No bit is set. -/
def noB : Nat → Bool := fun _ => false
theorem packP_noB (m : Nat) : packP noB m = List.replicate m 0 := by
  unfold packP
  rw [List.eq_replicate_iff]
  refine ⟨by simp, fun x hx => ?_⟩
  obtain ⟨k, _, rfl⟩ := List.mem_map.1 hx
  rfl
theorem made_own (U : World) (m : Nat) (hm : m ≤ 100000) : Own 5 .u8 U.heap.size (U.alloc (.cells (madeCells #[.int .u8 0] m) 5)) (some ⟨U.heap.size, 0, none⟩) m m (packP noB m) := by
  have e : (madeCells #[Value.int .u8 0] m).toList = (packP noB m).map (Value.int .u8) := by rw [toList_madeCells_one, packP_noB, List.map_replicate]
  refine ⟨?_, fun x hx => by have := packP_bytes _ _ x hx; exact wf_u8 this.1 this.2⟩
  rw [← e]
  exact World.ownsRow_lit U (madeCells #[.int .u8 0] m) m (Nat.le_refl _) (by unfold maxLen; omega) (by rw [size_madeCells]; omega)
/-- What New hands back. -/
def NewOut (B : Nat) (x y : Int) (e : Ending) (w' : World) : Prop :=
  (∃ v u m g : Nat, x = v ∧ y = u ∧ 1 ≤ v ∧ v ≤ 512 ∧ 1 ≤ u ∧ u ≤ 512 ∧ m = (v * u + 7) / 8 ∧ e = .returned (.tuple #[.agg #[.int .i64 (v : Int), .int .i64 (u : Int), .slice (some ⟨g, 0, none⟩) m m], .int .i64 0]) ∧ Own 5 .u8 B w' (some ⟨g, 0, none⟩) m m (packP noB m)) ∨
  (¬ (1 ≤ x ∧ x ≤ 512 ∧ 1 ≤ y ∧ y ≤ 512) ∧ e = .returned (.tuple #[.agg #[.int .i64 0, .int .i64 0, .slice none 0 0], .int .i64 4]))
set_option maxHeartbeats 3200000 in
set_option maxRecDepth 100000 in
theorem new_c (x y : Int) (w : World) : Calls Try.prog 13 #[.int .i64 x, .int .i64 y] w fun e w' => NewOut w.heap.size x y e w' ∧ Below w.heap.size w w' := by
  obtain ⟨V, e1, AV, BV, hz⟩ := new_img w 0 0 none 0 0
  by_cases hr : 1 ≤ x ∧ x ≤ 512 ∧ 1 ≤ y ∧ y ≤ 512
  · obtain ⟨a1, a2, a3, a4⟩ := hr
    obtain ⟨v, rfl⟩ : ∃ v : Nat, x = v := ⟨x.toNat, by omega⟩
    obtain ⟨u, rfl⟩ : ∃ u : Nat, y = u := ⟨y.toNat, by omega⟩
    obtain ⟨P, hP0⟩ : ∃ P, Hid (v * u = P) := ⟨_, rfl⟩
    have hPb : P ≤ 262144 := by rw [← hP0.out]; exact area_le (by omega) (by omega)
    have hP : (v : Int) * (u : Int) = (P : Int) := by rw [← hP0.out]; exact (Int.natCast_mul v u).symm
    obtain ⟨m, hm⟩ : ∃ m, Hid ((P + 7) / 8 = m) := ⟨_, rfl⟩
    have hmb : m ≤ 32768 := by rw [← hm.out]; omega
    have hmk := make8 m (by omega)
    have O1 := made_own V m (by omega)
    obtain ⟨U, hU⟩ : ∃ W, V.alloc (.cells (madeCells #[.int .u8 0] m) 5) = W := ⟨_, rfl⟩
    have BU : Below V.heap.size V U := by rw [← hU]; exact (Below.refl _ _).alloc (Nat.le_refl _) _
    rw [hU] at O1
    obtain ⟨W, e2, AW, GW, hWz, k0, k1, k2, k3, k4, k5, r0, r1, r2⟩ := put_img (AV.kept BU) (.int .i64 (v : Int)) (.int .i64 (u : Int)) (.slice (some ⟨V.heap.size, 0, none⟩) m m)
    have hOW : Own 5 .u8 V.heap.size W (some ⟨V.heap.size, 0, none⟩) m m (packP noB m) := by
      refine ⟨O1.1.kept GW (Or.inr (fun e => ?_)), O1.2⟩
      injection e with e
      have e : V.heap.size = w.heap.size := e
      omega
    have OW : Hid (Own 5 .u8 w.heap.size W (some ⟨V.heap.size, 0, none⟩) m m (packP noB m)) := ⟨hOW.1.mono BV.size, hOW.2⟩
    have BW : Hid (Below w.heap.size w W) := below_grown (BV.trans (BU.mono BV.size)) GW (by have := BU.size; have := BV.size; omega) (Nat.le_refl _)
    have s1 : Hid (∀ w, Calls Try.prog 25 #[.int .i64 (v : Int)] w fun e w' => e = .returned (.bool true) ∧ w = w') := fun w => (isSide_c v w).mono fun e w' h => by
      rw [decide_eq_true a1, decide_eq_true a2] at h; exact h
    have s2 : Hid (∀ w, Calls Try.prog 25 #[.int .i64 (u : Int)] w fun e w' => e = .returned (.bool true) ∧ w = w') := fun w => (isSide_c u w).mono fun e w' h => by
      rw [decide_eq_true a3, decide_eq_true a4] at h; exact h
    have s3 : Hid (∀ w, Calls Try.prog 26 #[.int .i64 (P : Int)] w fun e w' => e = .returned (.int .i64 (m : Int)) ∧ w = w') := fun w => by have := byteCount_c P w (by omega); rw [hm.out] at this; exact this
    have hend : Hid (NewOut w.heap.size v u (.returned (.tuple #[.agg #[.int .i64 (v : Int), .int .i64 (u : Int), .slice (some ⟨V.heap.size, 0, none⟩) m m], .int .i64 0])) W) :=
      Or.inl ⟨v, u, m, V.heap.size, rfl, rfl, by omega, by omega, by omega, by omega, by rw [hP0.out, hm.out], rfl, OW.out⟩
    clear O1 BU hOW OW AV AW GW BV hWz hm hz
    go_enter Try.func13, Try.ntmps13
    go_wp2_with (first
      | (go_at_call 25; (with_reducible refine (s1.out _).mono ?_); rintro e v1 ⟨rfl, rfl⟩)
      | (go_at_call 25; (with_reducible refine (s2.out _).mono ?_); rintro e v1 ⟨rfl, rfl⟩)
      | (go_at_call 26; (with_reducible refine (s3.out _).mono ?_); rintro e v1 ⟨rfl, rfl⟩))
    refine bodyPost_ret (v := .tuple #[.agg #[.int .i64 (v : Int), .int .i64 (u : Int), .slice (some ⟨V.heap.size, 0, none⟩) m m], .int .i64 0]) (by simp [results, Try.results13, go_sem, r0, r1, r2]) rfl ?_
    exact ⟨hend.out, BW.out⟩
  · obtain ⟨W, e2, AW, GW, hWz, k0, k1, k2, k3, k4, k5, r0, r1, r2⟩ := put_img AV (.int .i64 0) (.int .i64 0) (.slice none 0 0)
    have BW : Hid (Below w.heap.size w W) := below_grown BV GW (by omega) (Nat.le_refl _)
    have hno : Hid (¬ (1 ≤ x ∧ x ≤ 512 ∧ 1 ≤ y ∧ y ≤ 512)) := hr
    clear AV AW GW BV hWz hz
    by_cases hx : 1 ≤ x ∧ x ≤ 512
    · have hy : (decide (1 ≤ y) && decide (y ≤ 512)) = false := by
        rw [Bool.and_eq_false_iff, decide_eq_false_iff_not, decide_eq_false_iff_not]
        omega
      have s1 : Hid (∀ w, Calls Try.prog 25 #[.int .i64 x] w fun e w' => e = .returned (.bool true) ∧ w = w') := fun w => (isSide_c x w).mono fun e w' h => by
        rw [decide_eq_true hx.1, decide_eq_true hx.2] at h; exact h
      have s2 : Hid (∀ w, Calls Try.prog 25 #[.int .i64 y] w fun e w' => e = .returned (.bool false) ∧ w = w') := fun w => (isSide_c y w).mono fun e w' h => by
        rw [hy] at h; exact h
      clear hr hx hy
      go_enter Try.func13, Try.ntmps13
      go_wp2_with (first
        | (go_at_call 25; (with_reducible refine (s1.out _).mono ?_); clear s1; rintro e v1 ⟨rfl, rfl⟩)
        | (go_at_call 25; (with_reducible refine (s2.out _).mono ?_); rintro e v1 ⟨rfl, rfl⟩))
      refine bodyPost_ret (v := .tuple #[.agg #[.int .i64 0, .int .i64 0, .slice none 0 0], .int .i64 4]) (by simp [results, Try.results13, go_sem, r0, r1, r2]) rfl ?_
      exact ⟨Or.inr ⟨hno.out, rfl⟩, BW.out⟩
    · have hy : (decide (1 ≤ x) && decide (x ≤ 512)) = false := by
        rw [Bool.and_eq_false_iff, decide_eq_false_iff_not, decide_eq_false_iff_not]
        omega
      have s1 : Hid (∀ w, Calls Try.prog 25 #[.int .i64 x] w fun e w' => e = .returned (.bool false) ∧ w = w') := fun w => (isSide_c x w).mono fun e w' h => by
        rw [hy] at h; exact h
      clear hr hx hy
      go_enter Try.func13, Try.ntmps13
      go_wp2_with (first
        | (go_at_call 25; (with_reducible refine (s1.out _).mono ?_); rintro e v1 ⟨rfl, rfl⟩))
      refine bodyPost_ret (v := .tuple #[.agg #[.int .i64 0, .int .i64 0, .slice none 0 0], .int .i64 4]) (by simp [results, Try.results13, go_sem, r0, r1, r2]) rfl ?_
      exact ⟨Or.inr ⟨hno.out, rfl⟩, BW.out⟩
end Go.Proofs.Ytcgfoagfoncjiaa
