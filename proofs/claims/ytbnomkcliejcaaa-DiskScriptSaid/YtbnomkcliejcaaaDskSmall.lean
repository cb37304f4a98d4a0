/-
  The small calls on a disk: Dead, Dirty, Sectors, has, burn, Fuse; holding and New.
-/
import Derived.Test.YtbnomkcliejcaaaDskBase
namespace Go.Proofs.Ytbnomkcliejcaaa
open Go.RowKit Ds

/-- The box's cells, in a walk's own form. -/
theorem Dsk.cells {w : World} {g a m c : Nat} {d : Dk} (h : Dsk w g a m c d) : w.cell? ⟨g, 0, none⟩ = some (.slice (some ⟨a, 0, none⟩) d.cur.length c) ∧ w.cell? ⟨g, 1, none⟩ = some (.map (some m)) ∧ w.cell? ⟨g, 2, none⟩ = some (.bool d.fused) ∧
    w.cell? ⟨g, 3, none⟩ = some (.int .i64 d.fuse) ∧ w.cell? ⟨g, 4, none⟩ = some (.bool d.dead) := ⟨h.box.cell 0, h.box.cell 1, h.box.cell 2, h.box.cell 3, h.box.cell 4⟩
section
variable {w : World} {g a m c : Nat} {d : Dk}
set_option maxHeartbeats 1600000 in
theorem dead_c (h : Dsk w g a m c d) : Calls Try.prog 23 #[.pointer (some ⟨g, 0, none⟩)] w fun e w' => e = .returned (.bool d.dead) ∧ w = w' := by
  obtain ⟨_, _, _, _, k4⟩ := h.cells
  clear h
  go_enter Try.func23, Try.ntmps23
  go_wp2
  go_ret
  exact ⟨rfl, rfl⟩
theorem deadN_c (w : World) : Calls Try.prog 23 #[.pointer none] w fun e w' => e = .returned (.bool true) ∧ w = w' := by
  go_enter Try.func23, Try.ntmps23
  go_wp2
  go_ret
  exact ⟨rfl, rfl⟩
set_option maxHeartbeats 1600000 in
theorem dirty_c (h : Dsk w g a m c d) : Calls Try.prog 24 #[.pointer (some ⟨g, 0, none⟩)] w fun e w' => e = .returned (.int .i64 (dirt d.old : Int)) ∧ w = w' := by
  obtain ⟨_, k1, _, _, _⟩ := h.cells
  have hl := h.map.len
  clear h
  go_enter Try.func24, Try.ntmps24
  go_wp2
  go_ret
  exact ⟨rfl, rfl⟩
theorem dirtyN_c (w : World) : Calls Try.prog 24 #[.pointer none] w fun e w' => e = .returned (.int .i64 0) ∧ w = w' := by
  go_enter Try.func24, Try.ntmps24
  go_wp2
  go_ret
  exact ⟨rfl, rfl⟩
set_option maxHeartbeats 1600000 in
theorem sectors_c (h : Dsk w g a m c d) : Calls Try.prog 25 #[.pointer (some ⟨g, 0, none⟩)] w fun e w' => e = .returned (.int .i64 (d.cur.length : Int)) ∧ w = w' := by
  obtain ⟨k0, _, _, _, _⟩ := h.cells
  clear h
  go_enter Try.func25, Try.ntmps25
  go_wp2
  go_ret
  exact ⟨rfl, rfl⟩
theorem sectorsN_c (w : World) : Calls Try.prog 25 #[.pointer none] w fun e w' => e = .returned (.int .i64 0) ∧ w = w' := by
  go_enter Try.func25, Try.ntmps25
  go_wp2
  go_ret
  exact ⟨rfl, rfl⟩
set_option maxHeartbeats 1600000 in
theorem has_c (h : Dsk w g a m c d) (x : Int) : Calls Try.prog 27 #[.pointer (some ⟨g, 0, none⟩), .int .i64 x] w fun e w' => e = .returned (.bool (decide (0 ≤ x ∧ x < d.cur.length))) ∧ w = w' := by
  obtain ⟨k0, _, _, _, _⟩ := h.cells
  clear h
  obtain ⟨n, hn⟩ : ∃ n, d.cur.length = n := ⟨_, rfl⟩
  rw [hn] at k0 ⊢
  by_cases hx : 0 ≤ x
  · go_enter Try.func27, Try.ntmps27
    go_wp2
    go_ret
    exact ⟨by simp [hx], rfl⟩
  · have hx' : x < 0 := by omega
    go_enter Try.func27, Try.ntmps27
    go_wp2
    go_ret
    exact ⟨by simp; omega, rfl⟩
set_option maxHeartbeats 1600000 in
theorem burn_c {n : Nat} (h : Dsk w g a m c d) (hk : d.Ok n) : Calls Try.prog 28 #[.pointer (some ⟨g, 0, none⟩)] w fun e w' => e = .returned (.bool d.burn.1) ∧ Dsk w' g a m c d.burn.2 ∧ Off g a m w w' ∧ w'.heap.size = w.heap.size := by
  obtain ⟨k0, k1, k2, k3, k4⟩ := h.cells
  have f3 := h.box.frozen 3
  have f4 := h.box.frozen 4
  have hlow := hk.low
  have hhigh := hk.high
  cases hf : d.fused with
  | false =>
    rw [hf] at k2
    have e : d.burn = (true, d) := by unfold Dk.burn; rw [hf]; rfl
    rw [e]
    have hD : Hid (Dsk w g a m c d) := h
    clear h hk e
    go_enter Try.func28, Try.ntmps28
    go_wp2
    go_ret
    exact ⟨rfl, hD.out, Off.refl _ _ _ _, rfl⟩
  | true =>
    rw [hf] at k2
    have h0 := hk.lit hf
    by_cases hz : d.fuse = 0
    · have e : d.burn = (false, { d with dead := true }) := by unfold Dk.burn; rw [hf, if_pos rfl, if_pos hz]
      rw [e]
      have hD : Hid (Dsk (w.setCell ⟨g, 4, none⟩ (.bool true)) g a m c { d with dead := true } ∧ Off g a m w (w.setCell ⟨g, 4, none⟩ (.bool true)) ∧ (w.setCell ⟨g, 4, none⟩ (.bool true)).heap.size = w.heap.size) :=
        ⟨h.setBox _ 4 _ rfl rfl rfl, Off.of_grown (grown_setG w g 4 _) (Or.inl rfl), by simp [World.setCell]⟩
      rw [hz] at k3
      clear h hk e hlow hhigh h0
      go_enter Try.func28, Try.ntmps28
      go_wp2
      go_ret
      exact ⟨rfl, hD.out⟩
    · have e : d.burn = (true, { d with fuse := d.fuse - 1 }) := by unfold Dk.burn; rw [hf, if_pos rfl, if_neg hz]
      rw [e]
      have hw : IntKind.i64.wrap (d.fuse - 1) = d.fuse - 1 := by rw [IntKind.wrap_i64]; omega
      have hD : Hid (Dsk (w.setCell ⟨g, 3, none⟩ (.int .i64 (d.fuse - 1))) g a m c { d with fuse := d.fuse - 1 } ∧ Off g a m w (w.setCell ⟨g, 3, none⟩ (.int .i64 (d.fuse - 1))) ∧ (w.setCell ⟨g, 3, none⟩ (.int .i64 (d.fuse - 1))).heap.size = w.heap.size) :=
        ⟨h.setBox _ 3 _ rfl rfl rfl, Off.of_grown (grown_setG w g 3 _) (Or.inl rfl), by simp [World.setCell]⟩
      obtain ⟨F, hF⟩ : ∃ F, d.fuse = F := ⟨_, rfl⟩
      rw [hF] at k3 hz hw hD ⊢
      have hz' : (F == 0) = false := by simpa using hz
      clear h hk e hlow hhigh h0 hz hF
      go_enter Try.func28, Try.ntmps28
      go_wp2
      go_ret
      exact ⟨rfl, hD.out⟩
set_option maxHeartbeats 1600000 in
theorem fuse_c (h : Dsk w g a m c d) (x : Int) : Calls Try.prog 17 #[.pointer (some ⟨g, 0, none⟩), .int .i64 x] w fun e w' => e = .returned (.tuple #[]) ∧ Dsk w' g a m c (d.light x) ∧ Off g a m w w' ∧ w'.heap.size = w.heap.size := by
  obtain ⟨k0, k1, k2, k3, k4⟩ := h.cells
  have f2 := h.box.frozen 2
  have f3 := h.box.frozen 3
  have h2 : Dsk (w.setCell ⟨g, 2, none⟩ (.bool (decide (0 ≤ x)))) g a m c { d with fused := decide (0 ≤ x) } := h.setBox _ 2 _ rfl rfl rfl
  have hD : Hid (Dsk ((w.setCell ⟨g, 2, none⟩ (.bool (decide (0 ≤ x)))).setCell ⟨g, 3, none⟩ (.int .i64 x)) g a m c (d.light x) ∧ Off g a m w ((w.setCell ⟨g, 2, none⟩ (.bool (decide (0 ≤ x)))).setCell ⟨g, 3, none⟩ (.int .i64 x)) ∧ ((w.setCell ⟨g, 2, none⟩ (.bool (decide (0 ≤ x)))).setCell ⟨g, 3, none⟩ (.int .i64 x)).heap.size = w.heap.size) :=
    ⟨h2.setBox _ 3 _ rfl rfl rfl, (Off.of_grown (grown_setG w g 2 _) (Or.inl rfl)).trans (Off.of_grown (grown_setG _ g 3 _) (Or.inl rfl)), by simp [World.setCell]⟩
  clear h h2
  go_enter Try.func17, Try.ntmps17
  go_wp2
  go_end0
  exact ⟨rfl, hD.out⟩
end
set_option maxHeartbeats 1600000 in
theorem holding_c {w : World} {a c : Nat} {S : List Sec} (h : Secs w a c S) : Calls Try.prog 26 #[.slice (some ⟨a, 0, none⟩) S.length c] w fun e w' => e = .returned (.pointer (some ⟨w.heap.size + 1, 0, none⟩)) ∧ Dsk w' (w.heap.size + 1) a w.heap.size c (fresh S) ∧ Below w.heap.size w w' ∧ w'.heap.size = w.heap.size + 2 := by
  have b1 : Below w.heap.size w (w.alloc (.map #[] 0)) := (Below.refl _ _).alloc (Nat.le_refl _) _
  have b2 : Below w.heap.size w ((w.alloc (.map #[] 0)).alloc (.cells #[.slice (some ⟨a, 0, none⟩) S.length c, .map (some w.heap.size), .bool false, .int .i64 0, .bool false] 60)) := b1.alloc (by simp) _
  have hD : Hid (Dsk ((w.alloc (.map #[] 0)).alloc (.cells #[.slice (some ⟨a, 0, none⟩) S.length c, .map (some w.heap.size), .bool false, .int .i64 0, .bool false] 60)) (w.heap.size + 1) a w.heap.size c (fresh S) ∧
      Below w.heap.size w ((w.alloc (.map #[] 0)).alloc (.cells #[.slice (some ⟨a, 0, none⟩) S.length c, .map (some w.heap.size), .bool false, .int .i64 0, .bool false] 60)) ∧
      ((w.alloc (.map #[] 0)).alloc (.cells #[.slice (some ⟨a, 0, none⟩) S.length c, .map (some w.heap.size), .bool false, .int .i64 0, .bool false] 60)).heap.size = w.heap.size + 2) := by
    refine ⟨⟨?_, h.grown (grown_of_below b2 none) (by simp), ?_⟩, b2, by simp⟩
    · have := Arr.new (w.alloc (.map #[] 0)) 60 [.slice (some ⟨a, 0, none⟩) S.length c, .map (some w.heap.size), .bool false, .int .i64 0, .bool false]
      rwa [show (w.alloc (.map #[] 0)).heap.size = w.heap.size + 1 by simp] at this
    · exact (MapD.made w S.length).grown (World.grownBy_alloc _ _ none) (by simp)
  clear b1 b2 h
  have hmk : ∀ W : World, (Instr.makeMap 58 none).run Try.prog W = .ok (.map (some W.heap.size)) (W.alloc (.map #[] 0)) := fun _ => rfl
  go_enter Try.func26, Try.ntmps26
  go_wp2
  go_ret
  exact ⟨rfl, hD.out⟩
theorem madeS (n : Nat) : (madeCells (secV zeroS).cells (n * 64)).toList = (List.replicate n zeroS).flatten.map (Value.int .u8) := by
  have e : (secV zeroS).cells = (List.replicate 64 (Value.int .u8 0)).toArray := by simp [secV, Value.cells, zeroS]
  rw [e]
  have hz : ∀ i : Nat, (List.replicate 64 (Value.int .u8 0)).toArray[i % 64]! = Value.int .u8 0 := by
    intro i
    have h64 : i % 64 < (List.replicate 64 (Value.int .u8 0)).toArray.size := by
      simp only [List.size_toArray, List.length_replicate]; omega
    rw [getElem!_pos (List.replicate 64 (Value.int .u8 0)).toArray (i % 64) h64, List.getElem_toArray, List.getElem_replicate]
  apply List.ext_getElem
  · have := flat_len (S := List.replicate n zeroS) (fun s hs => by rw [List.eq_of_mem_replicate hs]; rfl)
    simp only [List.length_map, this, Array.length_toList, size_madeCells, List.length_replicate]
    omega
  · intro i h1 h2
    have h1' : i < n * 64 := by simpa [size_madeCells] using h1
    have hf : (List.replicate n zeroS).flatten = List.replicate (n * 64) (0 : Int) := by
      unfold zeroS
      rw [List.flatten_replicate_replicate]
    simp only [hf, List.map_replicate, List.getElem_replicate, Array.getElem_toList]
    simp only [madeCells, Array.getElem_map, Array.getElem_range, List.size_toArray, List.length_replicate]
    exact hz i
set_option maxHeartbeats 1600000 in
theorem new_c (n : Nat) (h1 : 1 ≤ n) (h2 : n ≤ 4096) (w : World) : Calls Try.prog 8 #[.int .i64 (n : Int)] w fun e w' => e = .returned (.pointer (some ⟨w.heap.size + 2, 0, none⟩)) ∧ Dsk w' (w.heap.size + 2) w.heap.size (w.heap.size + 1) n (Ds.blank n) ∧ Below w.heap.size w w' ∧ w'.heap.size = w.heap.size + 3 := by
  obtain ⟨i0, hi, hz0, hz1, hz2⟩ := info_parts infoS
  obtain ⟨V, hmk, hrow, hgr⟩ := run_make_full (P := Try.prog) w 0 51 56 i0 (secV zeroS) 64 Try.underlying51 hi hz0 hz1 .i64 .i64 n (by rw [hz2]; omega) (by unfold maxLen; omega) (Nat.zero_le _)
  have hVz : V.heap.size = w.heap.size + 1 := by
    have hm := run_make (P := Try.prog) w 51 56 i0 (secV zeroS) Try.underlying51 hi hz0 .i64 .i64 n n (by omega) (by omega) (by rw [hz2]; omega) (by omega)
    rw [hmk] at hm
    injection hm with _ hm
    rw [hm]; simp
  rw [madeS] at hrow
  have hS : Secs V w.heap.size n (List.replicate n zeroS) := Secs.of_row (B := 0) (by simpa using hrow)
  have hc : Calls Try.prog 26 #[.slice (some ⟨w.heap.size, 0, none⟩) (List.replicate n zeroS).length n] V fun e w' => e = .returned (.pointer (some ⟨w.heap.size + 2, 0, none⟩)) ∧ Dsk w' (w.heap.size + 2) w.heap.size (w.heap.size + 1) n (Ds.blank n) ∧ Below w.heap.size w w' ∧ w'.heap.size = w.heap.size + 3 := (holding_c hS).mono (fun e w' hh => by
    obtain ⟨r1, r2, r3, r4⟩ := hh
    rw [hVz] at r1 r2 r3 r4
    refine ⟨r1, r2, ?_, r4⟩
    exact ((Below.refl w.heap.size w).grown hgr (Nat.le_refl _) (fun k hk => by cases hk)).trans (r3.mono (by omega)))
  rw [List.length_replicate] at hc
  clear hS hrow hgr hVz
  have hn1 : ¬ ((n : Int) < 1) := by omega
  have hn2 : ¬ ((n : Int) > 4096) := by omega
  go_enter Try.func8, Try.ntmps8
  go_wp2_with (go_at_call 26; (with_reducible refine hc.mono ?_); rintro e w' ⟨rfl, r⟩)
  go_ret
  exact ⟨rfl, r⟩
theorem newNo_c (x : Int) (hx : ¬ (1 ≤ x ∧ x ≤ 4096)) (w : World) : Calls Try.prog 8 #[.int .i64 x] w fun e w' => e = .returned (.pointer none) ∧ w = w' := by
  by_cases h1 : x < 1
  · go_enter Try.func8, Try.ntmps8
    go_wp2
    go_ret
    exact ⟨rfl, rfl⟩
  · have h2 : x > 4096 := by omega
    clear hx
    go_enter Try.func8, Try.ntmps8
    go_wp2
    go_ret
    exact ⟨rfl, rfl⟩
end Go.Proofs.Ytbnomkcliejcaaa
