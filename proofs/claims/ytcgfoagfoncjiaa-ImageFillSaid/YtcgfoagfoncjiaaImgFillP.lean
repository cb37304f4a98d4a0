/-
  The program's Fill and Count.
-/
import Derived.Test.YtcgfoagfoncjiaaImgPix
import Derived.Test.YtcgfoagfoncjiaaImgValP
import Derived.RangeFuncWrites
namespace Go.Proofs.Ytcgfoagfoncjiaa
open Go.RowKit Go.Shelf Im
attribute [local go_sem] Oper.semAt_some

set_option maxHeartbeats 3200000 in
set_option maxRecDepth 100000 in
theorem clone_c (a : Addr) (n c : Nat) (bs : List Int) (w : World) (h : Lst .u8 w (some a) n c bs) (hn : n ≤ 1000000) :
    Calls Try.prog 16 #[.slice (some a) n c] w fun e w' => ∃ ro d, e = .returned (.slice ro n d) ∧ Own 5 .u8 w.heap.size w' ro n d bs ∧ Below w.heap.size w w' := by
  have q26 := fun (w : World) (a : Option Addr) (n c n' c' : Nat) => Lib.run_eql_slice_nil (P := Try.prog) w 22 _ a n c n' c' Try.underlying22
  have OM : Own 5 .u8 w.heap.size (w.alloc (.cells #[] 5)) (some ⟨w.heap.size, 0, none⟩) 0 0 [] := ⟨World.ownsRow_made w #[] 0 (Nat.le_refl _) (Nat.zero_le _) rfl, fun _ hx => by cases hx⟩
  obtain ⟨V, e1⟩ : ∃ V, w.alloc (.cells #[] 5) = V := ⟨_, rfl⟩
  have BV : Below w.heap.size w V := by rw [← e1]; exact (Below.refl _ _).alloc (Nat.le_refl _) _
  rw [e1] at OM
  have H := h.below BV
  have HB : Hid (Below w.heap.size w V) := BV
  have hzV : w.heap.size ≤ V.heap.size := BV.size
  clear h BV
  go_enter Try.func16, Try.ntmps16
  go_wp2_with (at_builtin; refine wpList_appL OM H (fun e => by cases e) hzV (by omega) (by omega) rfl rfl ?_)
  intro ro d w2 O2 B2
  rw [Nat.zero_add, List.nil_append] at O2
  have O3 := Lib.hid O2
  have B3 : Hid (Below w.heap.size w w2) := HB.out.trans B2
  rw [Nat.zero_add]
  clear O2 B2 OM H hzV
  go_wp2_with fail
  go_ret
  exact ⟨ro, d, rfl, O3.out, B3.out⟩
theorem Arr.put {w : World} {D g : Nat} {t : TypeId} {cs : List Value} (h : Arr w g t cs) (o : Obj) (hne : g ≠ D) : Arr (w.putObj D o) g t cs := (World.putObj_heap_other hne).trans h
/-- The bits of a filled image. -/
def fillB (f : Nat → Bool) (ns : List Nat) (on : Bool) : Nat → Bool := fun k => if k ∈ ns then on else f k
theorem fillB_nil (f : Nat → Bool) (on : Bool) : fillB f [] on = f := by funext k; simp [fillB]
theorem fillB_snoc (f : Nat → Bool) (ns : List Nat) (on : Bool) (n : Nat) : fillB f (ns ++ [n]) on = upd (fillB f ns on) n on := by
  funext k
  unfold fillB upd
  by_cases h : k = n
  · rw [if_pos h, if_pos (by rw [h]; simp)]
  · rw [if_neg h]
    by_cases h2 : k ∈ ns
    · have h3 : k ∈ ns ++ [n] := by simp [h2]
      simp only [h2, h3, if_true]
    · have h3 : ¬ k ∈ ns ++ [n] := by simp [h2, h]
      simp only [h2, h3, if_false]
/-- What Fill has in memory between two rounds. -/
structure FillI (w0 : World) (b0 g13 gc cc : Nat) (v u n : Nat) (f : Nat → Bool) (on : Bool) (S : Nat) (ns : List Nat) (W : World) : Prop where
  sz : S ≤ W.heap.size
  bx : Arr W (b0 + 1) 4 [.bool on]
  z : Arr W (b0 + 2) 24 [.int .i64 0, .int .i64 0, .slice none 0 0]
  im : Arr W g13 24 [.int .i64 (v : Int), .int .i64 (u : Int), .slice (some ⟨gc, 0, none⟩) n cc]
  own : Own 5 .u8 w0.heap.size W (some ⟨gc, 0, none⟩) n cc (packP (fillB f ns on) n)
  b : Below w0.heap.size w0 W
theorem FillI.turn {w0 : World} {b0 g13 gc cc v u n : Nat} {f : Nat → Bool} {on : Bool} {S : Nat} {ns : List Nat} {W W' : World} (h : FillI w0 b0 g13 gc cc v u n f on S ns W) {row : Option Nat} (hg : W.grownBy W' row) (hr : ∀ r, row = some r → S ≤ r) (h1 : b0 + 2 < S) (h2 : g13 < S) (h3 : gc < S) (h4 : w0.heap.size ≤ S) : FillI w0 b0 g13 gc cc v u n f on S ns W' := by
  have ne : ∀ g, g < S → some g ≠ row := fun g hg e => by have := hr g e.symm; omega
  have hsz := h.sz
  refine ⟨by have := hg.size; omega, (hg.block _ (by omega) (ne _ (by omega))).trans h.bx, (hg.block _ (by omega) (ne _ (by omega))).trans h.z, (hg.block _ (by omega) (ne _ h2)).trans h.im, ⟨h.own.1.kept hg (Or.inr (fun e => ne gc h3 e)), h.own.2⟩, h.b.grown hg (by have := h.b.size; omega) (fun k e => by have := hr k e; omega)⟩
theorem FillI.own_ {L : List Nat} {w0 : World} {b0 g13 gc cc v u n : Nat} {f : Nat → Bool} {on : Bool} {S : Nat} (h1 : b0 + 2 < S) (h2 : g13 < S) (h3 : gc < S) (h4 : w0.heap.size ≤ S) : OwnFrom S (fun (pre : List (In L)) W => FillI w0 b0 g13 gc cc v u n f on S (pre.map (·.1)) W) :=
  fun _ _ _ _ hs hg hr => hs.turn hg (fun r e => (hr r e).1) h1 h2 h3 h4
theorem cell_grown {w Z : World} {g b i : Nat} {v : Value} (h : w.cell? ⟨b, i, none⟩ = some v) (hb : b ≠ g) (hZ : w.grownBy Z (some g)) : Z.cell? ⟨b, i, none⟩ = some v :=
  (World.cell?_of_block (hZ.block b (World.block_lt_of_cell? w _ h) (fun e => hb (by injection e)))).trans h
/-- A copied image in its box. -/
structure FillC (V : World) (co : Option Addr) (n d : Nat) (bs : List Int) (g v u : Nat) (X : World) : Prop where
  own : Own 5 .u8 V.heap.size X co n d bs
  im : Arr X g 24 [.int .i64 (v : Int), .int .i64 (u : Int), .slice co n d]
  b : Below V.heap.size V X
  g : V.heap.size ≤ g
theorem fill_armA {V w4 w5 : World} {co : Option Addr} {n d : Nat} {bs : List Int} (hB : Below V.heap.size V w4) (OC : Own 5 .u8 w4.drew.heap.size w5 co n d bs) (B5 : Below w4.drew.heap.size w4.drew w5) (v u : Nat) :
    ∃ V6 X, w5.alloc (.cells #[.int .i64 0, .int .i64 0, .slice none 0 0] 24) = V6 ∧ ((V6.setCell ⟨w5.heap.size, 0, none⟩ (.int .i64 (v : Int))).setCell ⟨w5.heap.size, 1, none⟩ (.int .i64 (u : Int))).setCell ⟨w5.heap.size, 2, none⟩ (.slice co n d) = X ∧
      V6.cell? ⟨w5.heap.size, 0, none⟩ = some (.int .i64 0) ∧ V6.frozen? ⟨w5.heap.size, 0, none⟩ = false ∧ (V6.setCell ⟨w5.heap.size, 0, none⟩ (.int .i64 (v : Int))).cell? ⟨w5.heap.size, 1, none⟩ = some (.int .i64 0) ∧ (V6.setCell ⟨w5.heap.size, 0, none⟩ (.int .i64 (v : Int))).frozen? ⟨w5.heap.size, 1, none⟩ = false ∧
      ((V6.setCell ⟨w5.heap.size, 0, none⟩ (.int .i64 (v : Int))).setCell ⟨w5.heap.size, 1, none⟩ (.int .i64 (u : Int))).cell? ⟨w5.heap.size, 2, none⟩ = some (.slice none 0 0) ∧ ((V6.setCell ⟨w5.heap.size, 0, none⟩ (.int .i64 (v : Int))).setCell ⟨w5.heap.size, 1, none⟩ (.int .i64 (u : Int))).frozen? ⟨w5.heap.size, 2, none⟩ = false ∧
      (Below w5.heap.size w5 V6 ∧ Below w5.heap.size w5 X) ∧ FillC V co n d bs w5.heap.size v u X := by
  obtain ⟨V6, m6, AV6, BV6, z6⟩ := new_img w5 0 0 none 0 0
  obtain ⟨X, m7, AX, GX, hXz, q0, q1, q2, q3, q4, q5, r0, r1, r2⟩ := put_img AV6 (.int .i64 (v : Int)) (.int .i64 (u : Int)) (.slice co n d)
  have BX : Below w5.heap.size w5 X := below_grown BV6 GX (by omega) (Nat.le_refl _)
  have h4 : V.heap.size ≤ w4.heap.size := hB.size
  have h5 : w4.heap.size ≤ w5.heap.size := B5.size
  refine ⟨V6, X, m6, m7, q0, q1, q2, q3, q4, q5, ⟨BV6, BX⟩, ⟨(OC.kept BX).1.mono h4, OC.2⟩, AX, ?_, Nat.le_trans h4 h5⟩
  exact ((below_drew hB).trans (B5.mono h4)).trans (BX.mono (Nat.le_trans h4 h5))
theorem fill_armB {V w4 V5 w5 : World} {co : Option Addr} {n d : Nat} {bs : List Int} (hB : Below V.heap.size V w4) (A5 : Arr V5 w4.heap.size 24 [.int .i64 0, .int .i64 0, .slice none 0 0]) (BV5 : Below w4.heap.size w4 V5) (z5 : V5.heap.size = w4.heap.size + 1) (OC : Own 5 .u8 V5.drew.heap.size w5 co n d bs) (B5 : Below V5.drew.heap.size V5.drew w5) (v u : Nat) :
    ∃ X, ((w5.setCell ⟨w4.heap.size, 0, none⟩ (.int .i64 (v : Int))).setCell ⟨w4.heap.size, 1, none⟩ (.int .i64 (u : Int))).setCell ⟨w4.heap.size, 2, none⟩ (.slice co n d) = X ∧
      w5.cell? ⟨w4.heap.size, 0, none⟩ = some (.int .i64 0) ∧ w5.frozen? ⟨w4.heap.size, 0, none⟩ = false ∧ (w5.setCell ⟨w4.heap.size, 0, none⟩ (.int .i64 (v : Int))).cell? ⟨w4.heap.size, 1, none⟩ = some (.int .i64 0) ∧ (w5.setCell ⟨w4.heap.size, 0, none⟩ (.int .i64 (v : Int))).frozen? ⟨w4.heap.size, 1, none⟩ = false ∧
      ((w5.setCell ⟨w4.heap.size, 0, none⟩ (.int .i64 (v : Int))).setCell ⟨w4.heap.size, 1, none⟩ (.int .i64 (u : Int))).cell? ⟨w4.heap.size, 2, none⟩ = some (.slice none 0 0) ∧ ((w5.setCell ⟨w4.heap.size, 0, none⟩ (.int .i64 (v : Int))).setCell ⟨w4.heap.size, 1, none⟩ (.int .i64 (u : Int))).frozen? ⟨w4.heap.size, 2, none⟩ = false ∧
      w5.grownBy X (some w4.heap.size) ∧ FillC V co n d bs w4.heap.size v u X := by
  obtain ⟨X, m7, AX, GX, hXz, q0, q1, q2, q3, q4, q5, r0, r1, r2⟩ := put_img (Arr.kept (w := V5.drew) A5 B5) (.int .i64 (v : Int)) (.int .i64 (u : Int)) (.slice co n d)
  have h4 : V.heap.size ≤ w4.heap.size := hB.size
  have h5 : V5.heap.size ≤ w5.heap.size := B5.size
  refine ⟨X, m7, q0, q1, q2, q3, q4, q5, GX, ⟨?_, OC.2⟩, AX, ?_, h4⟩
  · refine World.ownsRow.mono (OC.1.kept GX ?_) (show V.heap.size ≤ V5.drew.heap.size from (by show V.heap.size ≤ V5.heap.size; omega))
    cases co with
    | none => exact Or.inl rfl
    | some ad => exact Or.inr (fun e => by
        have h1 := (World.ownsRow.lt OC.1 ad.block rfl).1
        injection e with e
        have h2 : V5.heap.size ≤ ad.block := h1
        omega)
  · exact below_grown (((hB.trans (BV5.mono h4)).drew).trans (B5.mono (by show V.heap.size ≤ V5.heap.size; omega))) GX (by omega) h4
set_option maxHeartbeats 800000 in
set_option maxRecDepth 100000 in
theorem fill_c (v u : Nat) (a : Addr) (n c : Nat) (bs : List Int) (x y p q : Int) (on : Bool) (w : World) (h : Lst .u8 w (some a) n c bs) (hO : OkI v u bs) (x1 : -9223372036854775808 ≤ x) (x2 : x ≤ 9223372036854775807) (y1 : -9223372036854775808 ≤ y) (y2 : y ≤ 9223372036854775807) (a1 : -9223372036854775808 ≤ p) (a2 : p ≤ 9223372036854775807) (b1 : -9223372036854775808 ≤ q) (b2 : q ≤ 9223372036854775807) :
    Calls Try.prog 6 #[.agg #[.int .i64 (v : Int), .int .i64 (u : Int), .slice (some a) n c], .int .i64 x, .int .i64 y, .int .i64 p, .int .i64 q, .bool on] w fun e w' => ∃ gc cc, e = .returned (.agg #[.int .i64 (v : Int), .int .i64 (u : Int), .slice (some ⟨gc, 0, none⟩) n cc]) ∧ Own 5 .u8 w.heap.size w' (some ⟨gc, 0, none⟩) n cc (packP (fillB (bitL bs) (rectL v u x y p q) on) n) ∧ Below w.heap.size w w' := by
  obtain ⟨V1, e1, A1, B1, z1⟩ := new_img w v u (some a) n c
  obtain ⟨V2, e2⟩ : ∃ V, V1.alloc (.cells #[.bool on] 4) = V := ⟨_, rfl⟩
  have A2 : Arr V2 V1.heap.size 4 [.bool on] := by rw [← e2]; exact Arr.new V1 _ _
  have B2 : Below V1.heap.size V1 V2 := by rw [← e2]; exact (Below.refl _ _).alloc (Nat.le_refl _) _
  have z2 : V2.heap.size = V1.heap.size + 1 := by rw [← e2]; simp
  obtain ⟨V3, e3, A3, B3, z3⟩ := new_img V2 0 0 none 0 0
  have hz2 : V2.heap.size = w.heap.size + 2 := by omega
  rw [z1] at A2
  rw [hz2] at A3
  have HA := Lib.hid (And.intro ((A1.kept B2).kept B3) (And.intro (A2.kept B3) A3))
  have BB : Below w.heap.size w V3 := (B1.trans (B2.mono B1.size)).trans (B3.mono (by omega))
  have HL := h.below BB
  have HV := Lib.hid (valid_c v u (some a) n c bs V3 HL)
  rw [okB_mk hO] at HV
  have y0 : V3.cell? ⟨w.heap.size, 0, none⟩ = some (.int .i64 (v : Int)) := HA.out.1.cell 0
  have y1 : V3.cell? ⟨w.heap.size, 1, none⟩ = some (.int .i64 (u : Int)) := HA.out.1.cell 1
  have y2 : V3.cell? ⟨w.heap.size, 2, none⟩ = some (.slice (some a) n c) := HA.out.1.cell 2
  have HLL := Lib.hid HL
  have HB := Lib.hid BB
  clear A1 A2 A3 B1 B2 B3 BB HL z2 z3 h
  refine (callsIn_wide (n := 3)).1 ?_
  refine callsIn_of_wp_marks Try.func6 rfl trivial ?_ rfl
  refine wpIn_wide.2 ?_
  simp only [Try.ntmps6, List.size_toArray, List.length_cons, List.length_nil, Nat.reduceAdd, Nat.reduceSub, Array.replicate_succ, Array.replicate_zero, List.push_toArray, List.append_toArray, List.nil_append, List.cons_append]
  go_wp2_with (go_at_call 14; refine HV.out.mono ?_; rintro e w4 ⟨rfl, B4⟩; have k0 := cell_keep y0 B4; have k1 := cell_keep y1 B4; have k2 := cell_keep y2 B4; have hB4 := Lib.hid B4; clear B4)
  obtain ⟨V5, m5, AV5, BV5, z5⟩ := new_img w4 0 0 none 0 0
  have l0 : V5.drew.cell? ⟨w.heap.size, 0, none⟩ = some (.int .i64 (v : Int)) := cell_keep k0 (below_drew BV5)
  have l1 : V5.drew.cell? ⟨w.heap.size, 1, none⟩ = some (.int .i64 (u : Int)) := cell_keep k1 (below_drew BV5)
  have l2 : V5.drew.cell? ⟨w.heap.size, 2, none⟩ = some (.slice (some a) n c) := cell_keep k2 (below_drew BV5)
  have hn : n ≤ 1000000 := by have := hO.len; have := area_le hO.w2 hO.h2; have := HLL.out.len; omega
  have C1 := Lib.hid (clone_c a n c bs w4.drew (HLL.out.below (below_drew hB4.out)) hn)
  have C2 := Lib.hid (clone_c a n c bs V5.drew ((HLL.out.below hB4.out).below (below_drew BV5)) hn)
  have HF := Lib.hid (And.intro AV5 (And.intro BV5 z5))
  have hne : Hid (w.heap.size ≠ w4.heap.size) := by have := hB4.out.size; have := HA.out.2.2.lt; show _ ≠ _; omega
  clear AV5 BV5 z5 HV y0 y1 y2
  go_region_held3 (fun w' => w'.cell? ⟨w.heap.size, 0, none⟩ = some (.int .i64 (v : Int)) ∧ w'.cell? ⟨w.heap.size, 1, none⟩ = some (.int .i64 (u : Int)) ∧ w'.cell? ⟨w.heap.size, 2, none⟩ = some (.slice (some a) n c)) (go_keep) (first
    | (go_at_call 16; (with_reducible refine C1.out.mono ?_); rintro e w5 ⟨co, d, rfl, OC, B5⟩; have t0 := cell_keep (w := w4.drew) k0 B5; have t1 := cell_keep (w := w4.drew) k1 B5; have t2 := cell_keep (w := w4.drew) k2 B5; obtain ⟨V6, X9, m6, m7, q0, q1, q2, q3, q4, q5, hX, hfin⟩ := fill_armA hB4.out OC B5 v u; have s0 := cell_keep t0 hX.1; have s1 := cell_keep t1 hX.1; have s2 := cell_keep t2 hX.1; have o0 := cell_keep t0 hX.2; have o1 := cell_keep t1 hX.2; have o2 := cell_keep t2 hX.2; obtain ⟨g5, hg5⟩ : ∃ g, w5.heap.size = g := ⟨_, rfl⟩; rw [hg5] at m7 q0 q1 q2 q3 q4 q5 hfin; replace hfin := Lib.hid hfin; clear hX OC B5)
    | (go_at_call 16; (with_reducible refine C2.out.mono ?_); rintro e w5 ⟨co, d, rfl, OC, B5⟩; have t0 := cell_keep (w := V5.drew) l0 B5; have t1 := cell_keep (w := V5.drew) l1 B5; have t2 := cell_keep (w := V5.drew) l2 B5; obtain ⟨X9, m7, q0, q1, q2, q3, q4, q5, GX, hfin⟩ := fill_armB hB4.out HF.out.1 HF.out.2.1 HF.out.2.2 OC B5 v u; have o0 := cell_grown t0 hne.out GX; have o1 := cell_grown t1 hne.out GX; have o2 := cell_grown t2 hne.out GX; obtain ⟨g5, hg5⟩ : ∃ g, w4.heap.size = g := ⟨_, rfl⟩; rw [hg5] at m7 q0 q1 q2 q3 q4 q5 hfin; replace hfin := Lib.hid hfin; clear GX OC B5))
  all_goals
    have HP := Lib.hid (pixels_c v u (.slice (some a) n c) x y p q X9 ⟨hO.w2, hO.h2⟩ x1 x2 y1 y2 a1 a2 b1 b2)
    clear m7 q0 q1 q2 q3 q4 q5 t0 t1 t2
    go_wp2_with (go_at_call 17; refine HP.out.mono ?_; rintro e w6 ⟨rfl, ⟨Fx, Tx, Fy, Ty, CX, CY, PB⟩, B6, z6⟩; clear HP)
    obtain ⟨gc, hgc⟩ : ∃ gc, co = some ⟨gc, 0, none⟩ := by
      rcases hfin.out.own.cases with ⟨_, e, _⟩ | ⟨g, e, _⟩
      · have := hO.len; have := HLL.out.len; have := Nat.mul_pos hO.w1 hO.h1; omega
      · exact ⟨g, e⟩
    subst hgc
    have hgcl : gc < X9.heap.size ∧ V3.heap.size ≤ gc := by
      have h1 := World.ownsRow.lt hfin.out.own.1 gc rfl
      exact ⟨h1.2, h1.1⟩
    have hgb := hfin.out.im.lt
    have hgg := hfin.out.g
    have hV3 := HA.out.2.2.lt
    have hV3w : w.heap.size ≤ V3.heap.size := HB.out.size
    have hn8 : v * u ≤ 8 * n := by have := hO.len; have := HLL.out.len; omega
    have hn : n ≤ 1000000 := by have := hO.len; have := area_le hO.w2 hO.h2; have := HLL.out.len; omega
    have BX : Below w.heap.size w w6 := (HB.out.trans (hfin.out.b.mono hV3w)).trans (B6.mono (by have := hfin.out.b.size; omega))
    have FI : FillI w w.heap.size g5 gc d v u n (bitL bs) on w6.heap.size [] w6 := by
      refine ⟨Nat.le_refl _, ((HA.out.2.1.kept hfin.out.b)).kept B6, (HA.out.2.2.kept hfin.out.b).kept B6, hfin.out.im.kept B6, ?_, BX⟩
      have h1 := hfin.out.own.kept B6
      rw [fillB_nil]
      have h2 : packP (bitL bs) n = bs := by rw [← HLL.out.len]; exact pack_bits bs HLL.out.bytes
      rw [h2]
      exact ⟨h1.1.mono hV3w, h1.2⟩
    have b1' : w.heap.size + 2 < w6.heap.size := by have := hfin.out.b.size; omega
    have b2' : g5 < w6.heap.size := by omega
    have b3' : gc < w6.heap.size := by omega
    have b4' : w.heap.size ≤ w6.heap.size := BX.size
    refine wpIn_wide (n := 3) |>.1 ?_
    refine wpIn_rangeFunc_ownG (F := Fence.wide) (n := 3) rfl (by omega) (gf := 28) (lb := #[.pointer (some ⟨X9.heap.size + 3, 0, none⟩), .pointer (some ⟨X9.heap.size + 4, 0, none⟩), .pointer (some ⟨X9.heap.size + 1, 0, none⟩), .pointer (some ⟨X9.heap.size + 2, 0, none⟩), .pointer (some ⟨X9.heap.size, 0, none⟩)]) rfl trivial (enters_of Try.func28 (by kernel_rfl) rfl)
      (pix_stops Fence.wide _ trivial rfl (by omega) X9.heap.size v u (.slice (some a) n c) x y p q Fx Tx Fy Ty hO.w1 ⟨hO.w2, hO.h2⟩ CX CY (rectL v u x y p q) rfl w6 (by omega) PB) KpR.t (KpR.b (by omega)) (Below.refl _ _) (fun _ => rfl)
      (fun pre W => FillI w w.heap.size g5 gc d v u n (bitL bs) on w6.heap.size (pre.map (·.1)) W) (fun _ _ _ => False)
      (FillI.own_ b1' b2' b3' b4') (fun _ _ _ _ _ hs _ _ => hs) FI
      (fun z => { tmps := #[.agg #[.int .i64 (v : Int), .int .i64 (u : Int), .slice (some a) n c], .int .i64 x, .int .i64 y, .int .i64 p, .int .i64 q, .bool on, .pointer (some ⟨w.heap.size, 0, none⟩), undef, undef, undef, undef, .pointer (some ⟨w.heap.size + 1, 0, none⟩), .pointer (some ⟨w.heap.size + 2, 0, none⟩), .pointer (some ⟨g5, 0, none⟩), .int .i64 (z.1 : Int),
        .agg #[.int .i64 (v : Int), .int .i64 (u : Int), .slice (some a) n c], .bool true, .bool false, undef, .pointer (some ⟨w.heap.size, 0, none⟩), .int .i64 (v : Int), .pointer (some ⟨w.heap.size, 1, none⟩), .int .i64 (u : Int), .pointer (some ⟨w.heap.size, 2, none⟩), .slice (some a) n c, .slice (some ⟨gc, 0, none⟩) n d, .agg #[.int .i64 (v : Int), .int .i64 (u : Int), .slice (some ⟨gc, 0, none⟩) n d],
        .agg #[.int .i64 (v : Int), .int .i64 (u : Int), .slice (some a) n c], .int .i64 x, .int .i64 y, .int .i64 p, .int .i64 q, .func (.func 28) #[] #[.pointer (some ⟨X9.heap.size + 3, 0, none⟩), .pointer (some ⟨X9.heap.size + 4, 0, none⟩), .pointer (some ⟨X9.heap.size + 1, 0, none⟩), .pointer (some ⟨X9.heap.size + 2, 0, none⟩), .pointer (some ⟨X9.heap.size, 0, none⟩)], .int .i64 (z.1 : Int), undef, undef, undef, undef, undef], defers := [] }) ?_ ?_ ?_ ?_
    · intro l z W K hK
      unfold encN
      gi_wp2
      exact hK
    · intro l pre z W HI0 _
      obtain ⟨ns, hns⟩ : ∃ ns, pre.map (·.1) = ns := ⟨_, rfl⟩
      have HI : FillI w w.heap.size g5 gc d v u n (bitL bs) on w6.heap.size ns W := by rw [← hns]; exact HI0
      clear HI0
      obtain ⟨zn, hzm⟩ := z
      have hzP : zn < v * u := by
        unfold rectL at hzm
        exact List.mem_range.1 (List.mem_filter.1 hzm).1
      have d0 : W.cell? ⟨g5, 0, none⟩ = some (.int .i64 (v : Int)) := HI.im.cell 0
      have d1 : W.cell? ⟨g5, 1, none⟩ = some (.int .i64 (u : Int)) := HI.im.cell 1
      have d2 : W.cell? ⟨g5, 2, none⟩ = some (.slice (some ⟨gc, 0, none⟩) n d) := HI.im.cell 2
      have d3 : W.cell? ⟨w.heap.size + 1, 0, none⟩ = some (.bool on) := HI.bx.cell 0
      have HS := Lib.hid (set_c v u w.heap.size (some ⟨gc, 0, none⟩) n d (fillB (bitL bs) ns on) zn on W HI.own (by omega) hn)
      have hend : Hid (∀ W', Own 5 .u8 w.heap.size W' (some ⟨gc, 0, none⟩) n d (packP (upd (fillB (bitL bs) ns on) zn on) n) → W.grownBy W' (some gc) →
          KeepsFrom w6.heap.size W W' ∧ KpR X9.heap.size (X9.heap.size + 5) W W' ∧ FillI w w.heap.size g5 gc d v u n (bitL bs) on w6.heap.size ((pre ++ [(⟨zn, hzm⟩ : In (rectL v u x y p q))]).map (·.1)) W') := by
        intro W' O' G'
        have hsz := HI.sz
        have ne1 : some (w.heap.size + 1) ≠ some gc := fun e => by injection e; omega
        have ne2 : some (w.heap.size + 2) ≠ some gc := fun e => by injection e; omega
        have ne3 : some g5 ≠ some gc := fun e => by
          injection e with e
          have h1 := HI.im.cell 0
          have h2 := HI.own.lst.cell 0 (by have := Nat.mul_pos hO.w1 hO.h1; omega)
          rw [pt_own, ← e, h1] at h2
          cases h2
        refine ⟨KeepsFrom.of_grownBy G' (fun j e => by injection e; omega), KpR.of_grown G' (Or.inl hgcl.1) (by omega), ⟨by have := G'.size; omega, (G'.block _ (by omega) ne1).trans HI.bx, (G'.block _ (by omega) ne2).trans HI.z, (G'.block _ (by omega) ne3).trans HI.im, ?_, below_grown HI.b G' HI.b.size (by omega)⟩⟩
        rw [map_snoc, fillB_snoc, hns]
        exact O'
      clear HI FI PB CX CY BX B6 hfin HA HLL HB hO hgcl hgb hgg hV3 hV3w hn8 hn b1' b2' b3' b4' z6
      gi_wp2_with (refine ⟨trivial, ?_⟩; gi_at_call 18; refine (CallsIn.inRound l (callsIn_wide.2 HS.out)).mono ?_)
      rintro e W' ⟨⟨r, rfl⟩, O', G'⟩
      gi_wp2
      exact hend.out _ O' G'
    · intro D ys W hD hS HI0 hK
      have HI : FillI w w.heap.size g5 gc d v u n (bitL bs) on w6.heap.size (rectL v u x y p q) W := by rw [← hS]; exact HI0
      clear HI0
      have d0 : W.cell? ⟨g5, 0, none⟩ = some (.int .i64 (v : Int)) := HI.im.cell 0
      have d1 : W.cell? ⟨g5, 1, none⟩ = some (.int .i64 (u : Int)) := HI.im.cell 1
      have d2 : W.cell? ⟨g5, 2, none⟩ = some (.slice (some ⟨gc, 0, none⟩) n d) := HI.im.cell 2
      obtain ⟨Z, m7, AZ, GZ, hZz, q0, q1, q2, q3, q4, q5, r0, r1, r2⟩ := put_img HI.z (.int .i64 (v : Int)) (.int .i64 (u : Int)) (.slice (some ⟨gc, 0, none⟩) n d)
      have hD2 : D < W.heap.size := (Array.getElem?_eq_some_iff.1 hK).1
      have hneD : w.heap.size + 2 ≠ D := by omega
      have hKZ : Z.heap[D]? = some (.deferred (some [])) := (GZ.block D hD2 (fun e => by injection e; omega)).trans hK
      have A' : Arr (Z.putObj D (.deferred none)) (w.heap.size + 2) 24 [.int .i64 (v : Int), .int .i64 (u : Int), .slice (some ⟨gc, 0, none⟩) n d] := AZ.put _ hneD
      have hgcD : gc ≠ D := by omega
      have hgc2 : gc ≠ w.heap.size + 2 := by omega
      have O' : Own 5 .u8 w.heap.size (Z.putObj D (.deferred none)) (some ⟨gc, 0, none⟩) n d (packP (fillB (bitL bs) (rectL v u x y p q) on) n) :=
        ⟨(HI.own.1.kept GZ (Or.inr (fun e => hgc2 (by injection e)))).kept (grownBy_putObj' Z D _) (Or.inr (fun e => hgcD (by injection e))), HI.own.2⟩
      have B' : Below w.heap.size w (Z.putObj D (.deferred none)) := below_grown (below_grown HI.b GZ HI.b.size (by omega)) (grownBy_putObj' Z D _) (by have := HI.b.size; omega) (by omega)
      have z0 : (Z.putObj D (.deferred none)).cell? ⟨w.heap.size + 2, 0, none⟩ = some (.int .i64 (v : Int)) := A'.cell 0
      have z1 : (Z.putObj D (.deferred none)).cell? ⟨w.heap.size + 2, 1, none⟩ = some (.int .i64 (u : Int)) := A'.cell 1
      have z2 : (Z.putObj D (.deferred none)).cell? ⟨w.heap.size + 2, 2, none⟩ = some (.slice (some ⟨gc, 0, none⟩) n d) := A'.cell 2
      have hend := Lib.hid (And.intro O' B')
      clear HI FI PB CX CY BX B6 hfin HA HLL HB hO hgcl hgb hgg hV3 hV3w hn8 hn b1' b2' b3' b4' z6 A' O' B' AZ GZ hK hS
      go_wp2_with fail
      refine ⟨by simp, .inl ⟨_, _, rfl, run_takeDeferred hKZ, ?_⟩⟩
      refine ⟨.agg #[.int .i64 (v : Int), .int .i64 (u : Int), .slice (some ⟨gc, 0, none⟩) n d], ?_, gc, d, rfl, hend.out.1, hend.out.2⟩
      simp [results, Try.results6, go_sem, z0, z1, z2]
    · rintro D cc pre W _ _ h _
      exact h.elim
end Go.Proofs.Ytcgfoagfoncjiaa
