/-
  The program's Shift.
-/
import Derived.Test.YtpjaljjclkfkmaaImgCountP
import Derived.Test.YtpjaljjclkfkmaaImgNoP
import Derived.Test.YtpjaljjclkfkmaaImgReg
namespace Go.Proofs.Ytpjaljjclkfkmaa
open Go.RowKit Go.Shelf Im
attribute [local go_sem] Oper.semAt_some

/-- The bits of a shifted image. -/
def shB (f : Nat → Bool) (off : Int) (ns : List Nat) : Nat → Bool := fun k => if k ∈ ns then f ((k : Int) - off).toNat else false
theorem shB_nil (f : Nat → Bool) (off : Int) : shB f off [] = noB := by funext k; simp [shB, noB]
theorem shB_snoc (f : Nat → Bool) (off : Int) (ns : List Nat) (n : Nat) : shB f off (ns ++ [n]) = upd (shB f off ns) n (f ((n : Int) - off).toNat) := by
  funext k
  unfold shB upd
  by_cases h : k = n
  · rw [if_pos h, if_pos (by rw [h]; simp), h]
  · rw [if_neg h]
    by_cases h2 : k ∈ ns
    · have h3 : k ∈ ns ++ [n] := by simp [h2]
      simp only [h2, h3, if_true]
    · have h3 : ¬ k ∈ ns ++ [n] := by simp [h2, h]
      simp only [h2, h3, if_false]
namespace Im
/-- Where a pixel of the shifted image comes from. -/
theorem from_spot {v u n : Nat} {x y : Int} (hv : 0 < v) (h : n ∈ rectL v u x y v u) : n < v * u ∧ ∃ r c r' c' : Nat, n = r * v + c ∧ c < v ∧ r < u ∧ (r : Int) - y = r' ∧ (c : Int) - x = c' ∧ c' < v ∧ r' < u := by
  unfold rectL at h
  obtain ⟨h1, h2⟩ := List.mem_filter.1 h
  have h1 := List.mem_range.1 h1
  unfold rectP inP at h2
  simp only [Bool.and_eq_true, decide_eq_true_eq] at h2
  obtain ⟨⟨_, h3, h4⟩, h5, h6⟩ := h2
  have hr : n / v < u := (Nat.div_lt_iff_lt_mul hv).2 (by rw [Nat.mul_comm]; exact h1)
  have hc := Nat.mod_lt n hv
  have hn : n / v * v + n % v = n := by rw [Nat.mul_comm]; exact Nat.div_add_mod n v
  exact ⟨h1, n / v, n % v, (((n / v : Nat) : Int) - y).toNat, (((n % v : Nat) : Int) - x).toNat, hn.symm, hc, hr, by omega, by omega, by omega, by omega⟩
end Im
/-- What Shift has in memory between two rounds. -/
structure ShI (w0 : World) (b0 g7 gc m : Nat) (v u n c : Nat) (a : Addr) (bs : List Int) (x y : Int) (S : Nat) (ns : List Nat) (W : World) : Prop where
  sz : S ≤ W.heap.size
  i : Arr W b0 24 [.int .i64 (v : Int), .int .i64 (u : Int), .slice (some a) n c]
  px : Arr W (b0 + 1) 3 [.int .i64 x]
  py : Arr W (b0 + 2) 3 [.int .i64 y]
  z : Arr W (b0 + 3) 24 [.int .i64 0, .int .i64 0, .slice none 0 0]
  im : Arr W g7 24 [.int .i64 (v : Int), .int .i64 (u : Int), .slice (some ⟨gc, 0, none⟩) m m]
  own : Own 5 .u8 w0.heap.size W (some ⟨gc, 0, none⟩) m m (packP (shB (bitL bs) (y * v + x) ns) m)
  b : Below w0.heap.size w0 W
theorem ShI.own_ {L : List Nat} {w0 : World} {b0 g7 gc m v u n c : Nat} {a : Addr} {bs : List Int} {x y : Int} {S : Nat} (h1 : b0 + 3 < S) (h2 : g7 < S) (h3 : gc < S) (h4 : w0.heap.size ≤ S) : OwnFrom S (fun (pre : List (In L)) W => ShI w0 b0 g7 gc m v u n c a bs x y S (pre.map (·.1)) W) := by
  intro s A B row h hg hr0
  have hr : ∀ r, row = some r → S ≤ r := fun r e => (hr0 r e).1
  have ne : ∀ g, g < S → some g ≠ row := fun g hg e => by have := hr g e.symm; omega
  have hsz := h.sz
  exact ⟨by have := hg.size; omega, (hg.block _ (by omega) (ne _ (by omega))).trans h.i, (hg.block _ (by omega) (ne _ (by omega))).trans h.px, (hg.block _ (by omega) (ne _ (by omega))).trans h.py, (hg.block _ (by omega) (ne _ h1)).trans h.z, (hg.block _ (by omega) (ne _ h2)).trans h.im,
    ⟨h.own.1.kept hg (Or.inr (fun e => ne gc h3 e)), h.own.2⟩, h.b.grown hg (by have := h.b.size; omega) (fun k e => by have := hr k e; omega)⟩
/-- What a round of Shift loads. -/
def ShS (b0 g7 gc v u n c : Nat) (a : Addr) (x y : Int) (W : World) : Prop :=
  W.cell? ⟨b0, 0, none⟩ = some (.int .i64 (v : Int)) ∧ W.cell? ⟨b0, 1, none⟩ = some (.int .i64 (u : Int)) ∧ W.cell? ⟨b0, 2, none⟩ = some (.slice (some a) n c) ∧ W.cell? ⟨b0 + 1, 0, none⟩ = some (.int .i64 x) ∧ W.cell? ⟨b0 + 2, 0, none⟩ = some (.int .i64 y) ∧
  W.cell? ⟨g7, 0, none⟩ = some (.int .i64 (v : Int)) ∧ W.cell? ⟨g7, 1, none⟩ = some (.int .i64 (u : Int)) ∧ W.cell? ⟨g7, 2, none⟩ = some (.slice (some ⟨gc, 0, none⟩) n n)
theorem ShS.keep {b0 g7 gc v u n c : Nat} {a : Addr} {x y : Int} {W Z : World} (h : ShS b0 g7 gc v u n c a x y W) (k : Below W.heap.size W Z) : ShS b0 g7 gc v u n c a x y Z := by
  obtain ⟨h0, h1, h2, h3, h4, h5, h6, h7⟩ := h
  exact ⟨cell_keep h0 k, cell_keep h1 k, cell_keep h2 k, cell_keep h3 k, cell_keep h4 k, cell_keep h5 k, cell_keep h6 k, cell_keep h7 k⟩
theorem ShS.grown {b0 g7 gc v u n c : Nat} {a : Addr} {x y : Int} {W Z : World} (h : ShS b0 g7 gc v u n c a x y W) (k : W.grownBy Z (some gc)) (hne : b0 ≠ gc ∧ b0 + 1 ≠ gc ∧ b0 + 2 ≠ gc ∧ g7 ≠ gc) : ShS b0 g7 gc v u n c a x y Z := by
  obtain ⟨h0, h1, h2, h3, h4, h5, h6, h7⟩ := h
  exact ⟨cell_grown h0 hne.1 k, cell_grown h1 hne.1 k, cell_grown h2 hne.1 k, cell_grown h3 hne.2.1 k, cell_grown h4 hne.2.2.1 k, cell_grown h5 hne.2.2.2 k, cell_grown h6 hne.2.2.2 k, cell_grown h7 hne.2.2.2 k⟩
/-- A new box, filled at once. -/
theorem new_fill (w : World) (x y t : Value) : ∃ V W, w.alloc (.cells #[.int .i64 0, .int .i64 0, .slice none 0 0] 24) = V ∧ ((V.setCell ⟨w.heap.size, 0, none⟩ x).setCell ⟨w.heap.size, 1, none⟩ y).setCell ⟨w.heap.size, 2, none⟩ t = W ∧
    V.cell? ⟨w.heap.size, 0, none⟩ = some (.int .i64 0) ∧ V.frozen? ⟨w.heap.size, 0, none⟩ = false ∧ (V.setCell ⟨w.heap.size, 0, none⟩ x).cell? ⟨w.heap.size, 1, none⟩ = some (.int .i64 0) ∧ (V.setCell ⟨w.heap.size, 0, none⟩ x).frozen? ⟨w.heap.size, 1, none⟩ = false ∧
    ((V.setCell ⟨w.heap.size, 0, none⟩ x).setCell ⟨w.heap.size, 1, none⟩ y).cell? ⟨w.heap.size, 2, none⟩ = some (.slice none 0 0) ∧ ((V.setCell ⟨w.heap.size, 0, none⟩ x).setCell ⟨w.heap.size, 1, none⟩ y).frozen? ⟨w.heap.size, 2, none⟩ = false ∧
    Arr W w.heap.size 24 [x, y, t] ∧ Below w.heap.size w W ∧ W.heap.size = w.heap.size + 1 := by
  obtain ⟨V, e1, AV, BV, hz⟩ := new_img w 0 0 none 0 0
  obtain ⟨W, m7, AW, GW, hWz, q0, q1, q2, q3, q4, q5, r0, r1, r2⟩ := put_img AV x y t
  exact ⟨V, W, e1, m7, q0, q1, q2, q3, q4, q5, AW, below_grown BV GW (by omega) (Nat.le_refl _), by omega⟩
set_option maxHeartbeats 3200000 in
set_option maxRecDepth 100000 in
theorem shift_c (v u : Nat) (a : Addr) (n c : Nat) (bs : List Int) (x y : Int) (w : World) (h : Lst .u8 w (some a) n c bs) (hO : OkI v u bs) (x1 : -9223372036854775808 ≤ x) (x2 : x ≤ 9223372036854775807) (y1 : -9223372036854775808 ≤ y) (y2 : y ≤ 9223372036854775807) :
    Calls Try.prog 26 #[.agg #[.int .i64 (v : Int), .int .i64 (u : Int), .slice (some a) n c], .int .i64 x, .int .i64 y] w fun e w' => ∃ gc, e = .returned (.agg #[.int .i64 (v : Int), .int .i64 (u : Int), .slice (some ⟨gc, 0, none⟩) n n]) ∧ Own 5 .u8 w.heap.size w' (some ⟨gc, 0, none⟩) n n (packP (shB (bitL bs) (y * v + x) (rectL v u x y v u)) n) ∧ Below w.heap.size w w' := by
  obtain ⟨V1, e1, A1, B1, z1⟩ := new_img w v u (some a) n c
  obtain ⟨V2, e2⟩ : ∃ V, V1.alloc (.cells #[.int .i64 x] 3) = V := ⟨_, rfl⟩
  have A2 : Arr V2 V1.heap.size 3 [.int .i64 x] := by rw [← e2]; exact Arr.new V1 _ _
  have B2 : Below V1.heap.size V1 V2 := by rw [← e2]; exact (Below.refl _ _).alloc (Nat.le_refl _) _
  have z2 : V2.heap.size = V1.heap.size + 1 := by rw [← e2]; simp
  obtain ⟨V2', e2'⟩ : ∃ V, V2.alloc (.cells #[.int .i64 y] 3) = V := ⟨_, rfl⟩
  have A2' : Arr V2' V2.heap.size 3 [.int .i64 y] := by rw [← e2']; exact Arr.new V2 _ _
  have B2' : Below V2.heap.size V2 V2' := by rw [← e2']; exact (Below.refl _ _).alloc (Nat.le_refl _) _
  have z2' : V2'.heap.size = V2.heap.size + 1 := by rw [← e2']; simp
  obtain ⟨V3, e3, A3, B3, z3⟩ := new_img V2' 0 0 none 0 0
  have hz2 : V2.heap.size = w.heap.size + 2 := by omega
  have hz3 : V2'.heap.size = w.heap.size + 3 := by omega
  rw [z1] at A2
  rw [hz2] at A2'
  rw [hz3] at A3
  have BB : Below w.heap.size w V3 := ((B1.trans (B2.mono B1.size)).trans (B2'.mono (by omega))).trans (B3.mono (by omega))
  have HV := Lib.hid (valid_c v u (some a) n c bs V3 (h.below BB))
  rw [okB_mk hO] at HV
  have HA := Lib.hid (And.intro (((A1.kept B2).kept B2').kept B3) (And.intro ((A2.kept B2').kept B3) (And.intro (A2'.kept B3) A3)))
  have y0 : V3.cell? ⟨w.heap.size, 0, none⟩ = some (.int .i64 (v : Int)) := HA.out.1.cell 0
  have y1 : V3.cell? ⟨w.heap.size, 1, none⟩ = some (.int .i64 (u : Int)) := HA.out.1.cell 1
  have y2 : V3.cell? ⟨w.heap.size, 2, none⟩ = some (.slice (some a) n c) := HA.out.1.cell 2
  have HB := Lib.hid BB
  have hHL : Hid (∀ W, Below w.heap.size w W → Lst .u8 W (some a) n c bs) := fun W hb => h.below hb
  have hlen : Hid (bs.length = n) := h.len
  have HPX := Lib.hid (fun W => pixels_c v u (.slice (some a) n c) x y v u W ⟨hO.w2, hO.h2⟩ x1 x2 (by assumption) (by assumption) (by omega) (by have := hO.w2; omega) (by omega) (by have := hO.h2; omega))
  have HNW := Lib.hid (fun W => new_c v u W)
  clear A1 A2 A2' A3 B1 B2 B2' B3 BB z2 z2' z3 h
  refine (callsIn_wide (n := 3)).1 ?_
  refine callsIn_of_wp_marks Try.func26 rfl trivial ?_ rfl
  refine wpIn_wide.2 ?_
  simp only [Try.ntmps26, List.size_toArray, List.length_cons, List.length_nil, Nat.reduceAdd, Nat.reduceSub, Array.replicate_succ, Array.replicate_zero, List.push_toArray, List.append_toArray, List.nil_append, List.cons_append]
  go_wp2_with (first
    | (go_at_call 16; refine HV.out.mono ?_; rintro e w4 ⟨rfl, B4⟩; have k0 := cell_keep y0 B4; have k1 := cell_keep y1 B4; have k2 := cell_keep y2 B4; have hB4 := Lib.hid B4; clear B4))
  refine (HNW.out w4).mono ?_
  rintro e w5 ⟨hN, B5⟩
  obtain ⟨gc, rfl, ON⟩ : ∃ gc, e = .returned (.tuple #[.agg #[.int .i64 (v : Int), .int .i64 (u : Int), .slice (some ⟨gc, 0, none⟩) n n], .int .i64 0]) ∧ Own 5 .u8 w4.heap.size w5 (some ⟨gc, 0, none⟩) n n (packP noB n) := by
    rcases hN with ⟨v', u', m, gc, ev, eu, _, _, _, _, hm, rfl, ON⟩ | ⟨hno, _⟩
    · have ev : v = v' := by omega
      have eu : u = u' := by omega
      subst ev eu
      have hmn : m = n := by rw [hm, ← hO.len, hlen.out]
      subst hmn
      exact ⟨gc, rfl, ON⟩
    · exact absurd ⟨by have := hO.w1; omega, by have := hO.w2; omega, by have := hO.h1; omega, by have := hO.h2; omega⟩ hno
  obtain ⟨w6, w7, m6, m7, q0, q1, q2, q3, q4, q5, A7, B7, z7⟩ := new_fill w5 (.int .i64 (v : Int)) (.int .i64 (u : Int)) (.slice (some ⟨gc, 0, none⟩) n n)
  have B57 : Below w4.heap.size w4 w7 := B5.trans (B7.mono B5.size)
  have l0 := cell_keep k0 B57
  have l1 := cell_keep k1 B57
  have l2 := cell_keep k2 B57
  have B37 : Below V3.heap.size V3 w7 := hB4.out.trans (B57.mono hB4.out.size)
  have l3 : w7.cell? ⟨w.heap.size + 1, 0, none⟩ = some (.int .i64 x) := (HA.out.2.1.kept B37).cell 0
  have l4 : w7.cell? ⟨w.heap.size + 2, 0, none⟩ = some (.int .i64 y) := (HA.out.2.2.1.kept B37).cell 0
  obtain ⟨g7, hg7⟩ : ∃ g, w5.heap.size = g := ⟨_, rfl⟩
  have hgc := World.ownsRow.lt ON.1 gc rfl
  rw [hg7] at m7 q0 q1 q2 q3 q4 q5 A7 hgc z7
  have O7 : Own 5 .u8 w.heap.size w7 (some ⟨gc, 0, none⟩) n n (packP noB n) := by
    have h1 := ON.kept B7
    exact ⟨h1.1.mono (Nat.le_trans HB.out.size hB4.out.size), h1.2⟩
  have h4 : V3.heap.size ≤ w4.heap.size := hB4.out.size
  have hF := Lib.hid (And.intro O7 (And.intro A7 (And.intro B37 (And.intro hgc (And.intro z7 h4)))))
  have HP := Lib.hid (HPX.out w7)
  clear ON hN B5 B7 B57 A7 O7 B37 hgc z7 k0 k1 k2 y0 y1 y2 h4
  go_wp2_with (go_at_call 40; refine HP.out.mono ?_; rintro e w8 ⟨rfl, ⟨Fx, Tx, Fy, Ty, CX, CY, PB⟩, B8, z8⟩; clear HP)
  obtain ⟨O7, A7, B37, hgc, z7, h4⟩ := hF.out
  have hV3 := HA.out.2.2.2.lt
  have BX : Below w.heap.size w w7 := HB.out.trans (B37.mono HB.out.size)
  have BX8 : Below w.heap.size w w8 := BX.trans (B8.mono BX.size)
  have hn8 : v * u ≤ 8 * n := by have := hO.len; have := hlen.out; omega
  have hn : n ≤ 1000000 := by have := hO.len; have := area_le hO.w2 hO.h2; have := hlen.out; omega
  have hn1 : 1 ≤ n := by have := Nat.mul_pos hO.w1 hO.h1; omega
  have FI : ShI w w.heap.size g7 gc n v u n c a bs x y w8.heap.size [] w8 :=
    ⟨Nat.le_refl _, (HA.out.1.kept B37).kept B8, (HA.out.2.1.kept B37).kept B8, (HA.out.2.2.1.kept B37).kept B8, (HA.out.2.2.2.kept B37).kept B8, A7.kept B8, by rw [shB_nil]; exact O7.kept B8, BX8⟩
  have b1' : w.heap.size + 3 < w8.heap.size := by have := B37.size; omega
  have b2' : g7 < w8.heap.size := by omega
  have b3' : gc < w8.heap.size := by omega
  have b4' : w.heap.size ≤ w8.heap.size := by omega
  refine wpIn_wide (n := 3) |>.1 ?_
  refine wpIn_rangeFunc_ownG (F := Fence.wide) (n := 3) rfl (by omega) (gf := 52) (lb := #[.pointer (some ⟨w7.heap.size + 3, 0, none⟩), .pointer (some ⟨w7.heap.size + 4, 0, none⟩), .pointer (some ⟨w7.heap.size + 1, 0, none⟩), .pointer (some ⟨w7.heap.size + 2, 0, none⟩), .pointer (some ⟨w7.heap.size, 0, none⟩)]) rfl trivial (enters_of Try.func52 (by kernel_rfl) rfl)
    (pix_stops Fence.wide _ trivial rfl (by omega) w7.heap.size v u (.slice (some a) n c) x y v u Fx Tx Fy Ty hO.w1 ⟨hO.w2, hO.h2⟩ CX CY (rectL v u x y v u) rfl w8 (by omega) PB) KpR.t (KpR.b (by omega)) (Below.refl _ _) (fun _ => rfl)
    (fun pre W => ShI w w.heap.size g7 gc n v u n c a bs x y w8.heap.size (pre.map (·.1)) W) (fun _ _ _ => False)
    (ShI.own_ b1' b2' b3' b4') (fun _ _ _ _ _ hs _ _ => hs) FI
    (fun z => { tmps := #[.agg #[.int .i64 (v : Int), .int .i64 (u : Int), .slice (some a) n c], .int .i64 x, .int .i64 y, .pointer (some ⟨w.heap.size, 0, none⟩), .pointer (some ⟨w.heap.size + 1, 0, none⟩), .pointer (some ⟨w.heap.size + 2, 0, none⟩), .pointer (some ⟨w.heap.size + 3, 0, none⟩), .pointer (some ⟨g7, 0, none⟩), .int .i64 0, .int .i64 (z.1 : Int),
      .agg #[.int .i64 (v : Int), .int .i64 (u : Int), .slice (some a) n c], .bool true, .bool false, undef, .tuple #[.agg #[.int .i64 (v : Int), .int .i64 (u : Int), .slice (some ⟨gc, 0, none⟩) n n], .int .i64 0], .pointer (some ⟨w.heap.size, 0, none⟩), .int .i64 (v : Int), .pointer (some ⟨w.heap.size, 1, none⟩), .int .i64 (u : Int), .tuple #[.agg #[.int .i64 (v : Int), .int .i64 (u : Int), .slice (some ⟨gc, 0, none⟩) n n], .int .i64 0], .agg #[.int .i64 (v : Int), .int .i64 (u : Int), .slice (some ⟨gc, 0, none⟩) n n], .int .i64 0,
      .agg #[.int .i64 (v : Int), .int .i64 (u : Int), .slice (some a) n c], .int .i64 x, .int .i64 y, .pointer (some ⟨w.heap.size, 0, none⟩), .int .i64 (v : Int), .pointer (some ⟨w.heap.size, 1, none⟩), .int .i64 (u : Int),
      .func (.func 52) #[] #[.pointer (some ⟨w7.heap.size + 3, 0, none⟩), .pointer (some ⟨w7.heap.size + 4, 0, none⟩), .pointer (some ⟨w7.heap.size + 1, 0, none⟩), .pointer (some ⟨w7.heap.size + 2, 0, none⟩), .pointer (some ⟨w7.heap.size, 0, none⟩)], .int .i64 (z.1 : Int), undef, undef, undef, undef, undef, undef, undef, undef, undef, undef, undef, undef, undef, undef], defers := [] }) ?_ ?_ ?_ ?_
  · intro l z W K hK
    unfold encN
    clear z7 z8
    gi_wp2
    exact hK
  · intro l pre z W HI0 _
    obtain ⟨ns, hns⟩ : ∃ ns, pre.map (·.1) = ns := ⟨_, rfl⟩
    have HI : ShI w w.heap.size g7 gc n v u n c a bs x y w8.heap.size ns W := by rw [← hns]; exact HI0
    clear HI0
    obtain ⟨zn, hzm⟩ := z
    obtain ⟨hzP, r, cc, r', c', hz, hcv, hru, hr', hc', hcv', hru'⟩ := from_spot hO.w1 hzm
    have d0 : W.cell? ⟨w.heap.size, 0, none⟩ = some (.int .i64 (v : Int)) := HI.i.cell 0
    have d1 : W.cell? ⟨w.heap.size, 1, none⟩ = some (.int .i64 (u : Int)) := HI.i.cell 1
    have d2 : W.cell? ⟨w.heap.size, 2, none⟩ = some (.slice (some a) n c) := HI.i.cell 2
    have d3 : W.cell? ⟨w.heap.size + 1, 0, none⟩ = some (.int .i64 x) := HI.px.cell 0
    have d4 : W.cell? ⟨w.heap.size + 2, 0, none⟩ = some (.int .i64 y) := HI.py.cell 0
    have d5 : W.cell? ⟨g7, 0, none⟩ = some (.int .i64 (v : Int)) := HI.im.cell 0
    have d6 : W.cell? ⟨g7, 1, none⟩ = some (.int .i64 (u : Int)) := HI.im.cell 1
    have d7 : W.cell? ⟨g7, 2, none⟩ = some (.slice (some ⟨gc, 0, none⟩) n n) := HI.im.cell 2
    obtain ⟨k, hk⟩ : ∃ k, r' * v + c' = k := ⟨_, rfl⟩
    have hkP : k < v * u := by rw [← hk]; exact spot_lt hcv' hru'
    have hP := area_le hO.w2 hO.h2
    obtain ⟨Y, hY⟩ : ∃ Y : Int, y * (v : Int) = Y := ⟨_, rfl⟩
    have hYk : (zn : Int) - Y - x = (k : Int) := by
      have e1 : y = (r : Int) - r' := by omega
      rw [← hY, e1, Int.sub_mul, hz, ← hk]
      have h1 : ((r * v : Nat) : Int) = (r : Int) * v := Int.natCast_mul r v
      have h2 : ((r' * v : Nat) : Int) = (r' : Int) * v := Int.natCast_mul r' v
      rw [← h1, ← h2]
      omega
    have hYb : -262144 ≤ Y ∧ Y ≤ 262144 := by
      have e1 : y = (r : Int) - r' := by omega
      have h3 : r * v ≤ v * u := by rw [Nat.mul_comm v u]; exact Nat.mul_le_mul (by omega) (Nat.le_refl _)
      have h4 : r' * v ≤ v * u := by rw [Nat.mul_comm v u]; exact Nat.mul_le_mul (by omega) (Nat.le_refl _)
      have h1 : ((r * v : Nat) : Int) = (r : Int) * v := Int.natCast_mul r v
      have h2 : ((r' * v : Nat) : Int) = (r' : Int) * v := Int.natCast_mul r' v
      rw [← hY, e1, Int.sub_mul, ← h1, ← h2]
      omega
    have hxb : -512 ≤ x ∧ x ≤ 512 := by have := hO.w2; omega
    obtain ⟨ZY, hZY⟩ : ∃ ZY : Int, (zn : Int) - Y = ZY := ⟨_, rfl⟩
    rw [hZY] at hYk
    have hw1 : IntKind.i64.wrap Y = Y := by rw [IntKind.wrap_i64]; omega
    have hw2 : IntKind.i64.wrap ZY = ZY := by rw [IntKind.wrap_i64]; omega
    have hw3 : IntKind.i64.wrap (k : Int) = (k : Int) := by rw [IntKind.wrap_i64]; omega
    have HS := Lib.hid (fun W1 (hb : Below W.heap.size W W1) => isFilled_c v u (some a) n c k bs W1 (hHL.out W1 (HI.b.trans (hb.mono HI.b.size))) (by omega) hn)
    have HT := Lib.hid (fun W1 (hb : Below W.heap.size W W1) => set_c v u w.heap.size (some ⟨gc, 0, none⟩) n n (shB (bitL bs) (y * v + x) ns) zn (bitL bs k) W1 (HI.own.kept hb) (by omega) hn)
    have hend : Hid (∀ W' Z, Below W.heap.size W W' → SetOut w.heap.size W' (some ⟨gc, 0, none⟩) n n (shB (bitL bs) (y * v + x) ns) zn (bitL bs k) (.returned (.tuple #[])) Z →
        KeepsFrom w8.heap.size W Z ∧ KpR w7.heap.size (w7.heap.size + 5) W Z ∧ ShI w w.heap.size g7 gc n v u n c a bs x y w8.heap.size ((pre ++ [(⟨zn, hzm⟩ : In (rectL v u x y v u))]).map (·.1)) Z) := by
      intro W' Z hb ⟨_, O', G'⟩
      have hsz := HI.sz
      have GZ : W.grownBy Z (some gc) := grown_trans (grown_of_below hb _) G'
      have hgcl : gc < w7.heap.size := by omega
      have ne3 : g7 ≠ gc := by omega
      refine ⟨KeepsFrom.of_grownBy GZ (fun j e => by injection e; omega), KpR.of_grown GZ (Or.inl hgcl) (by omega), ⟨by have := GZ.size; omega, HI.i.grownBy GZ (by omega), HI.px.grownBy GZ (by omega), HI.py.grownBy GZ (by omega), HI.z.grownBy GZ (by omega), HI.im.grownBy GZ ne3, ?_, below_grown HI.b GZ HI.b.size (by omega)⟩⟩
      rw [map_snoc, hns, shB_snoc]
      have e2 : ((zn : Int) - (y * v + x)).toNat = k := by rw [hY]; omega
      rw [e2]
      exact O'
    have hgne : w.heap.size ≠ gc ∧ w.heap.size + 1 ≠ gc ∧ w.heap.size + 2 ≠ gc ∧ g7 ≠ gc := by omega
    clear HI FI PB CX CY BX BX8 B8 HA HB hO hn8 hn hn1 b1' b2' b3' b4' z7 z8 hF O7 A7 B37 hgc h4 hV3 hHL hzP hz hcv hru hr' hc' hcv' hru' hkP hk hlen
    dsimp only
    gi_wp2
    have hBD : Below W.heap.size W W.drew := (Below.refl _ _).drew
    have hSS : ShS w.heap.size g7 gc v u n c a x y W.drew := ⟨d0, d1, d2, d3, d4, d5, d6, d7⟩
    clear d0 d1 d2 d3 d4 d5 d6 d7
    refine round_held (S := ShS w.heap.size g7 gc v u n c a x y) (by kernel_rfl) (by intro o ho cx; simp at ho; rcases ho with rfl | rfl | rfl | rfl | rfl | rfl | rfl | rfl | rfl | rfl | rfl | rfl | rfl <;> (intro hx; cases hx)) (by rintro ⟨_, _, hx⟩; exact hx.elim) (hSS) (fun hHeld => ?_)
    refine reg_take (i := 0) rfl (by kernel_rfl) (by kernel_rfl) (by kernel_rfl) (fun _ _ _ h => h) (by rfl) hHeld (v := ?v1) ?hy1 ?rest1
    case hy1 => (intro w' hSw; obtain ⟨s0, s1, s2, s3, s4, s5, s6, s7⟩ := id hSw; go_simp <;> try rfl)
    try simp only [Act.put, List.setIfInBounds_toArray, List.set_cons_zero, List.set_cons_succ]
    refine reg_take (i := 1) rfl (by kernel_rfl) (by kernel_rfl) (by kernel_rfl) (fun _ _ _ h => h) (by rfl) hHeld (v := ?v2) ?hy2 ?rest2
    case hy2 => (intro w' hSw; obtain ⟨s0, s1, s2, s3, s4, s5, s6, s7⟩ := id hSw; go_simp <;> try rfl)
    try simp only [Act.put, List.setIfInBounds_toArray, List.set_cons_zero, List.set_cons_succ]
    refine reg_take (i := 2) rfl (by kernel_rfl) (by kernel_rfl) (by kernel_rfl) (fun _ _ _ h => h) (by rfl) hHeld (v := ?v3) ?hy3 ?rest3
    case hy3 => (intro w' hSw; obtain ⟨s0, s1, s2, s3, s4, s5, s6, s7⟩ := id hSw; go_simp <;> try rfl)
    try simp only [Act.put, List.setIfInBounds_toArray, List.set_cons_zero, List.set_cons_succ]
    refine reg_take (i := 3) rfl (by kernel_rfl) (by kernel_rfl) (by kernel_rfl) (fun _ _ _ h => h) (by rfl) hHeld (v := ?v4) ?hy4 ?rest4
    case hy4 => (intro w' hSw; obtain ⟨s0, s1, s2, s3, s4, s5, s6, s7⟩ := id hSw; go_simp <;> try rfl)
    try simp only [Act.put, List.setIfInBounds_toArray, List.set_cons_zero, List.set_cons_succ]
    refine reg_take (i := 4) rfl (by kernel_rfl) (by kernel_rfl) (by kernel_rfl) (fun _ _ _ h => h) (by rfl) hHeld (v := ?v5) ?hy5 ?rest5
    case hy5 => (intro w' hSw; obtain ⟨s0, s1, s2, s3, s4, s5, s6, s7⟩ := id hSw; go_simp <;> try rfl)
    try simp only [Act.put, List.setIfInBounds_toArray, List.set_cons_zero, List.set_cons_succ]
    refine reg_take (i := 5) rfl (by kernel_rfl) (by kernel_rfl) (by kernel_rfl) (fun _ _ _ h => h) (by rfl) hHeld (v := ?v6) ?hy6 ?rest6
    case hy6 => (intro w' hSw; obtain ⟨s0, s1, s2, s3, s4, s5, s6, s7⟩ := id hSw; go_simp <;> try rfl)
    try simp only [Act.put, List.setIfInBounds_toArray, List.set_cons_zero, List.set_cons_succ]
    refine reg_take (i := 6) rfl (by kernel_rfl) (by kernel_rfl) (by kernel_rfl) (fun _ _ _ h => h) (by rfl) hHeld (v := ?v7) ?hy7 ?rest7
    case hy7 => (intro w' hSw; obtain ⟨s0, s1, s2, s3, s4, s5, s6, s7⟩ := id hSw; go_simp <;> try rfl)
    try simp only [Act.put, List.setIfInBounds_toArray, List.set_cons_zero, List.set_cons_succ]
    refine reg_take (i := 7) rfl (by kernel_rfl) (by kernel_rfl) (by kernel_rfl) (fun _ _ _ h => h) (by rfl) hHeld (v := ?v8) ?hy8 ?rest8
    case hy8 => (intro w' hSw; obtain ⟨s0, s1, s2, s3, s4, s5, s6, s7⟩ := id hSw; go_simp <;> try rfl)
    try simp only [Act.put, List.setIfInBounds_toArray, List.set_cons_zero, List.set_cons_succ]
    refine reg_take (i := 8) rfl (by kernel_rfl) (by kernel_rfl) (by kernel_rfl) (fun _ _ _ h => h) (by rfl) hHeld (v := ?v9) ?hy9 ?rest9
    case hy9 => (intro w' hSw; obtain ⟨s0, s1, s2, s3, s4, s5, s6, s7⟩ := id hSw; go_simp <;> try rfl)
    try simp only [Act.put, List.setIfInBounds_toArray, List.set_cons_zero, List.set_cons_succ]
    refine reg_take (i := 9) rfl (by kernel_rfl) (by kernel_rfl) (by kernel_rfl) (fun _ _ _ h => h) (by rfl) hHeld (v := ?v10) ?hy10 ?rest10
    case hy10 => (intro w' hSw; obtain ⟨s0, s1, s2, s3, s4, s5, s6, s7⟩ := id hSw; go_simp <;> try rfl)
    try simp only [Act.put, List.setIfInBounds_toArray, List.set_cons_zero, List.set_cons_succ]
    refine reg_take (i := 10) rfl (by kernel_rfl) (by kernel_rfl) (by kernel_rfl) (fun _ _ _ h => h) (by rfl) hHeld (v := ?v11) ?hy11 ?rest11
    case hy11 => (intro w' hSw; obtain ⟨s0, s1, s2, s3, s4, s5, s6, s7⟩ := id hSw; go_simp <;> try rfl)
    try simp only [Act.put, List.setIfInBounds_toArray, List.set_cons_zero, List.set_cons_succ]
    refine wpAnyH_ready (rs := [11]) (by kernel_rfl) (by simp) ?_
    refine reg_cons rfl (by rfl) (fun K hK => ?_) ?_
    · go_simp
      refine (HS.out _ hBD).mono ?_
      rintro e W1 ⟨rfl, hb1⟩
      have hBW := hBD.trans (hb1.mono hBD.size)
      refine hK.out _ _ (ShS.keep hHeld hb1) (fun hHeld => ?_)
      clear hK K
      try simp only [Act.put, List.setIfInBounds_toArray, List.set_cons_zero, List.set_cons_succ]
      refine wpAnyH_ready (rs := [12]) (by kernel_rfl) (by simp) ?_
      refine reg_cons rfl (by rfl) (fun K hK => ?_) ?_
      · go_simp
        refine (HT.out _ hBW).mono ?_
        rintro e Z hZ
        obtain ⟨⟨rr, rfl⟩, OZ, GZ0⟩ := hZ
        have GZ : W1.grownBy Z (some gc) := GZ0
        refine hK.out _ _ (ShS.grown hHeld GZ hgne) (fun hHeld => ?_)
        clear hK K
        try simp only [Act.put, List.setIfInBounds_toArray, List.set_cons_zero, List.set_cons_succ]
        refine wpAnyH_done (by kernel_rfl) ?_ _
        exact hend.out _ _ hBW ⟨⟨_, rfl⟩, OZ, GZ0⟩
      exact AllReadyH.nil
    exact AllReadyH.nil
  · intro D ys W hD hS HI0 hK
    have HI : ShI w w.heap.size g7 gc n v u n c a bs x y w8.heap.size (rectL v u x y v u) W := by rw [← hS]; exact HI0
    clear HI0
    have d0 : W.cell? ⟨g7, 0, none⟩ = some (.int .i64 (v : Int)) := HI.im.cell 0
    have d1 : W.cell? ⟨g7, 1, none⟩ = some (.int .i64 (u : Int)) := HI.im.cell 1
    have d2 : W.cell? ⟨g7, 2, none⟩ = some (.slice (some ⟨gc, 0, none⟩) n n) := HI.im.cell 2
    obtain ⟨Z, m9, AZ, GZ, hZz, q0, q1, q2, q3, q4, q5, r0, r1, r2⟩ := put_img HI.z (.int .i64 (v : Int)) (.int .i64 (u : Int)) (.slice (some ⟨gc, 0, none⟩) n n)
    have hD2 : D < W.heap.size := (Array.getElem?_eq_some_iff.1 hK).1
    have hneD : w.heap.size + 3 ≠ D := by omega
    have hKZ : Z.heap[D]? = some (.deferred (some [])) := (GZ.block D hD2 (fun e => by injection e; omega)).trans hK
    have A' : Arr (Z.putObj D (.deferred none)) (w.heap.size + 3) 24 [.int .i64 (v : Int), .int .i64 (u : Int), .slice (some ⟨gc, 0, none⟩) n n] := AZ.put _ hneD
    have hgcD : gc ≠ D := by omega
    have hgc2 : gc ≠ w.heap.size + 3 := by omega
    have O' : Own 5 .u8 w.heap.size (Z.putObj D (.deferred none)) (some ⟨gc, 0, none⟩) n n (packP (shB (bitL bs) (y * v + x) (rectL v u x y v u)) n) :=
      ⟨(HI.own.1.kept GZ (Or.inr (fun e => hgc2 (by injection e)))).kept (grownBy_putObj' Z D _) (Or.inr (fun e => hgcD (by injection e))), HI.own.2⟩
    have B' : Below w.heap.size w (Z.putObj D (.deferred none)) := below_grown (below_grown HI.b GZ HI.b.size (by omega)) (grownBy_putObj' Z D _) (by have := HI.b.size; omega) (by omega)
    have z0 : (Z.putObj D (.deferred none)).cell? ⟨w.heap.size + 3, 0, none⟩ = some (.int .i64 (v : Int)) := A'.cell 0
    have z1 : (Z.putObj D (.deferred none)).cell? ⟨w.heap.size + 3, 1, none⟩ = some (.int .i64 (u : Int)) := A'.cell 1
    have z2 : (Z.putObj D (.deferred none)).cell? ⟨w.heap.size + 3, 2, none⟩ = some (.slice (some ⟨gc, 0, none⟩) n n) := A'.cell 2
    have hend := Lib.hid (And.intro O' B')
    clear HI FI PB CX CY BX BX8 B8 HA HB hO hn8 hn hn1 b1' b2' b3' b4' z7 z8 hF O7 A7 B37 hgc h4 hV3 hHL A' O' B' AZ GZ hK hS hlen
    go_wp2_with fail
    refine ⟨by simp, .inl ⟨_, _, rfl, run_takeDeferred hKZ, ?_⟩⟩
    refine ⟨.agg #[.int .i64 (v : Int), .int .i64 (u : Int), .slice (some ⟨gc, 0, none⟩) n n], ?_, gc, rfl, hend.out.1, hend.out.2⟩
    simp [results, Try.results26, go_sem, z0, z1, z2]
  · rintro D cc pre W _ _ h _
    exact h.elim
end Go.Proofs.Ytpjaljjclkfkmaa
