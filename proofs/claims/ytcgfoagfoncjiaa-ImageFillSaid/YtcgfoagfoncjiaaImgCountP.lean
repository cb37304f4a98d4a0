/-
  The program's Count.
-/
import Derived.Test.YtcgfoagfoncjiaaImgFillP
namespace Go.Proofs.Ytcgfoagfoncjiaa
open Go.RowKit Go.Shelf Im
attribute [local go_sem] Oper.semAt_some

/-- How many of these bits are set. -/
def cntB (f : Nat → Bool) (ns : List Nat) : Nat := (ns.filter f).length
theorem cntB_snoc (f : Nat → Bool) (ns : List Nat) (n : Nat) : cntB f (ns ++ [n]) = if f n then cntB f ns + 1 else cntB f ns := by
  unfold cntB
  rw [List.filter_append, List.length_append, List.filter_cons]
  cases f n <;> simp
theorem cntB_le (f : Nat → Bool) (ns : List Nat) : cntB f ns ≤ ns.length := List.length_filter_le _ _
theorem rectL_len (v u : Nat) (x y p q : Int) : (rectL v u x y p q).length ≤ v * u := by
  have := List.length_filter_le (rectP v u x y p q) (List.range (v * u))
  rw [List.length_range] at this
  exact this
theorem new_int (w : World) : ∃ U V, w.alloc (.cells #[.int .i64 0] 3) = U ∧ U.setCell ⟨w.heap.size, 0, none⟩ (.int .i64 0) = V ∧ U.cell? ⟨w.heap.size, 0, none⟩ = some (.int .i64 0) ∧ U.frozen? ⟨w.heap.size, 0, none⟩ = false ∧ Arr V w.heap.size 3 [.int .i64 0] ∧ Below w.heap.size w V ∧ V.heap.size = w.heap.size + 1 := by
  have A : Arr (w.alloc (.cells #[.int .i64 0] 3)) w.heap.size 3 [.int .i64 0] := Arr.new w _ _
  exact ⟨_, _, rfl, rfl, A.cell 0, A.frozen 0, A.set 0 _, ((Below.refl _ _).alloc (Nat.le_refl _) _).setCell (p := ⟨w.heap.size, 0, none⟩) (Nat.le_refl _) _, by simp [World.setCell]⟩
/-- What Count has in memory between two rounds. -/
structure CntI (w0 : World) (b0 g11 : Nat) (v u n c : Nat) (a : Addr) (bs : List Int) (S : Nat) (ns : List Nat) (W : World) : Prop where
  sz : S ≤ W.heap.size
  im : Arr W b0 24 [.int .i64 (v : Int), .int .i64 (u : Int), .slice (some a) n c]
  ct : Arr W g11 3 [.int .i64 (cntB (bitL bs) ns : Int)]
  b : Below w0.heap.size w0 W
theorem CntI.own_ {L : List Nat} {w0 : World} {b0 g11 v u n c : Nat} {a : Addr} {bs : List Int} {S : Nat} (h1 : b0 < S) (h2 : g11 < S) (h4 : w0.heap.size ≤ S) : OwnFrom S (fun (pre : List (In L)) W => CntI w0 b0 g11 v u n c a bs S (pre.map (·.1)) W) := by
  intro s A B row h hg hr0
  have hr : ∀ r, row = some r → S ≤ r := fun r e => (hr0 r e).1
  have ne : ∀ g, g < S → some g ≠ row := fun g hg e => by have := hr g e.symm; omega
  have hsz := h.sz
  exact ⟨by have := hg.size; omega, (hg.block _ (by omega) (ne _ h1)).trans h.im, (hg.block _ (by omega) (ne _ h2)).trans h.ct, h.b.grown hg (by have := h.b.size; omega) (fun k e => by have := hr k e; omega)⟩
theorem grown_of_below {W W' : World} (h : Below W.heap.size W W') (row : Option Nat) : W.grownBy W' row := ⟨h.os, h.tape, h.output, h.size, fun i hi _ => h.block i hi⟩
theorem Arr.put1 {w : World} {g : Nat} {t : TypeId} {x : Value} (h : Arr w g t [x]) (y : Value) : Arr (w.setCell ⟨g, 0, none⟩ y) g t [y] := h.set 0 y
set_option maxHeartbeats 3200000 in
set_option maxRecDepth 100000 in
theorem count_c (v u : Nat) (a : Addr) (n c : Nat) (bs : List Int) (x y p q : Int) (w : World) (h : Lst .u8 w (some a) n c bs) (hO : OkI v u bs) (x1 : -9223372036854775808 ≤ x) (x2 : x ≤ 9223372036854775807) (y1 : -9223372036854775808 ≤ y) (y2 : y ≤ 9223372036854775807) (a1 : -9223372036854775808 ≤ p) (a2 : p ≤ 9223372036854775807) (b1 : -9223372036854775808 ≤ q) (b2 : q ≤ 9223372036854775807) :
    Calls Try.prog 7 #[.agg #[.int .i64 (v : Int), .int .i64 (u : Int), .slice (some a) n c], .int .i64 x, .int .i64 y, .int .i64 p, .int .i64 q] w fun e w' => e = .returned (.int .i64 (cntB (bitL bs) (rectL v u x y p q) : Int)) ∧ Below w.heap.size w w' := by
  obtain ⟨V1, e1, A1, B1, z1⟩ := new_img w v u (some a) n c
  have HV := Lib.hid (valid_c v u (some a) n c bs V1 (h.below B1))
  rw [okB_mk hO] at HV
  have y0 : V1.cell? ⟨w.heap.size, 0, none⟩ = some (.int .i64 (v : Int)) := A1.cell 0
  have y1 : V1.cell? ⟨w.heap.size, 1, none⟩ = some (.int .i64 (u : Int)) := A1.cell 1
  have y2 : V1.cell? ⟨w.heap.size, 2, none⟩ = some (.slice (some a) n c) := A1.cell 2
  have HLL := Lib.hid (h.below B1)
  have HA := Lib.hid A1
  have HB := Lib.hid B1
  have HPX := Lib.hid (fun W => pixels_c v u (.slice (some a) n c) x y p q W ⟨hO.w2, hO.h2⟩ x1 x2 (by assumption) (by assumption) a1 a2 b1 b2)
  have hHL : Hid (∀ W, Below w.heap.size w W → Lst .u8 W (some a) n c bs) := fun W hb => h.below hb
  clear A1 B1 h z1
  refine (callsIn_wide (n := 3)).1 ?_
  refine callsIn_of_wp_marks Try.func7 rfl trivial ?_ rfl
  refine wpIn_wide.2 ?_
  simp only [Try.ntmps7, List.size_toArray, List.length_cons, List.length_nil, Nat.reduceAdd, Nat.reduceSub, Array.replicate_succ, Array.replicate_zero, List.push_toArray, List.append_toArray, List.nil_append, List.cons_append]
  go_wp2_with (first
    | (go_at_call 14; refine HV.out.mono ?_; rintro e w4 ⟨rfl, B4⟩; obtain ⟨w4', w5, m5, m5', x5, x5', A5, B5, z5⟩ := new_int w4; obtain ⟨g11, hg11⟩ : ∃ g, w4.heap.size = g := ⟨_, rfl⟩; rw [hg11] at m5' x5 x5'; have k0 := cell_keep y0 (B4.trans (B5.mono B4.size)); have k1 := cell_keep y1 (B4.trans (B5.mono B4.size)); have k2 := cell_keep y2 (B4.trans (B5.mono B4.size)); have hF := Lib.hid (And.intro B4 (And.intro A5 (And.intro B5 z5))); rw [hg11] at hF; have HP := Lib.hid (HPX.out w5); clear B4 A5 B5 z5)
    | (go_at_call 17; refine HP.out.mono ?_; rintro e w6 ⟨rfl, ⟨Fx, Tx, Fy, Ty, CX, CY, PB⟩, B6, z6⟩; clear HP))
  obtain ⟨B4, A5, B5, z5⟩ := hF.out
  have hV1w : w.heap.size < V1.heap.size := HA.out.lt
  have h4 : V1.heap.size ≤ g11 := by rw [← hg11]; exact B4.size
  have BX : Below w.heap.size w w5 := (HB.out.trans (B4.mono HB.out.size)).trans (B5.mono (by omega))
  have BX6 : Below w.heap.size w w6 := BX.trans (B6.mono BX.size)
  have hn8 : v * u ≤ 8 * n := by have := hO.len; have := HLL.out.len; omega
  have hn : n ≤ 1000000 := by have := hO.len; have := area_le hO.w2 hO.h2; have := HLL.out.len; omega
  have hB5 : Below V1.heap.size V1 w5 := B4.trans (B5.mono (by omega))
  have FI : CntI w w.heap.size g11 v u n c a bs w6.heap.size [] w6 :=
    ⟨Nat.le_refl _, (HA.out.kept hB5).kept B6, A5.kept B6, BX6⟩
  have b1' : w.heap.size < w6.heap.size := by omega
  have b2' : g11 < w6.heap.size := by omega
  have b4' : w.heap.size ≤ w6.heap.size := by omega
  refine wpIn_wide (n := 3) |>.1 ?_
  refine wpIn_rangeFunc_ownG (F := Fence.wide) (n := 3) rfl (by omega) (gf := 28) (lb := #[.pointer (some ⟨w5.heap.size + 3, 0, none⟩), .pointer (some ⟨w5.heap.size + 4, 0, none⟩), .pointer (some ⟨w5.heap.size + 1, 0, none⟩), .pointer (some ⟨w5.heap.size + 2, 0, none⟩), .pointer (some ⟨w5.heap.size, 0, none⟩)]) rfl trivial (enters_of Try.func28 (by kernel_rfl) rfl)
    (pix_stops Fence.wide _ trivial rfl (by omega) w5.heap.size v u (.slice (some a) n c) x y p q Fx Tx Fy Ty hO.w1 ⟨hO.w2, hO.h2⟩ CX CY (rectL v u x y p q) rfl w6 (by omega) PB) KpR.t (KpR.b (by omega)) (Below.refl _ _) (fun _ => rfl)
    (fun pre W => CntI w w.heap.size g11 v u n c a bs w6.heap.size (pre.map (·.1)) W) (fun _ _ _ => False)
    (CntI.own_ b1' b2' b4') (fun _ _ _ _ _ hs _ _ => hs) FI
    (fun z => { tmps := #[.agg #[.int .i64 (v : Int), .int .i64 (u : Int), .slice (some a) n c], .int .i64 x, .int .i64 y, .int .i64 p, .int .i64 q, .pointer (some ⟨w.heap.size, 0, none⟩), undef, undef, undef, undef, .int .i64 0, .pointer (some ⟨g11, 0, none⟩), .int .i64 (z.1 : Int),
      .agg #[.int .i64 (v : Int), .int .i64 (u : Int), .slice (some a) n c], .bool true, .bool false, .agg #[.int .i64 (v : Int), .int .i64 (u : Int), .slice (some a) n c], .int .i64 x, .int .i64 y, .int .i64 p, .int .i64 q,
      .func (.func 28) #[] #[.pointer (some ⟨w5.heap.size + 3, 0, none⟩), .pointer (some ⟨w5.heap.size + 4, 0, none⟩), .pointer (some ⟨w5.heap.size + 1, 0, none⟩), .pointer (some ⟨w5.heap.size + 2, 0, none⟩), .pointer (some ⟨w5.heap.size, 0, none⟩)], .int .i64 (z.1 : Int), undef, undef, undef, undef, undef, undef], defers := [] }) ?_ ?_ ?_ ?_
  · intro l z W K hK
    unfold encN
    clear z5
    gi_wp2
    exact hK
  · intro l pre z W HI0 hlt
    obtain ⟨ns, hns⟩ : ∃ ns, pre.map (·.1) = ns := ⟨_, rfl⟩
    have HI : CntI w w.heap.size g11 v u n c a bs w6.heap.size ns W := by rw [← hns]; exact HI0
    have hcl : cntB (bitL bs) ns < 262144 := by
      have h1 := cntB_le (bitL bs) ns
      have h2 : ns.length = pre.length := by rw [← hns]; simp
      have h3 := rectL_len v u x y p q
      have h4 := area_le hO.w2 hO.h2
      omega
    clear HI0
    obtain ⟨zn, hzm⟩ := z
    have hzP : zn < v * u := by
      unfold rectL at hzm
      exact List.mem_range.1 (List.mem_filter.1 hzm).1
    have d0 : W.cell? ⟨w.heap.size, 0, none⟩ = some (.int .i64 (v : Int)) := HI.im.cell 0
    have d1 : W.cell? ⟨w.heap.size, 1, none⟩ = some (.int .i64 (u : Int)) := HI.im.cell 1
    have d2 : W.cell? ⟨w.heap.size, 2, none⟩ = some (.slice (some a) n c) := HI.im.cell 2
    have HS := Lib.hid (isFilled_c v u (some a) n c zn bs W (hHL.out W HI.b) (by omega) hn)
    obtain ⟨C, hC⟩ : ∃ C, cntB (bitL bs) ns = C := ⟨_, rfl⟩
    rw [hC] at hcl
    have hend : Hid (∀ W' Z : World, Below W.heap.size W W' → Z = (if bitL bs zn then W'.setCell ⟨g11, 0, none⟩ (.int .i64 ((C : Int) + 1)) else W') →
        KeepsFrom w6.heap.size W Z ∧ KpR w5.heap.size (w5.heap.size + 5) W Z ∧ CntI w w.heap.size g11 v u n c a bs w6.heap.size ((pre ++ [(⟨zn, hzm⟩ : In (rectL v u x y p q))]).map (·.1)) Z) := by
      intro W' Z hb hZ
      have hsz := HI.sz
      have hg := hb.size
      have G0 := grown_of_below hb (some g11)
      have GZ : W.grownBy Z (some g11) := by
        rw [hZ]
        split
        · exact grown_trans G0 (grown_set W' ⟨g11, 0, none⟩ _)
        · exact G0
      have hg11l : g11 < w5.heap.size := by omega
      refine ⟨KeepsFrom.of_grownBy GZ (fun j e => by injection e; omega), KpR.of_grown GZ (Or.inl hg11l) (by omega), ⟨by have := GZ.size; omega, HI.im.grownBy GZ (by omega), ?_, below_grown HI.b GZ HI.b.size (by omega)⟩⟩
      rw [map_snoc, cntB_snoc, hns, hC, hZ]
      have hct := HI.ct
      rw [hC] at hct
      cases hbit : bitL bs zn with
      | true => exact (hct.kept hb).set 0 _
      | false => exact hct.kept hb
    have HCT : Hid (Arr W g11 3 [.int .i64 (C : Int)]) := by have := HI.ct; rw [hC] at this; exact this
    cases hbit : bitL bs zn with
    | true =>
      rw [hbit] at HS
      have hend2 : Hid (∀ W' Z : World, Below W.heap.size W W' → Z = W'.setCell ⟨g11, 0, none⟩ (.int .i64 ((C : Int) + 1)) → KeepsFrom w6.heap.size W Z ∧ KpR w5.heap.size (w5.heap.size + 5) W Z ∧ CntI w w.heap.size g11 v u n c a bs w6.heap.size ((pre ++ [(⟨zn, hzm⟩ : In (rectL v u x y p q))]).map (·.1)) Z) := fun W' Z hb hZ => hend.out W' Z hb (by rw [if_pos hbit]; exact hZ)
      replace HS := Lib.hid HS
      clear HI FI PB CX CY BX BX6 B6 HA HLL HB hO hn8 hn b1' b2' b4' z6 z5 hF B4 A5 B5 hV1w h4 hB5 hend hHL hbit hC
      gi_wp2_with (refine ⟨trivial, ?_⟩; gi_at_call 19; refine (CallsIn.inRound l (callsIn_wide.2 HS.out.out)).mono ?_; rintro e W' ⟨rfl, hb⟩; have f0 : W'.cell? ⟨g11, 0, none⟩ = some (.int .i64 (C : Int)) := (HCT.out.kept hb).cell 0; have f1 : W'.frozen? ⟨g11, 0, none⟩ = false := (HCT.out.kept hb).frozen 0; have hHB := Lib.hid hb; clear hb)
      exact hend2.out _ _ hHB.out rfl
    | false =>
      rw [hbit] at HS
      have hend2 : Hid (∀ W' : World, Below W.heap.size W W' → KeepsFrom w6.heap.size W W' ∧ KpR w5.heap.size (w5.heap.size + 5) W W' ∧ CntI w w.heap.size g11 v u n c a bs w6.heap.size ((pre ++ [(⟨zn, hzm⟩ : In (rectL v u x y p q))]).map (·.1)) W') := fun W' hb => hend.out W' W' hb (by rw [hbit]; rfl)
      replace HS := Lib.hid HS
      clear HI FI PB CX CY BX BX6 B6 HA HLL HB hO hn8 hn b1' b2' b4' z6 z5 hF B4 A5 B5 hV1w h4 hB5 hend hHL hbit hC
      gi_wp2_with (refine ⟨trivial, ?_⟩; gi_at_call 19; refine (CallsIn.inRound l (callsIn_wide.2 HS.out.out)).mono ?_; rintro e W' ⟨rfl, hb⟩; have hHB := Lib.hid hb; clear hb)
      exact hend2.out _ hHB.out
  · intro D ys W hD hS HI0 hK
    have HI : CntI w w.heap.size g11 v u n c a bs w6.heap.size (rectL v u x y p q) W := by rw [← hS]; exact HI0
    clear HI0
    have d0 : W.cell? ⟨g11, 0, none⟩ = some (.int .i64 (cntB (bitL bs) (rectL v u x y p q) : Int)) := HI.ct.cell 0
    have B' : Below w.heap.size w (W.putObj D (.deferred none)) := below_grown HI.b (grownBy_putObj' W D _) HI.b.size (by omega)
    have hend := Lib.hid B'
    clear HI FI PB CX CY BX BX6 B6 HA HLL HB hO hn8 hn b1' b2' b4' z6 z5 hF B4 A5 B5 hV1w h4 hB5 hHL B' hS
    go_wp2_with fail
    refine ⟨by simp, .inl ⟨_, _, rfl, run_takeDeferred hK, ?_⟩⟩
    exact ⟨_, results_tmp rfl _ _ _, rfl, hend.out⟩
  · rintro D cc pre W _ _ h _
    exact h.elim
end Go.Proofs.Ytcgfoagfoncjiaa
