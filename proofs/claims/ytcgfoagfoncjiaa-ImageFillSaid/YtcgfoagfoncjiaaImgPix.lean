/-
  The program's pixels: the iterator over the bit numbers of a rectangle.
-/
import Derived.RangeFuncNested
import Derived.RangeFuncBound
import Derived.RangeFuncCalls
import Derived.RangeFuncLeaves
import Derived.Shelf.Abstract
import Derived.Shelf.RegionOpen
import Derived.WalkKit
import Derived.OwnWalkIn
import Derived.TacticsInMore
import Derived.LoopNIn
import Derived.LoopIn
import Derived.Test.YtcgfoagfoncjiaaImgClip
namespace Go.Proofs.Ytcgfoagfoncjiaa
open Go.RowKit Go.Shelf Im

attribute [local go_sem] Oper.semAt_some

/-- What a round that goes on keeps: the blocks from lo to hi. -/
def KpR (lo hi : Nat) (W W' : World) : Prop := ∀ j, lo ≤ j → j < hi → W'.heap[j]? = W.heap[j]?
theorem KpR.t {lo hi : Nat} {A B C : World} (h : KpR lo hi A B) (k : KpR lo hi B C) : KpR lo hi A C := fun j h1 h2 => (k j h1 h2).trans (h j h1 h2)
theorem KpR.b {lo hi : Nat} {w : World} (hn : hi ≤ w.heap.size) (W : World) (l : Nat) (o o' : Obj) (hl : w.heap.size ≤ l) (_ : W.heap[l]? = some o) (_ : o.isCells = false) (_ : o.isWalk = false) : KpR lo hi W (W.putObj l o') :=
  fun j _ h2 => World.putObj_heap_other (by omega)
theorem KpR.of_grown {lo hi g : Nat} {W W' : World} (h : W.grownBy W' (some g)) (hg : g < lo ∨ hi ≤ g) (hh : hi ≤ W.heap.size) : KpR lo hi W W' :=
  fun j h1 h2 => h.block j (by omega) (fun e => by injection e; omega)
theorem KpR.of_below {lo hi B : Nat} {W W' : World} (h : Below B W W') (hg : hi ≤ B) : KpR lo hi W W' := fun j _ h2 => h.block j (by omega)
/-- The boxes that the iterator reads. -/
structure PixB (w : World) (bi : Nat) (v u : Nat) (s : Value) (Fx Tx Fy Ty : Int) : Prop where
  i : Arr w bi 24 [.int .i64 (v : Int), .int .i64 (u : Int), s]
  l : Arr w (bi + 1) 3 [.int .i64 Fx]
  r : Arr w (bi + 2) 3 [.int .i64 Tx]
  t : Arr w (bi + 3) 3 [.int .i64 Fy]
  b : Arr w (bi + 4) 3 [.int .i64 Ty]
theorem PixB.keep {w w' : World} {bi v u : Nat} {s : Value} {Fx Tx Fy Ty : Int} (h : PixB w bi v u s Fx Tx Fy Ty) (k : KpR bi (bi + 5) w w') : PixB w' bi v u s Fx Tx Fy Ty :=
  ⟨(k _ (by omega) (by omega)).trans h.i, (k _ (by omega) (by omega)).trans h.l, (k _ (by omega) (by omega)).trans h.r, (k _ (by omega) (by omega)).trans h.t, (k _ (by omega) (by omega)).trans h.b⟩
/-- A bit number of a list. -/
abbrev In (L : List Nat) := { n : Nat // n ∈ L }
def encN {L : List Nat} (x : In L) : Array Value := #[.int .i64 (x.1 : Int)]
theorem map_snoc {L : List Nat} (pre : List (In L)) (x : In L) : (pre ++ [x]).map (·.1) = pre.map (·.1) ++ [x.1] := by simp

set_option maxRecDepth 100000 in
set_option maxHeartbeats 3200000 in
theorem pix1_in (F : Fence) (n : Nat) (h6 : F.fn 28) (hro : F.round = none) (hn : 1 ≤ n) (l bi v u : Nat) (s : Value) (x y a b Fx Tx Fy Ty : Int) (hv : 0 < v) (hvu : v ≤ 512 ∧ u ≤ 512) (hx : ClipO x a v Fx Tx) (hy : ClipO y b u Fy Ty) (L : List Nat) (hL : L = rectL v u x y a b) (J Jx : List (In L) → World → Prop)
    (hY : ∀ pre x1 W, J pre W → pre.length < L.length → YieldAt F (n - 1) Try.prog l (encN x1) W fun e W' =>
      (e = .returned (.bool true) ∧ J (pre ++ [x1]) W' ∧ KpR bi (bi + 5) W W') ∨ (e = .returned (.bool false) ∧ Jx (pre ++ [x1]) W'))
    (W : World) (hB : PixB W bi v u s Fx Tx Fy Ty) (h0 : J [] W) :
    CallsIn F n Try.prog 28 #[.func (.yield l) #[] #[], .pointer (some ⟨bi + 3, 0, none⟩), .pointer (some ⟨bi + 4, 0, none⟩), .pointer (some ⟨bi + 1, 0, none⟩), .pointer (some ⟨bi + 2, 0, none⟩), .pointer (some ⟨bi, 0, none⟩)] W fun e W' => (∃ v, e = .returned v) ∧
      ((∃ ys, ys.map (·.1) = L ∧ J ys W') ∨ (∃ pre, True ∧ Jx pre W')) := by
  obtain ⟨f, hf⟩ : ∃ f : Nat, Fy = f := ⟨Fy.toNat, by have := hy.f0; omega⟩
  obtain ⟨fx, hfx⟩ : ∃ f : Nat, Fx = f := ⟨Fx.toNat, by have := hx.f0; omega⟩
  have HX := Lib.hid hx
  have HLL := Lib.hid hL
  have HY := Lib.hid hy
  have c3 : W.cell? ⟨bi + 3, 0, none⟩ = some (.int .i64 (f : Int)) := by rw [← hf]; exact hB.t.cell 0
  have hp0 : Hid ((List.range (f * v)).filter (rectP v u x y a b) = []) := pre_first hx hy hf hv
  have hfb : (f : Int) ≤ 9223372036854775807 := by have := hy.f1; omega
  have hfxb : (fx : Int) ≤ 9223372036854775807 := by have := hx.f1; omega
  have hty := hy.t1
  have htx := hx.t1
  have HB := Lib.hid hB
  have HF : Hid (Fy = f ∧ Fx = fx) := ⟨hf, hfx⟩
  have HYY := Lib.hid hY
  have HJ := Lib.hid h0
  clear hx hy hB hf hfx hY h0 hL
  refine callsIn_of_wp Try.func28 rfl h6 ?_ hro
  simp only [Try.ntmps28, List.size_toArray, List.length_cons, List.length_nil, Nat.reduceAdd, Nat.reduceSub, Array.replicate_succ, Array.replicate_zero, List.push_toArray, List.append_toArray, List.nil_append, List.cons_append]
  gi_wp2
  clear c3
  gi_loopw [7] (fun p wr => ∃ (j : Nat) (pre : List (In L)), p = .int .i64 (j : Int) ∧ f ≤ j ∧ (j : Int) ≤ 9223372036854775807 ∧ Hid (pre.map (·.1) = (List.range (j * v)).filter (rectP v u x y a b)) ∧ Hid (PixB wr bi v u s Fx Tx Fy Ty) ∧ Hid (J pre wr)) (fun p _ => (Ty - intOf p).toNat)
  case atStart => exact ⟨f, [], rfl, Nat.le_refl _, hfb, by rw [hp0.out]; rfl, HB, HJ⟩
  case round =>
    obtain ⟨v1, hv1⟩ : ∃ y, y = wr := ⟨_, rfl⟩
    subst hv1
    clear HB HJ hp0 hfb
    obtain ⟨j, pre, rfl, hj1, hj2, hpre, PB, HJ⟩ := hrel
    have d4 : v1.cell? ⟨bi + 4, 0, none⟩ = some (.int .i64 Ty) := PB.out.b.cell 0
    have d1 : v1.cell? ⟨bi + 1, 0, none⟩ = some (.int .i64 (fx : Int)) := by rw [← HF.out.2]; exact PB.out.l.cell 0
    by_cases hlt : (j : Int) < Ty
    · have hju : j < u := by omega
      have hrow : Hid (pre.map (·.1) = (List.range (j * v + min fx v)).filter (rectP v u x y a b)) := by show _ = _; rw [row_first HX.out HY.out HF.out.2 hv]; exact hpre.out
      have hjf : Hid (Fy ≤ j) := by show _ ≤ _; rw [HF.out.1]; omega
      gi_wp2
      clear d4 d1 hpre
      gi_loopw [8] (fun p wr => ∃ (k : Nat) (pre : List (In L)), p = .int .i64 (k : Int) ∧ fx ≤ k ∧ (k : Int) ≤ 9223372036854775807 ∧ Hid (pre.map (·.1) = (List.range (j * v + min k v)).filter (rectP v u x y a b)) ∧ Hid (PixB wr bi v u s Fx Tx Fy Ty) ∧ Hid (J pre wr)) (fun p _ => (Tx - intOf p).toNat)
      case atStart => exact ⟨fx, pre, rfl, Nat.le_refl _, hfxb, hrow, PB, HJ⟩
      case round =>
        clear PB HJ hrow pre
        obtain ⟨k, pre, rfl, hk1, hk2, hpre, PB, HJ⟩ := hrel
        have d2 : wr.cell? ⟨bi + 2, 0, none⟩ = some (.int .i64 Tx) := PB.out.r.cell 0
        by_cases hkt : (k : Int) < Tx
        · have d0 : wr.cell? ⟨bi, 0, none⟩ = some (.int .i64 (v : Int)) := PB.out.i.cell 0
          have hkv : k < v := by omega
          have hsp := spot_lt (v := v) (u := u) hkv hju
          have ha := area_le hvu.1 hvu.2
          have hnx := row_next HX.out HY.out (j := j) (k := k) (by rw [HF.out.2]; omega) hkt hjf.out hlt
          have hmem := hnx.2
          have hpx := hnx.1
          rw [← hpre.out] at hpx
          obtain ⟨Q, hQ⟩ : ∃ Q, Hid (j * v = Q) := ⟨_, rfl⟩
          have hjv : (j : Int) * (v : Int) = (Q : Int) := by rw [← hQ.out]; exact (Int.natCast_mul j v).symm
          have hmem2 : Q + k ∈ L := by rw [← hQ.out, HLL.out]; exact hmem
          have hpl : pre.length < L.length := by
            have h2 : ((List.range (j * v + min (k + 1) v)).filter (rectP v u x y a b)).length = pre.length + 1 := by rw [hpx]; simp
            have h3 : ((List.range (j * v + min (k + 1) v)).filter (rectP v u x y a b)).length ≤ (rectL v u x y a b).length := by
              unfold rectL
              refine filt_len_le _ ?_
              rw [Nat.min_eq_left (show k + 1 ≤ v by omega)]
              omega
            have h4 : L.length = (rectL v u x y a b).length := congrArg List.length HLL.out
            omega
          have hpx2 : Hid ((pre ++ [(⟨Q + k, hmem2⟩ : In L)]).map (·.1) = (List.range (j * v + min (k + 1) v)).filter (rectP v u x y a b)) := by
            show _ = _
            rw [hpx, map_snoc, hQ.out]
          have hQb : Q + k < 262144 := by rw [← hQ.out]; omega
          obtain ⟨fn, tmps, assign, body, hyy, hR⟩ := HYY.out pre ⟨Q + k, hmem2⟩ wr HJ.out hpl
          unfold encN at hyy
          dsimp only at hyy
          rw [Int.natCast_add] at hyy
          clear hnx hmem hpx hsp ha
          gi_wp2
          refine hR.mono ?_
          rintro e W3 (⟨rfl, hJ3, hk3⟩ | ⟨rfl, hJx3⟩)
          · have PB3 : Hid (PixB W3 bi v u s Fx Tx Fy Ty) := PB.out.keep hk3
            gi_wp2
            go_roundw
            case rel => exact ⟨k + 1, _, by go_num, by omega, by omega, hpx2, PB3, hJ3⟩
            case measure => simp [intOf]; omega
          · gi_wp2
            refine bodyPost_ret (results_none rfl _ _ _) rfl ?_
            exact ⟨⟨_, rfl⟩, .inr ⟨_, trivial, hJx3⟩⟩
        · have hend : Hid (pre.map (·.1) = (List.range ((j + 1) * v)).filter (rectP v u x y a b)) := by
            show _ = _
            rw [row_last HX.out HY.out (j := j) (k := k) (by omega) hv]
            exact hpre.out
          gi_wp2
          go_roundw
          case rel => exact ⟨j + 1, pre, by go_num, by omega, by omega, hend, PB, HJ⟩
          case measure => simp [intOf]; omega
    · have hend : Hid (pre.map (·.1) = L) := by
        have h1 := pre_last HX.out HY.out (j := j) (by omega) hv
        exact hpre.out.trans (h1.trans HLL.out.symm)
      gi_wp2
      go_end0
      exact ⟨⟨_, rfl⟩, .inl ⟨pre, hend.out, HJ.out⟩⟩
/-- The iterator that pixels hands back has the contract of one. -/
theorem pix_stops (F : Fence) (n : Nat) (h6 : F.fn 28) (hro : F.round = none) (hn : 1 ≤ n) (bi v u : Nat) (s : Value) (x y a b Fx Tx Fy Ty : Int) (hv : 0 < v) (hvu : v ≤ 512 ∧ u ≤ 512) (hx : ClipO x a v Fx Tx) (hy : ClipO y b u Fy Ty) (L : List Nat) (hL : L = rectL v u x y a b) (w : World) (hw : bi + 5 ≤ w.heap.size) (hB : PixB w bi v u s Fx Tx Fy Ty) :
    SeqStopsK F n Try.prog 28 #[.pointer (some ⟨bi + 3, 0, none⟩), .pointer (some ⟨bi + 4, 0, none⟩), .pointer (some ⟨bi + 1, 0, none⟩), .pointer (some ⟨bi + 2, 0, none⟩), .pointer (some ⟨bi, 0, none⟩)] (encN (L := L)) (KpR bi (bi + 5)) (fun ys => ys.map (·.1) = L) (fun _ => True) L.length w := fun l J Jx W hW _ _ hY h0 =>
  pix1_in F n h6 hro hn l bi v u s x y a b Fx Tx Fy Ty hv hvu hx hy L hL J Jx hY W (hB.keep (KpR.of_below hW hw)) h0
/-- Two new boxes of ints, filled behind the second. -/
theorem new2 (V : World) (k k' : Nat) (hk : V.heap.size = k) (hk' : k + 1 = k') (x y : Value) : ∃ U1 U2 U3 U4, V.alloc (.cells #[.int .i64 0] 3) = U1 ∧ U1.alloc (.cells #[.int .i64 0] 3) = U2 ∧ U2.setCell ⟨k, 0, none⟩ x = U3 ∧ U3.setCell ⟨k', 0, none⟩ y = U4 ∧
    U1.heap.size = k' ∧ U2.cell? ⟨k, 0, none⟩ = some (.int .i64 0) ∧ U2.frozen? ⟨k, 0, none⟩ = false ∧ U3.cell? ⟨k', 0, none⟩ = some (.int .i64 0) ∧ U3.frozen? ⟨k', 0, none⟩ = false ∧
    Arr U4 k 3 [x] ∧ Arr U4 k' 3 [y] ∧ Below V.heap.size V U4 ∧ U4.heap.size = k' + 1 := by
  obtain ⟨U1, e1⟩ : ∃ U, V.alloc (.cells #[.int .i64 0] 3) = U := ⟨_, rfl⟩
  obtain ⟨U2, e2⟩ : ∃ U, U1.alloc (.cells #[.int .i64 0] 3) = U := ⟨_, rfl⟩
  have A1 : Arr U1 V.heap.size 3 [.int .i64 0] := by rw [← e1]; exact Arr.new V _ _
  have z1 : U1.heap.size = V.heap.size + 1 := by rw [← e1]; simp
  have A2 : Arr U2 U1.heap.size 3 [.int .i64 0] := by rw [← e2]; exact Arr.new U1 _ _
  have z2 : U2.heap.size = U1.heap.size + 1 := by rw [← e2]; simp
  have A1' : Arr U2 V.heap.size 3 [.int .i64 0] := by rw [← e2]; exact A1.alloc _
  have hk1 : U1.heap.size = k' := by omega
  rw [hk] at A1'
  rw [hk1] at A2
  have B1 := A1'.set 0 x
  have B2 : Arr (U2.setCell ⟨k, 0, none⟩ x) k' 3 [.int .i64 0] := A2.far (by show k' ≠ k; omega) x
  have C2 := B2.set 0 y
  have C1 : Arr ((U2.setCell ⟨k, 0, none⟩ x).setCell ⟨k', 0, none⟩ y) k 3 [x] := B1.far (by show k ≠ k'; omega) y
  refine ⟨U1, U2, _, _, e1, e2, rfl, rfl, hk1, A1'.cell 0, A1'.frozen 0, B2.cell 0, B2.frozen 0, C1, C2, ?_, by simp [World.setCell]; omega⟩
  have b : Below V.heap.size V U2 := by rw [← e2, ← e1]; exact ((Below.refl _ V).alloc (Nat.le_refl _) _).alloc (by simp) _
  exact (b.setCell (p := ⟨k, 0, none⟩) (by show _ ≤ k; omega) x).setCell (p := ⟨k', 0, none⟩) (by show _ ≤ k'; omega) y
set_option maxRecDepth 100000 in
set_option maxHeartbeats 3200000 in
theorem pixels_c (v u : Nat) (s : Value) (x y a b : Int) (w : World) (hvu : v ≤ 512 ∧ u ≤ 512) (x1 : -9223372036854775808 ≤ x) (x2 : x ≤ 9223372036854775807) (y1 : -9223372036854775808 ≤ y) (y2 : y ≤ 9223372036854775807) (a1 : -9223372036854775808 ≤ a) (a2 : a ≤ 9223372036854775807) (b1 : -9223372036854775808 ≤ b) (b2 : b ≤ 9223372036854775807) :
    Calls Try.prog 17 #[.agg #[.int .i64 (v : Int), .int .i64 (u : Int), s], .int .i64 x, .int .i64 y, .int .i64 a, .int .i64 b] w fun e w' =>
      e = .returned (.func (.func 28) #[] #[.pointer (some ⟨w.heap.size + 3, 0, none⟩), .pointer (some ⟨w.heap.size + 4, 0, none⟩), .pointer (some ⟨w.heap.size + 1, 0, none⟩), .pointer (some ⟨w.heap.size + 2, 0, none⟩), .pointer (some ⟨w.heap.size, 0, none⟩)]) ∧
      (∃ Fx Tx Fy Ty, ClipO x a v Fx Tx ∧ ClipO y b u Fy Ty ∧ PixB w' w.heap.size v u s Fx Tx Fy Ty) ∧ Below w.heap.size w w' ∧ w'.heap.size = w.heap.size + 5 := by
  obtain ⟨V, hV⟩ : ∃ V, w.alloc (.cells #[.int .i64 (v : Int), .int .i64 (u : Int), s] 24) = V := ⟨_, rfl⟩
  have AV : Arr V w.heap.size 24 [.int .i64 (v : Int), .int .i64 (u : Int), s] := by rw [← hV]; exact Arr.new w _ _
  have BV : Below w.heap.size w V := by rw [← hV]; exact (Below.refl _ _).alloc (Nat.le_refl _) _
  have hVz : V.heap.size = w.heap.size + 1 := by rw [← hV]; simp
  have q0 : V.cell? ⟨w.heap.size, 0, none⟩ = some (.int .i64 (v : Int)) := AV.cell 0
  have C1 := Lib.hid (clip_c x a v V hvu.1 x1 x2 a1 a2)
  have C2 := Lib.hid (fun W => clip_c y b u W hvu.2 y1 y2 b1 b2)
  have HA := Lib.hid AV
  have HB := Lib.hid BV
  clear AV BV
  go_enter Try.func17, Try.ntmps17
  go_wp2_with (first
    | (go_at_call 27; (with_reducible refine C1.out.mono ?_); rintro e w1 ⟨⟨Fx, Tx, rfl, CX⟩, rfl⟩; obtain ⟨U1, U2, U3, U4, e1, e2, e3, e4, z1, m1, m2, m3, m4, D1, D2, BU, z4⟩ := new2 V (w.heap.size + 1) (w.heap.size + 2) hVz rfl (.int .i64 Fx) (.int .i64 Tx); have q1 : U4.cell? ⟨w.heap.size, 1, none⟩ = some (.int .i64 (u : Int)) := (HA.out.kept BU).cell 1; have hD := Lib.hid (And.intro D1 (And.intro D2 BU)); have hCX := Lib.hid CX; clear D1 D2 BU CX)
    | (go_at_call 27; (with_reducible refine (C2.out _).mono ?_); rintro e w1 ⟨⟨Fy, Ty, rfl, CY⟩, rfl⟩; obtain ⟨X1, X2, X3, X4, g1, g2, g3, g4, y1, n1, n2, n3, n4, G1, G2, BX, y4⟩ := new2 U4 (w.heap.size + 3) (w.heap.size + 4) z4 rfl (.int .i64 Fy) (.int .i64 Ty)))
  go_ret
  obtain ⟨D1, D2, BU⟩ := hD.out
  have HA4 := (HA.out.kept BU).kept BX
  refine ⟨rfl, ⟨Fx, Tx, Fy, Ty, hCX.out, CY, ⟨HA4, D1.kept BX, D2.kept BX, G1, G2⟩⟩, ?_, y4⟩
  exact (HB.out.trans (BU.mono HB.out.size)).trans (BX.mono (by omega))
end Go.Proofs.Ytcgfoagfoncjiaa
