/-
  The program's small functions: isSide, byteCount, mask, isFilled, set.
-/
import Derived.Test.YtcgfoagfoncjiaaImgEnc
import Derived.Deep.RegionHeld3
import Derived.Deep.RegionLaw
namespace Go.Proofs.Ytcgfoagfoncjiaa
open Go.RowKit Im

set_option maxHeartbeats 800000 in
set_option maxRecDepth 100000 in
theorem isSide_c (x : Int) (w : World) : Calls Try.prog 25 #[.int .i64 x] w fun e w' => e = .returned (.bool (decide (1 ≤ x) && decide (x ≤ 512))) ∧ w = w' := by
  by_cases h1 : 1 ≤ x
  · have b1 : decide (x ≥ 1) = true := decide_eq_true h1
    rw [decide_eq_true h1]
    go_enter Try.func25, Try.ntmps25
    go_wp2_with fail
    go_ret
    exact ⟨by rfl, rfl⟩
  · have b1 : decide (x ≥ 1) = false := decide_eq_false h1
    rw [decide_eq_false h1]
    go_enter Try.func25, Try.ntmps25
    go_wp2_with fail
    go_ret
    exact ⟨by rfl, rfl⟩
set_option maxHeartbeats 800000 in
set_option maxRecDepth 100000 in
theorem byteCount_c (P : Nat) (w : World) (hP : P ≤ 1000000) : Calls Try.prog 26 #[.int .i64 (P : Int)] w fun e w' => e = .returned (.int .i64 ((P + 7) / 8 : Nat)) ∧ w = w' := by
  obtain ⟨m, hm⟩ : ∃ m, Hid ((P + 7) / 8 = m) := ⟨_, rfl⟩
  rw [hm.out]
  obtain ⟨q, hq⟩ : ∃ q, P + 7 = q := ⟨_, rfl⟩
  have s1 : (P : Int) + 8 - 1 = (q : Int) := by omega
  have d1 : (q : Int).tdiv 8 = (m : Int) := by rw [Int.tdiv_eq_ediv_of_nonneg (by omega)]; have := hm.out; omega
  have w1 : wrap64 (m : Int) = (m : Int) := by unfold wrap64; have := hm.out; omega
  have hq2 := Lib.hid hq
  clear hq
  go_enter Try.func26, Try.ntmps26
  go_wp2_with fail
  go_ret
  exact ⟨by rw [w1]; rfl, rfl⟩
theorem mask_form : ∀ r : Nat, r < 8 → ((2 : Int) ^ (7 - r) % 256) = ((128 >>> r : Nat) : Int) := by decide
set_option maxHeartbeats 800000 in
set_option maxRecDepth 100000 in
theorem mask_c (k : Nat) (w : World) (hk : k ≤ 100000000) : Calls Try.prog 29 #[.int .i64 (k : Int)] w fun e w' => e = .returned (.int .u8 (128 >>> (k % 8) : Nat)) ∧ w = w' := by
  obtain ⟨r, hr⟩ : ∃ r, k % 8 = r := ⟨_, rfl⟩
  have d2 : (k : Int).tmod 8 = (r : Int) := by rw [Int.tmod_eq_emod_of_nonneg (by omega)]; omega
  have hr8 : r < 8 := by omega
  have hr2 := Lib.hid hr
  rw [hr]
  clear hr
  go_enter Try.func29, Try.ntmps29
  go_wp2_with fail
  go_ret
  refine ⟨?_, rfl⟩
  rw [← mask_form r hr8]
  rfl
set_option maxRecDepth 100000 in
theorem and_forms : ∀ x : Nat, x < 256 → ∀ r : Nat, r < 8 → (bits BinOp.and IntKind.u8 (x : Int) ((128 >>> r : Nat) : Int) != 0) = decide (x >>> (7 - r) % 2 = 1) := by decide +kernel
theorem below_drew {B : Nat} {w w' : World} (h : Below B w w') : Below B w w'.drew := ⟨h.os, h.tape, h.output, h.size, h.block⟩
theorem Lst.bytes {w : World} {ao : Option Addr} {n c : Nat} {bs : List Int} (h : Lst .u8 w ao n c bs) : ∀ x ∈ bs, 0 ≤ x ∧ x ≤ 255 := by
  intro x hx
  have hw := h.wf _ hx
  simpa [Lit.wf, IntKind.min, IntKind.max, IntKind.signed, IntKind.bits] using hw
set_option maxHeartbeats 1600000 in
set_option maxRecDepth 100000 in
theorem isFilled_c (x y : Int) (ao : Option Addr) (n c k : Nat) (bs : List Int) (w : World) (h : Lst .u8 w ao n c bs) (hk : k < 8 * n) (hn : n ≤ 1000000) :
    Calls Try.prog 19 #[.agg #[.int .i64 x, .int .i64 y, .slice ao n c], .int .i64 (k : Int)] w fun e w' => e = .returned (.bool (bitL bs k)) ∧ Below w.heap.size w w' := by
  obtain ⟨V, e1, AV, BV, hz⟩ := new_img w x y ao n c
  have y2 : V.cell? ⟨w.heap.size, 2, none⟩ = some (.slice ao n c) := AV.cell 2
  obtain ⟨q, hq⟩ : ∃ q, k / 8 = q := ⟨_, rfl⟩
  obtain ⟨r, hr⟩ : ∃ r, k % 8 = r := ⟨_, rfl⟩
  have d1 : (k : Int).tdiv 8 = (q : Int) := by rw [Int.tdiv_eq_ediv_of_nonneg (by omega)]; omega
  have w1 : wrap64 (q : Int) = (q : Int) := by unfold wrap64; omega
  have i1 := ix8 (h.below BV) q (q : Int) rfl (by omega)
  obtain ⟨z, hz1, hz2, c1⟩ := (h.below BV).at8 q (by omega)
  have HM := Lib.hid (fun w => mask_c k w (by omega))
  have hq2 := Lib.hid hq
  have hr2 : Hid (r < 8 ∧ k % 8 = r) := ⟨by omega, hr⟩
  rw [hr] at HM
  have HB := Lib.hid BV
  have hb : Hid ((bits BinOp.and IntKind.u8 (z : Int) ((128 >>> r : Nat) : Int) != 0) = bitL bs k) := by
    show _ = _
    rw [and_forms z (by omega) r (by omega)]
    unfold bitL
    rw [hq, hr, hz1.out]
  clear hq hr h AV BV hz
  go_enter Try.func19, Try.ntmps19
  go_wp2_with fail
  go_quiet ((go_at_call 29; exact quiet_same (HM.out _)))
  go_wp2_with fail
  go_ret
  exact ⟨by rw [← hb.out]; rfl, below_drewN HB.out _⟩

namespace Im
set_option maxRecDepth 100000 in
theorem clr_forms : ∀ x : Nat, x < 256 → ∀ r : Nat, r < 8 → bits BinOp.andNot IntKind.u8 (x : Int) ((128 >>> r : Nat) : Int) = ((x &&& (255 - 128 >>> r) : Nat) : Int) := by decide +kernel
set_option maxRecDepth 100000 in
theorem set_forms : ∀ x : Nat, x < 256 → ∀ r : Nat, r < 8 → bits BinOp.or IntKind.u8 (x : Int) ((128 >>> r : Nat) : Int) = ((x ||| 128 >>> r : Nat) : Int) := by decide +kernel
theorem clr8 (b0 b1 b2 b3 b4 b5 b6 b7 : Bool) : byte8 b0 b1 b2 b3 b4 b5 b6 b7 &&& (255 - 128 >>> 0) = byte8 false b1 b2 b3 b4 b5 b6 b7 ∧ byte8 b0 b1 b2 b3 b4 b5 b6 b7 &&& (255 - 128 >>> 1) = byte8 b0 false b2 b3 b4 b5 b6 b7 ∧ byte8 b0 b1 b2 b3 b4 b5 b6 b7 &&& (255 - 128 >>> 2) = byte8 b0 b1 false b3 b4 b5 b6 b7 ∧
    byte8 b0 b1 b2 b3 b4 b5 b6 b7 &&& (255 - 128 >>> 3) = byte8 b0 b1 b2 false b4 b5 b6 b7 ∧ byte8 b0 b1 b2 b3 b4 b5 b6 b7 &&& (255 - 128 >>> 4) = byte8 b0 b1 b2 b3 false b5 b6 b7 ∧ byte8 b0 b1 b2 b3 b4 b5 b6 b7 &&& (255 - 128 >>> 5) = byte8 b0 b1 b2 b3 b4 false b6 b7 ∧
    byte8 b0 b1 b2 b3 b4 b5 b6 b7 &&& (255 - 128 >>> 6) = byte8 b0 b1 b2 b3 b4 b5 false b7 ∧ byte8 b0 b1 b2 b3 b4 b5 b6 b7 &&& (255 - 128 >>> 7) = byte8 b0 b1 b2 b3 b4 b5 b6 false := by
  revert b0 b1 b2 b3 b4 b5 b6 b7
  decide
/-- A bit is cleared: its byte without the bit. -/
theorem byteP_clr (f : Nat → Bool) (n : Nat) : byteP (upd f n false) (n / 8) = byteP f (n / 8) &&& (255 - 128 >>> (n % 8)) := by
  have hu : ∀ j, j < 8 → upd f n false (8 * (n / 8) + j) = if j = n % 8 then false else f (8 * (n / 8) + j) := by
    intro j hj
    unfold upd
    by_cases e : j = n % 8
    · rw [if_pos (by omega), if_pos e]
    · rw [if_neg (by omega), if_neg e]
  obtain ⟨g0, g1, g2, g3, g4, g5, g6, g7⟩ := clr8 (f (8 * (n / 8))) (f (8 * (n / 8) + 1)) (f (8 * (n / 8) + 2)) (f (8 * (n / 8) + 3)) (f (8 * (n / 8) + 4)) (f (8 * (n / 8) + 5)) (f (8 * (n / 8) + 6)) (f (8 * (n / 8) + 7))
  have u0 := hu 0 (by omega)
  rw [Nat.add_zero] at u0
  unfold byteP
  rw [u0, hu 1 (by omega), hu 2 (by omega), hu 3 (by omega), hu 4 (by omega), hu 5 (by omega), hu 6 (by omega), hu 7 (by omega)]
  rcases mod8 n with e | e | e | e | e | e | e | e <;> rw [e]
  · exact g0.symm
  · exact g1.symm
  · exact g2.symm
  · exact g3.symm
  · exact g4.symm
  · exact g5.symm
  · exact g6.symm
  · exact g7.symm
theorem packP_clr (f : Nat → Bool) (m n : Nat) (h : n / 8 < m) : packP (upd f n false) m = (packP f m).set (n / 8) ((byteP f (n / 8) &&& (255 - 128 >>> (n % 8)) : Nat) : Int) := by
  apply List.ext_getElem?
  intro k
  by_cases hk : k < m
  · have h1 : ∀ g : Nat → Bool, (packP g m)[k]? = some ((byteP g k : Nat) : Int) := by
      intro g
      unfold packP
      rw [List.getElem?_map, List.getElem?_range hk]
      rfl
    rw [h1, List.getElem?_set, packP_len]
    by_cases e : n / 8 = k
    · subst e
      rw [if_pos rfl, if_pos h, byteP_clr]
    · rw [if_neg e, h1, byteP_upd f n k false (fun e' => e e'.symm)]
  · rw [List.getElem?_eq_none (by rw [packP_len]; omega), List.getElem?_eq_none (by rw [List.length_set, packP_len]; omega)]
/-- What a byte becomes where its bit is set to v. -/
def setB (v : Bool) (z r : Nat) : Nat := if v then z ||| 128 >>> r else z &&& (255 - 128 >>> r)
theorem packP_set (f : Nat → Bool) (m n : Nat) (v : Bool) (h : n / 8 < m) : packP (upd f n v) m = (packP f m).set (n / 8) ((setB v (byteP f (n / 8)) (n % 8) : Nat) : Int) := by
  cases v
  · exact packP_clr f m n h
  · exact packP_upd f m n h
theorem byteP_lt (f : Nat → Bool) (k : Nat) : byteP f k < 256 := byte8_lt _ _ _ _ _ _ _ _
theorem setB_lt (v : Bool) (f : Nat → Bool) (n : Nat) : setB v (byteP f (n / 8)) (n % 8) < 256 := by
  cases v
  · show byteP f (n / 8) &&& (255 - 128 >>> (n % 8)) < 256
    rw [← byteP_clr]; exact byteP_lt _ _
  · show byteP f (n / 8) ||| 128 >>> (n % 8) < 256
    rw [← byteP_or]; exact byteP_lt _ _
end Im
/-- What set answers: bit k of the bytes that the slice holds is v. -/
def SetOut (B : Nat) (w : World) (ao : Option Addr) (n c : Nat) (f : Nat → Bool) (k : Nat) (v : Bool) (e : Ending) (w' : World) : Prop :=
  (∃ r, e = .returned r) ∧ Own 5 .u8 B w' ao n c (packP (upd f k v) n) ∧ w.grownBy w' (Value.slice ao n c).ownBlock
set_option maxHeartbeats 1600000 in
set_option maxRecDepth 100000 in
theorem set_c (x y : Int) (B : Nat) (ao : Option Addr) (n c : Nat) (f : Nat → Bool) (k : Nat) (v : Bool) (w : World) (O : Own 5 .u8 B w ao n c (packP f n)) (hk : k < 8 * n) (hn : n ≤ 1000000) :
    Calls Try.prog 18 #[.agg #[.int .i64 x, .int .i64 y, .slice ao n c], .int .i64 (k : Int), .bool v] w (SetOut B w ao n c f k v) := by
  obtain ⟨V, e1, AV, BV, hz⟩ := new_img w x y ao n c
  have y2 : V.cell? ⟨w.heap.size, 2, none⟩ = some (.slice ao n c) := AV.cell 2
  obtain ⟨q, hq⟩ : ∃ q, k / 8 = q := ⟨_, rfl⟩
  obtain ⟨r, hr⟩ : ∃ r, k % 8 = r := ⟨_, rfl⟩
  have d1 : (k : Int).tdiv 8 = (q : Int) := by rw [Int.tdiv_eq_ediv_of_nonneg (by omega)]; omega
  have w1 : wrap64 (q : Int) = (q : Int) := by unfold wrap64; omega
  have w2 : IntKind.i64.wrap (q : Int) = (q : Int) := by rw [IntKind.wrap_i64]; omega
  have OV : Own 5 .u8 B V ao n c (packP f n) := O.kept BV
  have i1 := ix8 OV.lst q (q : Int) rfl (by omega)
  obtain ⟨z, hz1⟩ : ∃ z, byteP f q = z := ⟨_, rfl⟩
  have hzl : z < 256 := by rw [← hz1]; exact byteP_lt f q
  have c1 : V.cell? (pt ao q) = some (.int .u8 (z : Int)) := by rw [OV.lst.cell q (by omega), packP_get f n q (by omega), hz1]
  have f1 := OV.frozen (i := q) (by omega)
  have HM := Lib.hid (fun w => mask_c k w (by omega))
  rw [hr] at HM
  obtain ⟨u, hu⟩ : ∃ u, setB v z r = u := ⟨_, rfl⟩
  have hul : u < 256 := by rw [← hu, ← hz1, ← hq, ← hr]; exact setB_lt v f k
  have hG : V.grownBy (V.setCell (pt ao q) (.int .u8 (u : Int))) (Value.slice ao n c).ownBlock := OV.setOnly (by omega) _
  have hO : Own 5 .u8 B (V.setCell (pt ao q) (.int .u8 (u : Int))) ao n c (packP (upd f k v) n) := by
    have h2 := OV.set (i := q) (by omega) (wf_u8 (x := (u : Int)) (by omega) (by omega))
    rw [packP_set f n k v (by omega), hq, hr, hz1, hu]
    exact h2
  have hGV : w.grownBy (V.setCell (pt ao q) (.int .u8 (u : Int))) (Value.slice ao n c).ownBlock := by
    refine grown_trans ⟨BV.os, BV.tape, BV.output, BV.size, fun i hi _ => BV.block i hi⟩ hG
  obtain ⟨U, hU⟩ : ∃ U, V.setCell (pt ao q) (.int .u8 (u : Int)) = U := ⟨_, rfl⟩
  rw [hU] at hO hGV
  have HO := Lib.hid hO
  have HG := Lib.hid hGV
  have hsf := set_forms z hzl r (by omega)
  have hcf := clr_forms z hzl r (by omega)
  obtain ⟨mk, hmk⟩ : ∃ m, Hid (128 >>> r = m) := ⟨_, rfl⟩
  rw [hmk.out] at hsf hcf HM
  clear hO hG hGV hq hr O OV AV BV hz hz1
  have y2' : V.drew.cell? ⟨w.heap.size, 2, none⟩ = some (.slice ao n c) := y2
  have c1' : V.drew.cell? (pt ao q) = some (.int .u8 (z : Int)) := c1
  have f1' : V.drew.frozen? (pt ao q) = false := f1
  have hend : Hid (∀ W, W = V.drew.setCell (pt ao q) (.int .u8 (u : Int)) → SetOut B w ao n c f k v (.returned (.tuple #[])) W) := by
    rintro W rfl
    have e : V.drew.setCell (pt ao q) (.int .u8 (u : Int)) = U.drew := by rw [← hU]; rfl
    rw [e]
    exact ⟨⟨_, rfl⟩, HO.out, grown_drew HG.out⟩
  clear hU y2 c1 f1
  cases v with
  | true =>
    have hu2 : z ||| mk = u := by rw [← hmk.out]; exact hu
    rw [hu2] at hsf
    clear hu hu2 hcf
    go_enter Try.func18, Try.ntmps18
    go_wp2_with fail
    go_region_law ((go_simp; go_at_call 29; refine (HM.out _).mono ?_; rintro e v1 ⟨rfl, rfl⟩))
    all_goals
      go_wp2_with fail
      refine bodyPost_ret (results_none rfl _ _ _) rfl ?_
      exact hend.out _ rfl
  | false =>
    have hu2 : z &&& (255 - mk) = u := by rw [← hmk.out]; exact hu
    rw [hu2] at hcf
    clear hu hu2 hsf
    go_enter Try.func18, Try.ntmps18
    go_wp2_with fail
    go_region_law ((go_simp; go_at_call 29; refine (HM.out _).mono ?_; rintro e v1 ⟨rfl, rfl⟩))
    all_goals
      go_wp2_with fail
      refine bodyPost_ret (results_none rfl _ _ _) rfl ?_
      exact hend.out _ rfl
end Go.Proofs.Ytcgfoagfoncjiaa
