/-
  The walk of ImageFill.
-/
import Derived.Test.YtcgfoagfoncjiaaImgRFill
import Derived.Test.YtcgfoagfoncjiaaImgFillMath
import Derived.Test.YtcgfoagfoncjiaaImgView
namespace Go.Proofs.Ytcgfoagfoncjiaa
open Go.RowKit Im

def I64 (x : Int) : Prop := -9223372036854775808 ≤ x ∧ x ≤ 9223372036854775807
theorem two_args (w : World) (x y : Int) (ao : Option Addr) (n c : Nat) (a b d e : Int) : ∃ V1 V, w.alloc (.cells #[.int .i64 x, .int .i64 y, .slice ao n c] 24) = V1 ∧ V1.alloc (.cells #[.int .i64 a, .int .i64 b, .int .i64 d, .int .i64 e] 26) = V ∧
    Arr V w.heap.size 24 [.int .i64 x, .int .i64 y, .slice ao n c] ∧ Arr V V1.heap.size 26 [.int .i64 a, .int .i64 b, .int .i64 d, .int .i64 e] ∧ Below w.heap.size w V ∧ V1.heap.size = w.heap.size + 1 ∧ V.heap.size = w.heap.size + 2 := by
  obtain ⟨V1, e1, A1, B1, z1⟩ := new_img w x y ao n c
  refine ⟨V1, _, e1, rfl, A1.alloc _, ?_, B1.alloc (by omega) _, z1, by simp [z1]⟩
  exact Arr.new V1 26 [.int .i64 a, .int .i64 b, .int .i64 d, .int .i64 e]
/-- The cells that the last region reads. -/
structure FlS (b0 b1 g v u : Nat) (a : Addr) (n c : Nat) (x1 y1 p1 q1 : Int) (gt ct : Nat) (W : World) : Prop where
  s0 : W.cell? ⟨b0, 0, none⟩ = some (.int .i64 (v : Int))
  s1 : W.cell? ⟨b0, 1, none⟩ = some (.int .i64 (u : Int))
  s2 : W.cell? ⟨b0, 2, none⟩ = some (.slice (some a) n c)
  s3 : W.cell? ⟨b1, 0, none⟩ = some (.int .i64 x1)
  s4 : W.cell? ⟨b1, 1, none⟩ = some (.int .i64 y1)
  s5 : W.cell? ⟨b1, 2, none⟩ = some (.int .i64 p1)
  s6 : W.cell? ⟨b1, 3, none⟩ = some (.int .i64 q1)
  s7 : W.cell? ⟨g, 0, none⟩ = some (.int .i64 (v : Int))
  s8 : W.cell? ⟨g, 1, none⟩ = some (.int .i64 (u : Int))
  s9 : W.cell? ⟨g, 2, none⟩ = some (.slice (some ⟨gt, 0, none⟩) n ct)
theorem FlS.keep {b0 b1 g v u : Nat} {a : Addr} {n c : Nat} {x1 y1 p1 q1 : Int} {gt ct : Nat} {W W' : World} (h : FlS b0 b1 g v u a n c x1 y1 p1 q1 gt ct W) (hb : Below W.heap.size W W') : FlS b0 b1 g v u a n c x1 y1 p1 q1 gt ct W' :=
  ⟨cell_keep h.s0 hb, cell_keep h.s1 hb, cell_keep h.s2 hb, cell_keep h.s3 hb, cell_keep h.s4 hb, cell_keep h.s5 hb, cell_keep h.s6 hb, cell_keep h.s7 hb, cell_keep h.s8 hb, cell_keep h.s9 hb⟩
section
variable {P : Program} {md : Region.Mode} {l : List Oper} {Q : Exit → Act → World → Prop} {S : World → Prop}
/-- An operation whose guard does not hold is passed over. -/
theorem reg_skip {i : Nat} {oi : Oper} {fuel : Nat} {listed : Array Bool} {a : Act} {w : World} (hi : l[i]? = some oi)
    (hs : Region.noSelect l.toArray = true) (hf : Region.free md l.toArray listed i = true) (hr : (Region.ready md l.toArray listed).contains i = true)
    (hQ : ∀ c a w, Q (.panic c) (a.put oi.dst undef) w → Q (.panic c) a w) (hwant : Region.wanted oi (yielded l.toArray a.tmps) = false) (hS : S w)
    (h : wpAnyH P md l.toArray Q S fuel (listed.setIfInBounds i true) (a.put oi.dst undef) w) : wpAnyH P md l.toArray Q S (fuel + 1) listed a w :=
  wpAnyH_take (by simpa using hi) hs hf hr hQ (Or.inr ⟨hwant, rfl⟩) hS h
end
set_option maxHeartbeats 6400000 in
set_option maxRecDepth 100000 in
theorem fillLaw_true (v u : Nat) (a : Addr) (n c : Nat) (bs : List Int) (x1 y1 p1 q1 : Int) (w : World) (h : Lst .u8 w (some a) n c bs) (hO : OkI v u bs) (hv : v ≤ 24) (hu : u ≤ 24) (hb1 : I64 x1) (hb2 : I64 y1) (hb3 : I64 p1) (hb4 : I64 q1) :
    Calls Try.prog 3 #[.agg #[.int .i64 (v : Int), .int .i64 (u : Int), .slice (some a) n c], .agg #[.int .i64 x1, .int .i64 y1, .int .i64 p1, .int .i64 q1], .bool true] w fun e w' => e = .returned (.bool true) ∧ Below w.heap.size w w' := by
  obtain ⟨V1, V, e1, e2, A1, A2, BV, hz1, hz2⟩ := two_args w v u (some a) n c x1 y1 p1 q1
  have k0 : V.cell? ⟨w.heap.size, 0, none⟩ = some (.int .i64 (v : Int)) := A1.cell 0
  have k1 : V.cell? ⟨w.heap.size, 1, none⟩ = some (.int .i64 (u : Int)) := A1.cell 1
  have k2 : V.cell? ⟨w.heap.size, 2, none⟩ = some (.slice (some a) n c) := A1.cell 2
  have k3 : V.cell? ⟨V1.heap.size, 0, none⟩ = some (.int .i64 x1) := A2.cell 0
  have k4 : V.cell? ⟨V1.heap.size, 1, none⟩ = some (.int .i64 y1) := A2.cell 1
  have k5 : V.cell? ⟨V1.heap.size, 2, none⟩ = some (.int .i64 p1) := A2.cell 2
  have k6 : V.cell? ⟨V1.heap.size, 3, none⟩ = some (.int .i64 q1) := A2.cell 3
  have hK := Lib.hid (And.intro k0 (And.intro k1 (And.intro k2 (And.intro k3 (And.intro k4 (And.intro k5 k6))))))
  have hbn : bs.length = n := h.len
  have hnM : n = (v * u + 7) / 8 := hbn.symm.trans hO.len
  have hnb : n ≤ 1000000 := by have := hO.len; have := area_le hO.w2 hO.h2; omega
  have HS := Lib.hid (small_c v u (some a) n c bs V (h.below BV))
  rw [okB_mk hO, decide_eq_true (show (v : Int) ≤ 24 by omega), decide_eq_true (show (u : Int) ≤ 24 by omega), show (true && true && true) = true from rfl] at HS
  have HB : Hid (Below w.heap.size w V) := BV
  have HA : Hid (∀ W, Calls Try.prog 5 #[] W fun e w' => e = .returned (.bool true) ∧ Below W.heap.size W w') := awake_c
  have HLo : Hid (∀ W, Below V.heap.size V W → Lst .u8 W (some a) n c bs) := fun W hb => (h.below BV).below hb
  obtain ⟨T, hT⟩ : ∃ T, packP (fillB (bitL bs) (rectL v u x1 y1 p1 q1) true) n = T := ⟨_, rfl⟩
  obtain ⟨K, hKc⟩ : ∃ K, cntB (bitL bs) (rectL v u x1 y1 p1 q1) = K := ⟨_, rfl⟩
  have hOT : OkI v u T := by rw [← hT]; exact okFill x1 y1 p1 q1 true hO hbn
  have hRT : packP (bitsD (pxD v (flG v u bs x1 y1 p1 q1 true) (v * u))) n = T := by rw [← hT]; exact fill_same x1 y1 p1 q1 true hO
  have HF : Hid (∀ (W : World), Below V.heap.size V W → Calls Try.prog 6 #[.agg #[.int .i64 (v : Int), .int .i64 (u : Int), .slice (some a) n c], .int .i64 x1, .int .i64 y1, .int .i64 p1, .int .i64 q1, .bool true] W fun e w' => (∃ g cc, e = .returned (.agg #[.int .i64 (v : Int), .int .i64 (u : Int), .slice (some ⟨g, 0, none⟩) n cc]) ∧ Lst .u8 w' (some ⟨g, 0, none⟩) n cc T) ∧ Below W.heap.size W w') := fun W hb => (fill_c v u a n c bs x1 y1 p1 q1 true W (HLo.out W hb) hO hb1.1 hb1.2 hb2.1 hb2.2 hb3.1 hb3.2 hb4.1 hb4.2).mono fun e w' hh => by
    obtain ⟨g, cc, rfl, Og, Bg⟩ := hh
    rw [hT] at Og
    exact ⟨⟨g, cc, rfl, Og.lst⟩, Bg⟩
  have HRF : Hid (∀ (W : World), Below V.heap.size V W → Calls Try.prog 10 #[.agg #[.int .i64 (v : Int), .int .i64 (u : Int), .slice (some a) n c], .int .i64 x1, .int .i64 y1, .int .i64 p1, .int .i64 q1, .bool true] W fun e w' => (∃ g, e = .returned (.agg #[.int .i64 (v : Int), .int .i64 (u : Int), .slice (some ⟨g, 0, none⟩) n n]) ∧ Lst .u8 w' (some ⟨g, 0, none⟩) n n T) ∧ Below W.heap.size W w') := fun W hb => (refFill_c v u (some a) n c bs x1 y1 p1 q1 true W (HLo.out W hb) hO hb1.1 hb1.2 hb2.1 hb2.2 hb3.1 hb3.2 hb4.1 hb4.2).mono fun e w' hh => by
    obtain ⟨g, rfl, Og, Bg⟩ := hh
    rw [← hnM] at Og ⊢
    rw [hRT] at Og
    exact ⟨⟨g, rfl, Og.lst⟩, Bg⟩
  have HC : Hid (∀ (W : World), Below V.heap.size V W → Calls Try.prog 7 #[.agg #[.int .i64 (v : Int), .int .i64 (u : Int), .slice (some a) n c], .int .i64 x1, .int .i64 y1, .int .i64 p1, .int .i64 q1] W fun e w' => e = .returned (.int .i64 (K : Int)) ∧ Below W.heap.size W w') := fun W hb => by
    have := count_c v u a n c bs x1 y1 p1 q1 W (HLo.out W hb) hO hb1.1 hb1.2 hb2.1 hb2.2 hb3.1 hb3.2 hb4.1 hb4.2
    rw [hKc] at this
    exact this
  have HRC : Hid (∀ (W : World), Below V.heap.size V W → Calls Try.prog 11 #[.agg #[.int .i64 (v : Int), .int .i64 (u : Int), .slice (some a) n c], .int .i64 x1, .int .i64 y1, .int .i64 p1, .int .i64 q1] W fun e w' => e = .returned (.int .i64 (K : Int)) ∧ Below W.heap.size W w') := fun W hb => by
    have := refCount_c v u (some a) n c bs x1 y1 p1 q1 W (HLo.out W hb) hO hb1.1 hb1.2 hb2.1 hb2.2 hb3.1 hb3.2 hb4.1 hb4.2
    rw [hKc] at this
    exact this
  have HE : Hid (∀ (W : World) (ga ca gb : Nat), Lst .u8 W (some ⟨ga, 0, none⟩) n ca T → Lst .u8 W (some ⟨gb, 0, none⟩) n n T → Calls Try.prog 9 #[.agg #[.int .i64 (v : Int), .int .i64 (u : Int), .slice (some ⟨ga, 0, none⟩) n ca], .agg #[.int .i64 (v : Int), .int .i64 (u : Int), .slice (some ⟨gb, 0, none⟩) n n]] W fun e w' => e = .returned (.bool true) ∧ Below W.heap.size W w') := fun W ga ca gb h1 h2 => by
    have := eqI_c v u v u (some ⟨ga, 0, none⟩) (some ⟨gb, 0, none⟩) n ca n n T T W h1 h2
    rw [decide_eq_true (rfl : (v : Int) = v), decide_eq_true (rfl : (u : Int) = u), decide_eq_true (rfl : T = T)] at this
    exact this
  have HE4 : Hid (∀ (W : World) (ao : Option Addr) (ca : Nat), Below V.heap.size V W → Lst .u8 W ao n ca bs → Calls Try.prog 8 #[.slice ao n ca, .slice (some a) n c] W fun e w' => e = .returned (.bool true) ∧ Below W.heap.size W w') := fun W ao ca hb h1 => by
    have := eqB_c ao n ca bs (some a) n c bs W h1 (HLo.out W hb)
    rw [decide_eq_true (rfl : bs = bs)] at this
    exact this
  clear h BV A1 A2 hz1 hz2 hO hv hu hbn hnM hT hKc hOT hRT hb1 hb2 hb3 hb4
  go_enter Try.func3, Try.ntmps3
  go_wp2_with (first
    | (go_at_call 4; (with_reducible refine HS.out.mono ?_); rintro e w1 ⟨rfl, B1⟩; have z0 := cell_keep k0 B1; have z1 := cell_keep k1 B1; have z2 := cell_keep k2 B1; have z3 := cell_keep k3 B1; have z4 := cell_keep k4 B1; have z5 := cell_keep k5 B1; have z6 := cell_keep k6 B1; have hB1 := Lib.hid B1; clear B1)
    | (at_builtin; refine wpList_appL (own_nil _ _ V.heap.size w1) (HLo.out w1 hB1.out) (fun e => by cases e) hB1.out.size (by omega) (by omega) rfl rfl ?_; intro aw cw w2 O2 B2; rw [Nat.zero_add] at O2 ⊢; rw [List.nil_append] at O2; have hB2 : Hid (Below V.heap.size V w2) := hB1.out.trans B2; have yy0 := cell_keep k0 hB2.out; have yy1 := cell_keep k1 hB2.out; have yy2 := cell_keep k2 hB2.out; have yy3 := cell_keep k3 hB2.out; have yy4 := cell_keep k4 hB2.out; have yy5 := cell_keep k5 hB2.out; have yy6 := cell_keep k6 hB2.out; have hO2 := Lib.hid O2.lst; clear O2 B2)
    | (go_at_call 6; (with_reducible refine (HF.out w2 hB2.out).mono ?_); rintro e w3 ⟨⟨gt, ct, rfl, L3⟩, B3⟩; obtain ⟨w4, w5, m4, m5, q0, q1', q2, q3, q4, q5, A5, B5, z5'⟩ := new_fill2 w3 (.int .i64 (v : Int)) (.int .i64 (u : Int)) (.slice (some ⟨gt, 0, none⟩) n ct); obtain ⟨g, hg⟩ : ∃ g, w3.heap.size = g := ⟨_, rfl⟩; rw [hg] at m5 q0 q1' q2 q3 q4 q5 A5; have hA5 := Lib.hid A5; have LT5 := Lib.hid (L3.below B5); have B35 := Lib.hid (B3.trans (B5.mono B3.size)); have hB5 := Lib.hid (hB2.out.trans (B35.out.mono hB2.out.size)); have HCw := Lib.hid (HC.out w5 hB5.out); have d0 := cell_keep hK.out.1 hB5.out; have d1 := cell_keep hK.out.2.1 hB5.out; have d2 := cell_keep hK.out.2.2.1 hB5.out; have d3 := cell_keep hK.out.2.2.2.1 hB5.out; have d4 := cell_keep hK.out.2.2.2.2.1 hB5.out; have d5 := cell_keep hK.out.2.2.2.2.2.1 hB5.out; have d6 := cell_keep hK.out.2.2.2.2.2.2 hB5.out; clear L3 B3 B5 A5 z5')
    | (go_at_call 7; (with_reducible refine HCw.out.mono ?_); rintro e w5b ⟨rfl, B5b⟩; have hB5b := Lib.hid B5b; clear B5b))
  have C5 : Below V.heap.size V w5b.drew := (hB5.out.trans (hB5b.out.mono hB5.out.size)).drew
  have c5a : w5b.drew.cell? ⟨w.heap.size, 0, none⟩ = some (.int .i64 (v : Int)) := cell_keep hK.out.1 C5
  have c5b : w5b.drew.cell? ⟨w.heap.size, 1, none⟩ = some (.int .i64 (u : Int)) := cell_keep hK.out.2.1 C5
  have c5c : w5b.drew.cell? ⟨w.heap.size, 2, none⟩ = some (.slice (some a) n c) := cell_keep hK.out.2.2.1 C5
  have c5d : w5b.drew.cell? ⟨V1.heap.size, 0, none⟩ = some (.int .i64 x1) := cell_keep hK.out.2.2.2.1 C5
  have c5e : w5b.drew.cell? ⟨V1.heap.size, 1, none⟩ = some (.int .i64 y1) := cell_keep hK.out.2.2.2.2.1 C5
  have c5f : w5b.drew.cell? ⟨V1.heap.size, 2, none⟩ = some (.int .i64 p1) := cell_keep hK.out.2.2.2.2.2.1 C5
  have c5g : w5b.drew.cell? ⟨V1.heap.size, 3, none⟩ = some (.int .i64 q1) := cell_keep hK.out.2.2.2.2.2.2 C5
  have c5h : w5b.drew.cell? ⟨g, 0, none⟩ = some (.int .i64 (v : Int)) := (hA5.out.kept hB5b.out).cell 0
  have c5i : w5b.drew.cell? ⟨g, 1, none⟩ = some (.int .i64 (u : Int)) := (hA5.out.kept hB5b.out).cell 1
  have c5j : w5b.drew.cell? ⟨g, 2, none⟩ = some (.slice (some ⟨gt, 0, none⟩) n ct) := (hA5.out.kept hB5b.out).cell 2
  replace LT5 : Hid (Lst .u8 w5b.drew (some ⟨gt, 0, none⟩) n ct T) := (LT5.out.below hB5b.out).drewN 1
  have LW5 : Hid (Lst .u8 w5b.drew aw n cw bs) := ((hO2.out.below B35.out).below hB5b.out).drewN 1
  clear k0 k1 k2 k3 k4 k5 k6 yy0 yy1 yy2 yy3 yy4 yy5 yy6 z0 z1 z2 z3 z4 z5 z6 d0 d1 d2 d3 d4 d5 d6 q0 q1' q2 q3 q4 q5 m4 m5
  refine wp_region_held_drew (S := FlS w.heap.size V1.heap.size g v u a n c x1 y1 p1 q1 gt ct) (by kernel_rfl) (⟨c5a, c5b, c5c, c5d, c5e, c5f, c5g, c5h, c5i, c5j⟩) (fun hHeld => ?_)
  refine wpAnyH_ready (rs := [0]) (by kernel_rfl) (by simp) ?_
  refine reg_cons rfl (by rfl) (fun K hK => ?_) ?_
  · go_simp
    refine (HA.out _).mono ?_
    rintro e W6 ⟨rfl, B6⟩
    have C6 : Below V.heap.size V W6 := C5.trans (B6.mono C5.size)
    have LT6 := Lib.hid (LT5.out.below B6)
    have LW6 := Lib.hid (LW5.out.below B6)
    refine hK.out _ _ (FlS.keep hHeld B6) (fun hHeld => ?_)
    clear hK K
    try simp only [Act.put, List.setIfInBounds_toArray, List.set_cons_zero, List.set_cons_succ]
    refine reg_take (i := 1) rfl (by kernel_rfl) (by kernel_rfl) (by kernel_rfl) (fun _ _ _ h => h) (by rfl) hHeld (v := ?v1) ?hy1 ?rest1
    case hy1 => (intro w' hSw; obtain ⟨s0, s1, s2, s3, s4, s5, s6, s7, s8, s9⟩ := id hSw; go_simp <;> try rfl)
    try simp only [Act.put, List.setIfInBounds_toArray, List.set_cons_zero, List.set_cons_succ]
    refine reg_take (i := 2) rfl (by kernel_rfl) (by kernel_rfl) (by kernel_rfl) (fun _ _ _ h => h) (by rfl) hHeld (v := ?v2) ?hy2 ?rest2
    case hy2 => (intro w' hSw; obtain ⟨s0, s1, s2, s3, s4, s5, s6, s7, s8, s9⟩ := id hSw; go_simp <;> try rfl)
    try simp only [Act.put, List.setIfInBounds_toArray, List.set_cons_zero, List.set_cons_succ]
    refine reg_take (i := 3) rfl (by kernel_rfl) (by kernel_rfl) (by kernel_rfl) (fun _ _ _ h => h) (by rfl) hHeld (v := ?v3) ?hy3 ?rest3
    case hy3 => (intro w' hSw; obtain ⟨s0, s1, s2, s3, s4, s5, s6, s7, s8, s9⟩ := id hSw; go_simp <;> try rfl)
    try simp only [Act.put, List.setIfInBounds_toArray, List.set_cons_zero, List.set_cons_succ]
    refine reg_take (i := 4) rfl (by kernel_rfl) (by kernel_rfl) (by kernel_rfl) (fun _ _ _ h => h) (by rfl) hHeld (v := ?v4) ?hy4 ?rest4
    case hy4 => (intro w' hSw; obtain ⟨s0, s1, s2, s3, s4, s5, s6, s7, s8, s9⟩ := id hSw; go_simp <;> try rfl)
    try simp only [Act.put, List.setIfInBounds_toArray, List.set_cons_zero, List.set_cons_succ]
    refine wpAnyH_ready (rs := [5]) (by kernel_rfl) (by simp) ?_
    refine reg_cons rfl (by rfl) (fun K hK => ?_) ?_
    · go_simp
      refine (HE4.out W6 _ _ C6 LW6.out).mono ?_
      rintro e W7 ⟨rfl, B7⟩
      have C7 : Below V.heap.size V W7 := C6.trans (B7.mono C6.size)
      have LT7 := Lib.hid (LT6.out.below B7)
      refine hK.out _ _ (FlS.keep hHeld B7) (fun hHeld => ?_)
      clear hK K
      try simp only [Act.put, List.setIfInBounds_toArray, List.set_cons_zero, List.set_cons_succ]
      refine reg_take (i := 6) rfl (by kernel_rfl) (by kernel_rfl) (by kernel_rfl) (fun _ _ _ h => h) (by rfl) hHeld (v := ?v5) ?hy5 ?rest5
      case hy5 => (intro w' hSw; obtain ⟨s0, s1, s2, s3, s4, s5, s6, s7, s8, s9⟩ := id hSw; go_simp <;> try rfl)
      try simp only [Act.put, List.setIfInBounds_toArray, List.set_cons_zero, List.set_cons_succ]
      refine reg_take (i := 7) rfl (by kernel_rfl) (by kernel_rfl) (by kernel_rfl) (fun _ _ _ h => h) (by rfl) hHeld (v := ?v6) ?hy6 ?rest6
      case hy6 => (intro w' hSw; obtain ⟨s0, s1, s2, s3, s4, s5, s6, s7, s8, s9⟩ := id hSw; go_simp <;> try rfl)
      try simp only [Act.put, List.setIfInBounds_toArray, List.set_cons_zero, List.set_cons_succ]
      refine reg_take (i := 8) rfl (by kernel_rfl) (by kernel_rfl) (by kernel_rfl) (fun _ _ _ h => h) (by rfl) hHeld (v := ?v7) ?hy7 ?rest7
      case hy7 => (intro w' hSw; obtain ⟨s0, s1, s2, s3, s4, s5, s6, s7, s8, s9⟩ := id hSw; go_simp <;> try rfl)
      try simp only [Act.put, List.setIfInBounds_toArray, List.set_cons_zero, List.set_cons_succ]
      refine reg_take (i := 9) rfl (by kernel_rfl) (by kernel_rfl) (by kernel_rfl) (fun _ _ _ h => h) (by rfl) hHeld (v := ?v8) ?hy8 ?rest8
      case hy8 => (intro w' hSw; obtain ⟨s0, s1, s2, s3, s4, s5, s6, s7, s8, s9⟩ := id hSw; go_simp <;> try rfl)
      try simp only [Act.put, List.setIfInBounds_toArray, List.set_cons_zero, List.set_cons_succ]
      refine reg_take (i := 10) rfl (by kernel_rfl) (by kernel_rfl) (by kernel_rfl) (fun _ _ _ h => h) (by rfl) hHeld (v := ?v9) ?hy9 ?rest9
      case hy9 => (intro w' hSw; obtain ⟨s0, s1, s2, s3, s4, s5, s6, s7, s8, s9⟩ := id hSw; go_simp <;> try rfl)
      try simp only [Act.put, List.setIfInBounds_toArray, List.set_cons_zero, List.set_cons_succ]
      refine reg_take (i := 11) rfl (by kernel_rfl) (by kernel_rfl) (by kernel_rfl) (fun _ _ _ h => h) (by rfl) hHeld (v := ?v10) ?hy10 ?rest10
      case hy10 => (intro w' hSw; obtain ⟨s0, s1, s2, s3, s4, s5, s6, s7, s8, s9⟩ := id hSw; go_simp <;> try rfl)
      try simp only [Act.put, List.setIfInBounds_toArray, List.set_cons_zero, List.set_cons_succ]
      refine reg_take (i := 12) rfl (by kernel_rfl) (by kernel_rfl) (by kernel_rfl) (fun _ _ _ h => h) (by rfl) hHeld (v := ?v11) ?hy11 ?rest11
      case hy11 => (intro w' hSw; obtain ⟨s0, s1, s2, s3, s4, s5, s6, s7, s8, s9⟩ := id hSw; go_simp <;> try rfl)
      try simp only [Act.put, List.setIfInBounds_toArray, List.set_cons_zero, List.set_cons_succ]
      refine reg_take (i := 13) rfl (by kernel_rfl) (by kernel_rfl) (by kernel_rfl) (fun _ _ _ h => h) (by rfl) hHeld (v := ?v12) ?hy12 ?rest12
      case hy12 => (intro w' hSw; obtain ⟨s0, s1, s2, s3, s4, s5, s6, s7, s8, s9⟩ := id hSw; go_simp <;> try rfl)
      try simp only [Act.put, List.setIfInBounds_toArray, List.set_cons_zero, List.set_cons_succ]
      refine reg_take (i := 14) rfl (by kernel_rfl) (by kernel_rfl) (by kernel_rfl) (fun _ _ _ h => h) (by rfl) hHeld (v := ?v13) ?hy13 ?rest13
      case hy13 => (intro w' hSw; obtain ⟨s0, s1, s2, s3, s4, s5, s6, s7, s8, s9⟩ := id hSw; go_simp <;> try rfl)
      try simp only [Act.put, List.setIfInBounds_toArray, List.set_cons_zero, List.set_cons_succ]
      refine reg_take (i := 15) rfl (by kernel_rfl) (by kernel_rfl) (by kernel_rfl) (fun _ _ _ h => h) (by rfl) hHeld (v := ?v14) ?hy14 ?rest14
      case hy14 => (intro w' hSw; obtain ⟨s0, s1, s2, s3, s4, s5, s6, s7, s8, s9⟩ := id hSw; go_simp <;> try rfl)
      try simp only [Act.put, List.setIfInBounds_toArray, List.set_cons_zero, List.set_cons_succ]
      refine reg_take (i := 16) rfl (by kernel_rfl) (by kernel_rfl) (by kernel_rfl) (fun _ _ _ h => h) (by rfl) hHeld (v := ?v15) ?hy15 ?rest15
      case hy15 => (intro w' hSw; obtain ⟨s0, s1, s2, s3, s4, s5, s6, s7, s8, s9⟩ := id hSw; go_simp <;> try rfl)
      try simp only [Act.put, List.setIfInBounds_toArray, List.set_cons_zero, List.set_cons_succ]
      refine reg_take (i := 17) rfl (by kernel_rfl) (by kernel_rfl) (by kernel_rfl) (fun _ _ _ h => h) (by rfl) hHeld (v := ?v16) ?hy16 ?rest16
      case hy16 => (intro w' hSw; obtain ⟨s0, s1, s2, s3, s4, s5, s6, s7, s8, s9⟩ := id hSw; go_simp <;> try rfl)
      try simp only [Act.put, List.setIfInBounds_toArray, List.set_cons_zero, List.set_cons_succ]
      refine reg_take (i := 18) rfl (by kernel_rfl) (by kernel_rfl) (by kernel_rfl) (fun _ _ _ h => h) (by rfl) hHeld (v := ?v17) ?hy17 ?rest17
      case hy17 => (intro w' hSw; obtain ⟨s0, s1, s2, s3, s4, s5, s6, s7, s8, s9⟩ := id hSw; go_simp <;> try rfl)
      try simp only [Act.put, List.setIfInBounds_toArray, List.set_cons_zero, List.set_cons_succ]
      refine wpAnyH_ready (rs := [19]) (by kernel_rfl) (by simp) ?_
      refine reg_cons rfl (by rfl) (fun K hK => ?_) ?_
      · go_simp
        refine (HRF.out W7 C7).mono ?_
        rintro e W8 ⟨⟨gr, rfl, LR8⟩, B8⟩
        have C8 : Below V.heap.size V W8 := C7.trans (B8.mono C7.size)
        have LT8 := Lib.hid (LT7.out.below B8)
        refine hK.out _ _ (FlS.keep hHeld B8) (fun hHeld => ?_)
        clear hK K
        try simp only [Act.put, List.setIfInBounds_toArray, List.set_cons_zero, List.set_cons_succ]
        refine wpAnyH_ready (rs := [20]) (by kernel_rfl) (by simp) ?_
        refine reg_cons rfl (by rfl) (fun K hK => ?_) ?_
        · go_simp
          refine (HE.out W8 gt ct gr LT8.out LR8).mono ?_
          rintro e W9 ⟨rfl, B9⟩
          have C9 : Below V.heap.size V W9 := C8.trans (B9.mono C8.size)
          have LT9 := Lib.hid (LT8.out.below B9)
          refine hK.out _ _ (FlS.keep hHeld B9) (fun hHeld => ?_)
          clear hK K
          try simp only [Act.put, List.setIfInBounds_toArray, List.set_cons_zero, List.set_cons_succ]
          refine reg_take (i := 21) rfl (by kernel_rfl) (by kernel_rfl) (by kernel_rfl) (fun _ _ _ h => h) (by rfl) hHeld (v := ?v18) ?hy18 ?rest18
          case hy18 => (intro w' hSw; obtain ⟨s0, s1, s2, s3, s4, s5, s6, s7, s8, s9⟩ := id hSw; go_simp <;> try rfl)
          try simp only [Act.put, List.setIfInBounds_toArray, List.set_cons_zero, List.set_cons_succ]
          refine reg_take (i := 22) rfl (by kernel_rfl) (by kernel_rfl) (by kernel_rfl) (fun _ _ _ h => h) (by rfl) hHeld (v := ?v19) ?hy19 ?rest19
          case hy19 => (intro w' hSw; obtain ⟨s0, s1, s2, s3, s4, s5, s6, s7, s8, s9⟩ := id hSw; go_simp <;> try rfl)
          try simp only [Act.put, List.setIfInBounds_toArray, List.set_cons_zero, List.set_cons_succ]
          refine reg_take (i := 23) rfl (by kernel_rfl) (by kernel_rfl) (by kernel_rfl) (fun _ _ _ h => h) (by rfl) hHeld (v := ?v20) ?hy20 ?rest20
          case hy20 => (intro w' hSw; obtain ⟨s0, s1, s2, s3, s4, s5, s6, s7, s8, s9⟩ := id hSw; go_simp <;> try rfl)
          try simp only [Act.put, List.setIfInBounds_toArray, List.set_cons_zero, List.set_cons_succ]
          refine reg_take (i := 24) rfl (by kernel_rfl) (by kernel_rfl) (by kernel_rfl) (fun _ _ _ h => h) (by rfl) hHeld (v := ?v21) ?hy21 ?rest21
          case hy21 => (intro w' hSw; obtain ⟨s0, s1, s2, s3, s4, s5, s6, s7, s8, s9⟩ := id hSw; go_simp <;> try rfl)
          try simp only [Act.put, List.setIfInBounds_toArray, List.set_cons_zero, List.set_cons_succ]
          refine reg_take (i := 25) rfl (by kernel_rfl) (by kernel_rfl) (by kernel_rfl) (fun _ _ _ h => h) (by rfl) hHeld (v := ?v22) ?hy22 ?rest22
          case hy22 => (intro w' hSw; obtain ⟨s0, s1, s2, s3, s4, s5, s6, s7, s8, s9⟩ := id hSw; go_simp <;> try rfl)
          try simp only [Act.put, List.setIfInBounds_toArray, List.set_cons_zero, List.set_cons_succ]
          refine reg_take (i := 26) rfl (by kernel_rfl) (by kernel_rfl) (by kernel_rfl) (fun _ _ _ h => h) (by rfl) hHeld (v := ?v23) ?hy23 ?rest23
          case hy23 => (intro w' hSw; obtain ⟨s0, s1, s2, s3, s4, s5, s6, s7, s8, s9⟩ := id hSw; go_simp <;> try rfl)
          try simp only [Act.put, List.setIfInBounds_toArray, List.set_cons_zero, List.set_cons_succ]
          refine reg_take (i := 27) rfl (by kernel_rfl) (by kernel_rfl) (by kernel_rfl) (fun _ _ _ h => h) (by rfl) hHeld (v := ?v24) ?hy24 ?rest24
          case hy24 => (intro w' hSw; obtain ⟨s0, s1, s2, s3, s4, s5, s6, s7, s8, s9⟩ := id hSw; go_simp <;> try rfl)
          try simp only [Act.put, List.setIfInBounds_toArray, List.set_cons_zero, List.set_cons_succ]
          refine reg_take (i := 28) rfl (by kernel_rfl) (by kernel_rfl) (by kernel_rfl) (fun _ _ _ h => h) (by rfl) hHeld (v := ?v25) ?hy25 ?rest25
          case hy25 => (intro w' hSw; obtain ⟨s0, s1, s2, s3, s4, s5, s6, s7, s8, s9⟩ := id hSw; go_simp <;> try rfl)
          try simp only [Act.put, List.setIfInBounds_toArray, List.set_cons_zero, List.set_cons_succ]
          refine reg_take (i := 29) rfl (by kernel_rfl) (by kernel_rfl) (by kernel_rfl) (fun _ _ _ h => h) (by rfl) hHeld (v := ?v26) ?hy26 ?rest26
          case hy26 => (intro w' hSw; obtain ⟨s0, s1, s2, s3, s4, s5, s6, s7, s8, s9⟩ := id hSw; go_simp <;> try rfl)
          try simp only [Act.put, List.setIfInBounds_toArray, List.set_cons_zero, List.set_cons_succ]
          refine reg_take (i := 30) rfl (by kernel_rfl) (by kernel_rfl) (by kernel_rfl) (fun _ _ _ h => h) (by rfl) hHeld (v := ?v27) ?hy27 ?rest27
          case hy27 => (intro w' hSw; obtain ⟨s0, s1, s2, s3, s4, s5, s6, s7, s8, s9⟩ := id hSw; go_simp <;> try rfl)
          try simp only [Act.put, List.setIfInBounds_toArray, List.set_cons_zero, List.set_cons_succ]
          refine reg_take (i := 31) rfl (by kernel_rfl) (by kernel_rfl) (by kernel_rfl) (fun _ _ _ h => h) (by rfl) hHeld (v := ?v28) ?hy28 ?rest28
          case hy28 => (intro w' hSw; obtain ⟨s0, s1, s2, s3, s4, s5, s6, s7, s8, s9⟩ := id hSw; go_simp <;> try rfl)
          try simp only [Act.put, List.setIfInBounds_toArray, List.set_cons_zero, List.set_cons_succ]
          refine reg_take (i := 32) rfl (by kernel_rfl) (by kernel_rfl) (by kernel_rfl) (fun _ _ _ h => h) (by rfl) hHeld (v := ?v29) ?hy29 ?rest29
          case hy29 => (intro w' hSw; obtain ⟨s0, s1, s2, s3, s4, s5, s6, s7, s8, s9⟩ := id hSw; go_simp <;> try rfl)
          try simp only [Act.put, List.setIfInBounds_toArray, List.set_cons_zero, List.set_cons_succ]
          refine wpAnyH_ready (rs := [33]) (by kernel_rfl) (by simp) ?_
          refine reg_cons rfl (by rfl) (fun K hK => ?_) ?_
          · go_simp
            refine (HRC.out W9 C9).mono ?_
            rintro e W10 ⟨rfl, B10⟩
            have C10 : Below V.heap.size V W10 := C9.trans (B10.mono C9.size)
            have LT10 := Lib.hid (LT9.out.below B10)
            refine hK.out _ _ (FlS.keep hHeld B10) (fun hHeld => ?_)
            clear hK K
            try simp only [Act.put, List.setIfInBounds_toArray, List.set_cons_zero, List.set_cons_succ]
            refine reg_take (i := 34) rfl (by kernel_rfl) (by kernel_rfl) (by kernel_rfl) (fun _ _ _ h => h) (by rfl) hHeld (v := ?v30) ?hy30 ?rest30
            case hy30 => (intro w' hSw; obtain ⟨s0, s1, s2, s3, s4, s5, s6, s7, s8, s9⟩ := id hSw; go_simp <;> try rfl)
            try simp only [Act.put, List.setIfInBounds_toArray, List.set_cons_zero, List.set_cons_succ]
            refine reg_take (i := 35) rfl (by kernel_rfl) (by kernel_rfl) (by kernel_rfl) (fun _ _ _ h => h) (by rfl) hHeld (v := ?v31) ?hy31 ?rest31
            case hy31 => (intro w' hSw; obtain ⟨s0, s1, s2, s3, s4, s5, s6, s7, s8, s9⟩ := id hSw; go_simp <;> try rfl)
            try simp only [Act.put, List.setIfInBounds_toArray, List.set_cons_zero, List.set_cons_succ]
            refine reg_take (i := 36) rfl (by kernel_rfl) (by kernel_rfl) (by kernel_rfl) (fun _ _ _ h => h) (by rfl) hHeld (v := ?v32) ?hy32 ?rest32
            case hy32 => (intro w' hSw; obtain ⟨s0, s1, s2, s3, s4, s5, s6, s7, s8, s9⟩ := id hSw; go_simp <;> try rfl)
            try simp only [Act.put, List.setIfInBounds_toArray, List.set_cons_zero, List.set_cons_succ]
            refine reg_take (i := 37) rfl (by kernel_rfl) (by kernel_rfl) (by kernel_rfl) (fun _ _ _ h => h) (by rfl) hHeld (v := ?v33) ?hy33 ?rest33
            case hy33 => (intro w' hSw; obtain ⟨s0, s1, s2, s3, s4, s5, s6, s7, s8, s9⟩ := id hSw; go_simp <;> try rfl)
            try simp only [Act.put, List.setIfInBounds_toArray, List.set_cons_zero, List.set_cons_succ]
            refine reg_take (i := 38) rfl (by kernel_rfl) (by kernel_rfl) (by kernel_rfl) (fun _ _ _ h => h) (by rfl) hHeld (v := ?v34) ?hy34 ?rest34
            case hy34 => (intro w' hSw; obtain ⟨s0, s1, s2, s3, s4, s5, s6, s7, s8, s9⟩ := id hSw; go_simp <;> try rfl)
            try simp only [Act.put, List.setIfInBounds_toArray, List.set_cons_zero, List.set_cons_succ]
            refine reg_skip (i := 39) rfl (by kernel_rfl) (by kernel_rfl) (by kernel_rfl) (fun _ _ _ h => h) (by rfl) hHeld ?_
            try simp only [Act.put, List.setIfInBounds_toArray, List.set_cons_zero, List.set_cons_succ]
            refine reg_skip (i := 40) rfl (by kernel_rfl) (by kernel_rfl) (by kernel_rfl) (fun _ _ _ h => h) (by rfl) hHeld ?_
            try simp only [Act.put, List.setIfInBounds_toArray, List.set_cons_zero, List.set_cons_succ]
            refine reg_skip (i := 41) rfl (by kernel_rfl) (by kernel_rfl) (by kernel_rfl) (fun _ _ _ h => h) (by rfl) hHeld ?_
            try simp only [Act.put, List.setIfInBounds_toArray, List.set_cons_zero, List.set_cons_succ]
            refine reg_skip (i := 42) rfl (by kernel_rfl) (by kernel_rfl) (by kernel_rfl) (fun _ _ _ h => h) (by rfl) hHeld ?_
            try simp only [Act.put, List.setIfInBounds_toArray, List.set_cons_zero, List.set_cons_succ]
            refine reg_skip (i := 43) rfl (by kernel_rfl) (by kernel_rfl) (by kernel_rfl) (fun _ _ _ h => h) (by rfl) hHeld ?_
            try simp only [Act.put, List.setIfInBounds_toArray, List.set_cons_zero, List.set_cons_succ]
            refine reg_skip (i := 44) rfl (by kernel_rfl) (by kernel_rfl) (by kernel_rfl) (fun _ _ _ h => h) (by rfl) hHeld ?_
            try simp only [Act.put, List.setIfInBounds_toArray, List.set_cons_zero, List.set_cons_succ]
            refine reg_skip (i := 45) rfl (by kernel_rfl) (by kernel_rfl) (by kernel_rfl) (fun _ _ _ h => h) (by rfl) hHeld ?_
            try simp only [Act.put, List.setIfInBounds_toArray, List.set_cons_zero, List.set_cons_succ]
            refine reg_skip (i := 46) rfl (by kernel_rfl) (by kernel_rfl) (by kernel_rfl) (fun _ _ _ h => h) (by rfl) hHeld ?_
            try simp only [Act.put, List.setIfInBounds_toArray, List.set_cons_zero, List.set_cons_succ]
            refine reg_skip (i := 47) rfl (by kernel_rfl) (by kernel_rfl) (by kernel_rfl) (fun _ _ _ h => h) (by rfl) hHeld ?_
            try simp only [Act.put, List.setIfInBounds_toArray, List.set_cons_zero, List.set_cons_succ]
            refine reg_skip (i := 48) rfl (by kernel_rfl) (by kernel_rfl) (by kernel_rfl) (fun _ _ _ h => h) (by rfl) hHeld ?_
            try simp only [Act.put, List.setIfInBounds_toArray, List.set_cons_zero, List.set_cons_succ]
            refine reg_skip (i := 49) rfl (by kernel_rfl) (by kernel_rfl) (by kernel_rfl) (fun _ _ _ h => h) (by rfl) hHeld ?_
            try simp only [Act.put, List.setIfInBounds_toArray, List.set_cons_zero, List.set_cons_succ]
            refine reg_take (i := 50) rfl (by kernel_rfl) (by kernel_rfl) (by kernel_rfl) (fun _ _ _ h => h) (by rfl) hHeld (v := ?v35) ?hy35 ?rest35
            case hy35 => (intro w' hSw; obtain ⟨s0, s1, s2, s3, s4, s5, s6, s7, s8, s9⟩ := id hSw; go_simp <;> try rfl)
            try simp only [Act.put, List.setIfInBounds_toArray, List.set_cons_zero, List.set_cons_succ]
            refine reg_take (i := 51) rfl (by kernel_rfl) (by kernel_rfl) (by kernel_rfl) (fun _ _ _ h => h) (by rfl) hHeld (v := ?v36) ?hy36 ?rest36
            case hy36 => (intro w' hSw; obtain ⟨s0, s1, s2, s3, s4, s5, s6, s7, s8, s9⟩ := id hSw; go_simp <;> try rfl)
            try simp only [Act.put, List.setIfInBounds_toArray, List.set_cons_zero, List.set_cons_succ]
            refine reg_take (i := 52) rfl (by kernel_rfl) (by kernel_rfl) (by kernel_rfl) (fun _ _ _ h => h) (by rfl) hHeld (v := ?v37) ?hy37 ?rest37
            case hy37 => (intro w' hSw; obtain ⟨s0, s1, s2, s3, s4, s5, s6, s7, s8, s9⟩ := id hSw; go_simp <;> try rfl)
            try simp only [Act.put, List.setIfInBounds_toArray, List.set_cons_zero, List.set_cons_succ]
            refine wpAnyH_done (by kernel_rfl) ?_ _
            have hCF := Lib.hid (HB.out.trans (C10.mono HB.out.size))
            go_wp2_with fail
            go_ret
            exact ⟨by rfl, hCF.out⟩
          exact AllReadyH.nil
        exact AllReadyH.nil
      exact AllReadyH.nil
    exact AllReadyH.nil
  exact AllReadyH.nil
set_option maxHeartbeats 6400000 in
set_option maxRecDepth 100000 in
theorem fillLaw_false (v u : Nat) (a : Addr) (n c : Nat) (bs : List Int) (x1 y1 p1 q1 : Int) (w : World) (h : Lst .u8 w (some a) n c bs) (hO : OkI v u bs) (hv : v ≤ 24) (hu : u ≤ 24) (hb1 : I64 x1) (hb2 : I64 y1) (hb3 : I64 p1) (hb4 : I64 q1) :
    Calls Try.prog 3 #[.agg #[.int .i64 (v : Int), .int .i64 (u : Int), .slice (some a) n c], .agg #[.int .i64 x1, .int .i64 y1, .int .i64 p1, .int .i64 q1], .bool false] w fun e w' => e = .returned (.bool true) ∧ Below w.heap.size w w' := by
  obtain ⟨V1, V, e1, e2, A1, A2, BV, hz1, hz2⟩ := two_args w v u (some a) n c x1 y1 p1 q1
  have k0 : V.cell? ⟨w.heap.size, 0, none⟩ = some (.int .i64 (v : Int)) := A1.cell 0
  have k1 : V.cell? ⟨w.heap.size, 1, none⟩ = some (.int .i64 (u : Int)) := A1.cell 1
  have k2 : V.cell? ⟨w.heap.size, 2, none⟩ = some (.slice (some a) n c) := A1.cell 2
  have k3 : V.cell? ⟨V1.heap.size, 0, none⟩ = some (.int .i64 x1) := A2.cell 0
  have k4 : V.cell? ⟨V1.heap.size, 1, none⟩ = some (.int .i64 y1) := A2.cell 1
  have k5 : V.cell? ⟨V1.heap.size, 2, none⟩ = some (.int .i64 p1) := A2.cell 2
  have k6 : V.cell? ⟨V1.heap.size, 3, none⟩ = some (.int .i64 q1) := A2.cell 3
  have hK := Lib.hid (And.intro k0 (And.intro k1 (And.intro k2 (And.intro k3 (And.intro k4 (And.intro k5 k6))))))
  have hbn : bs.length = n := h.len
  have hnM : n = (v * u + 7) / 8 := hbn.symm.trans hO.len
  have hnb : n ≤ 1000000 := by have := hO.len; have := area_le hO.w2 hO.h2; omega
  have HS := Lib.hid (small_c v u (some a) n c bs V (h.below BV))
  rw [okB_mk hO, decide_eq_true (show (v : Int) ≤ 24 by omega), decide_eq_true (show (u : Int) ≤ 24 by omega), show (true && true && true) = true from rfl] at HS
  have HB : Hid (Below w.heap.size w V) := BV
  have HA : Hid (∀ W, Calls Try.prog 5 #[] W fun e w' => e = .returned (.bool true) ∧ Below W.heap.size W w') := awake_c
  have HLo : Hid (∀ W, Below V.heap.size V W → Lst .u8 W (some a) n c bs) := fun W hb => (h.below BV).below hb
  obtain ⟨T, hT⟩ : ∃ T, packP (fillB (bitL bs) (rectL v u x1 y1 p1 q1) false) n = T := ⟨_, rfl⟩
  obtain ⟨K, hKc⟩ : ∃ K, cntB (bitL bs) (rectL v u x1 y1 p1 q1) = K := ⟨_, rfl⟩
  have hOT : OkI v u T := by rw [← hT]; exact okFill x1 y1 p1 q1 false hO hbn
  have hRT : packP (bitsD (pxD v (flG v u bs x1 y1 p1 q1 false) (v * u))) n = T := by rw [← hT]; exact fill_same x1 y1 p1 q1 false hO
  have HF : Hid (∀ (W : World), Below V.heap.size V W → Calls Try.prog 6 #[.agg #[.int .i64 (v : Int), .int .i64 (u : Int), .slice (some a) n c], .int .i64 x1, .int .i64 y1, .int .i64 p1, .int .i64 q1, .bool false] W fun e w' => (∃ g cc, e = .returned (.agg #[.int .i64 (v : Int), .int .i64 (u : Int), .slice (some ⟨g, 0, none⟩) n cc]) ∧ Lst .u8 w' (some ⟨g, 0, none⟩) n cc T) ∧ Below W.heap.size W w') := fun W hb => (fill_c v u a n c bs x1 y1 p1 q1 false W (HLo.out W hb) hO hb1.1 hb1.2 hb2.1 hb2.2 hb3.1 hb3.2 hb4.1 hb4.2).mono fun e w' hh => by
    obtain ⟨g, cc, rfl, Og, Bg⟩ := hh
    rw [hT] at Og
    exact ⟨⟨g, cc, rfl, Og.lst⟩, Bg⟩
  have HRF : Hid (∀ (W : World), Below V.heap.size V W → Calls Try.prog 10 #[.agg #[.int .i64 (v : Int), .int .i64 (u : Int), .slice (some a) n c], .int .i64 x1, .int .i64 y1, .int .i64 p1, .int .i64 q1, .bool false] W fun e w' => (∃ g, e = .returned (.agg #[.int .i64 (v : Int), .int .i64 (u : Int), .slice (some ⟨g, 0, none⟩) n n]) ∧ Lst .u8 w' (some ⟨g, 0, none⟩) n n T) ∧ Below W.heap.size W w') := fun W hb => (refFill_c v u (some a) n c bs x1 y1 p1 q1 false W (HLo.out W hb) hO hb1.1 hb1.2 hb2.1 hb2.2 hb3.1 hb3.2 hb4.1 hb4.2).mono fun e w' hh => by
    obtain ⟨g, rfl, Og, Bg⟩ := hh
    rw [← hnM] at Og ⊢
    rw [hRT] at Og
    exact ⟨⟨g, rfl, Og.lst⟩, Bg⟩
  have HC : Hid (∀ (W : World), Below V.heap.size V W → Calls Try.prog 7 #[.agg #[.int .i64 (v : Int), .int .i64 (u : Int), .slice (some a) n c], .int .i64 x1, .int .i64 y1, .int .i64 p1, .int .i64 q1] W fun e w' => e = .returned (.int .i64 (K : Int)) ∧ Below W.heap.size W w') := fun W hb => by
    have := count_c v u a n c bs x1 y1 p1 q1 W (HLo.out W hb) hO hb1.1 hb1.2 hb2.1 hb2.2 hb3.1 hb3.2 hb4.1 hb4.2
    rw [hKc] at this
    exact this
  have HRC : Hid (∀ (W : World), Below V.heap.size V W → Calls Try.prog 11 #[.agg #[.int .i64 (v : Int), .int .i64 (u : Int), .slice (some a) n c], .int .i64 x1, .int .i64 y1, .int .i64 p1, .int .i64 q1] W fun e w' => e = .returned (.int .i64 (K : Int)) ∧ Below W.heap.size W w') := fun W hb => by
    have := refCount_c v u (some a) n c bs x1 y1 p1 q1 W (HLo.out W hb) hO hb1.1 hb1.2 hb2.1 hb2.2 hb3.1 hb3.2 hb4.1 hb4.2
    rw [hKc] at this
    exact this
  have HC2 : Hid (∀ (W : World) (g0 c0 : Nat), Lst .u8 W (some ⟨g0, 0, none⟩) n c0 T → Calls Try.prog 7 #[.agg #[.int .i64 (v : Int), .int .i64 (u : Int), .slice (some ⟨g0, 0, none⟩) n c0], .int .i64 x1, .int .i64 y1, .int .i64 p1, .int .i64 q1] W fun e w' => e = .returned (.int .i64 0) ∧ Below W.heap.size W w') := fun W g0 c0 hl => by
    have := count_c v u ⟨g0, 0, none⟩ n c0 T x1 y1 p1 q1 W hl hOT hb1.1 hb1.2 hb2.1 hb2.2 hb3.1 hb3.2 hb4.1 hb4.2
    rw [← hT, fill_none x1 y1 p1 q1 hO hbn] at this
    exact this
  have HE : Hid (∀ (W : World) (ga ca gb : Nat), Lst .u8 W (some ⟨ga, 0, none⟩) n ca T → Lst .u8 W (some ⟨gb, 0, none⟩) n n T → Calls Try.prog 9 #[.agg #[.int .i64 (v : Int), .int .i64 (u : Int), .slice (some ⟨ga, 0, none⟩) n ca], .agg #[.int .i64 (v : Int), .int .i64 (u : Int), .slice (some ⟨gb, 0, none⟩) n n]] W fun e w' => e = .returned (.bool true) ∧ Below W.heap.size W w') := fun W ga ca gb h1 h2 => by
    have := eqI_c v u v u (some ⟨ga, 0, none⟩) (some ⟨gb, 0, none⟩) n ca n n T T W h1 h2
    rw [decide_eq_true (rfl : (v : Int) = v), decide_eq_true (rfl : (u : Int) = u), decide_eq_true (rfl : T = T)] at this
    exact this
  have HE4 : Hid (∀ (W : World) (ao : Option Addr) (ca : Nat), Below V.heap.size V W → Lst .u8 W ao n ca bs → Calls Try.prog 8 #[.slice ao n ca, .slice (some a) n c] W fun e w' => e = .returned (.bool true) ∧ Below W.heap.size W w') := fun W ao ca hb h1 => by
    have := eqB_c ao n ca bs (some a) n c bs W h1 (HLo.out W hb)
    rw [decide_eq_true (rfl : bs = bs)] at this
    exact this
  clear h BV A1 A2 hz1 hz2 hO hv hu hbn hnM hT hKc hOT hRT hb1 hb2 hb3 hb4
  go_enter Try.func3, Try.ntmps3
  go_wp2_with (first
    | (go_at_call 4; (with_reducible refine HS.out.mono ?_); rintro e w1 ⟨rfl, B1⟩; have z0 := cell_keep k0 B1; have z1 := cell_keep k1 B1; have z2 := cell_keep k2 B1; have z3 := cell_keep k3 B1; have z4 := cell_keep k4 B1; have z5 := cell_keep k5 B1; have z6 := cell_keep k6 B1; have hB1 := Lib.hid B1; clear B1)
    | (at_builtin; refine wpList_appL (own_nil _ _ V.heap.size w1) (HLo.out w1 hB1.out) (fun e => by cases e) hB1.out.size (by omega) (by omega) rfl rfl ?_; intro aw cw w2 O2 B2; rw [Nat.zero_add] at O2 ⊢; rw [List.nil_append] at O2; have hB2 : Hid (Below V.heap.size V w2) := hB1.out.trans B2; have yy0 := cell_keep k0 hB2.out; have yy1 := cell_keep k1 hB2.out; have yy2 := cell_keep k2 hB2.out; have yy3 := cell_keep k3 hB2.out; have yy4 := cell_keep k4 hB2.out; have yy5 := cell_keep k5 hB2.out; have yy6 := cell_keep k6 hB2.out; have hO2 := Lib.hid O2.lst; clear O2 B2)
    | (go_at_call 6; (with_reducible refine (HF.out w2 hB2.out).mono ?_); rintro e w3 ⟨⟨gt, ct, rfl, L3⟩, B3⟩; obtain ⟨w4, w5, m4, m5, q0, q1', q2, q3, q4, q5, A5, B5, z5'⟩ := new_fill2 w3 (.int .i64 (v : Int)) (.int .i64 (u : Int)) (.slice (some ⟨gt, 0, none⟩) n ct); obtain ⟨g, hg⟩ : ∃ g, w3.heap.size = g := ⟨_, rfl⟩; rw [hg] at m5 q0 q1' q2 q3 q4 q5 A5; have hA5 := Lib.hid A5; have LT5 := Lib.hid (L3.below B5); have B35 := Lib.hid (B3.trans (B5.mono B3.size)); have hB5 := Lib.hid (hB2.out.trans (B35.out.mono hB2.out.size)); have HCw := Lib.hid (HC.out w5 hB5.out); have d0 := cell_keep hK.out.1 hB5.out; have d1 := cell_keep hK.out.2.1 hB5.out; have d2 := cell_keep hK.out.2.2.1 hB5.out; have d3 := cell_keep hK.out.2.2.2.1 hB5.out; have d4 := cell_keep hK.out.2.2.2.2.1 hB5.out; have d5 := cell_keep hK.out.2.2.2.2.2.1 hB5.out; have d6 := cell_keep hK.out.2.2.2.2.2.2 hB5.out; clear L3 B3 B5 A5 z5')
    | (go_at_call 7; (with_reducible refine HCw.out.mono ?_); rintro e w5b ⟨rfl, B5b⟩; have hB5b := Lib.hid B5b; clear B5b))
  have C5 : Below V.heap.size V w5b.drew := (hB5.out.trans (hB5b.out.mono hB5.out.size)).drew
  have c5a : w5b.drew.cell? ⟨w.heap.size, 0, none⟩ = some (.int .i64 (v : Int)) := cell_keep hK.out.1 C5
  have c5b : w5b.drew.cell? ⟨w.heap.size, 1, none⟩ = some (.int .i64 (u : Int)) := cell_keep hK.out.2.1 C5
  have c5c : w5b.drew.cell? ⟨w.heap.size, 2, none⟩ = some (.slice (some a) n c) := cell_keep hK.out.2.2.1 C5
  have c5d : w5b.drew.cell? ⟨V1.heap.size, 0, none⟩ = some (.int .i64 x1) := cell_keep hK.out.2.2.2.1 C5
  have c5e : w5b.drew.cell? ⟨V1.heap.size, 1, none⟩ = some (.int .i64 y1) := cell_keep hK.out.2.2.2.2.1 C5
  have c5f : w5b.drew.cell? ⟨V1.heap.size, 2, none⟩ = some (.int .i64 p1) := cell_keep hK.out.2.2.2.2.2.1 C5
  have c5g : w5b.drew.cell? ⟨V1.heap.size, 3, none⟩ = some (.int .i64 q1) := cell_keep hK.out.2.2.2.2.2.2 C5
  have c5h : w5b.drew.cell? ⟨g, 0, none⟩ = some (.int .i64 (v : Int)) := (hA5.out.kept hB5b.out).cell 0
  have c5i : w5b.drew.cell? ⟨g, 1, none⟩ = some (.int .i64 (u : Int)) := (hA5.out.kept hB5b.out).cell 1
  have c5j : w5b.drew.cell? ⟨g, 2, none⟩ = some (.slice (some ⟨gt, 0, none⟩) n ct) := (hA5.out.kept hB5b.out).cell 2
  replace LT5 : Hid (Lst .u8 w5b.drew (some ⟨gt, 0, none⟩) n ct T) := (LT5.out.below hB5b.out).drewN 1
  have LW5 : Hid (Lst .u8 w5b.drew aw n cw bs) := ((hO2.out.below B35.out).below hB5b.out).drewN 1
  clear k0 k1 k2 k3 k4 k5 k6 yy0 yy1 yy2 yy3 yy4 yy5 yy6 z0 z1 z2 z3 z4 z5 z6 d0 d1 d2 d3 d4 d5 d6 q0 q1' q2 q3 q4 q5 m4 m5
  go_region_held3 (fun w' => w'.cell? ⟨w.heap.size, 0, none⟩ = some (.int .i64 (v : Int)) ∧ w'.cell? ⟨w.heap.size, 1, none⟩ = some (.int .i64 (u : Int)) ∧ w'.cell? ⟨w.heap.size, 2, none⟩ = some (.slice (some a) n c) ∧ w'.cell? ⟨V1.heap.size, 0, none⟩ = some (.int .i64 x1) ∧ w'.cell? ⟨V1.heap.size, 1, none⟩ = some (.int .i64 y1) ∧ w'.cell? ⟨V1.heap.size, 2, none⟩ = some (.int .i64 p1) ∧ w'.cell? ⟨V1.heap.size, 3, none⟩ = some (.int .i64 q1) ∧ w'.cell? ⟨g, 0, none⟩ = some (.int .i64 (v : Int)) ∧ w'.cell? ⟨g, 1, none⟩ = some (.int .i64 (u : Int)) ∧ w'.cell? ⟨g, 2, none⟩ = some (.slice (some ⟨gt, 0, none⟩) n ct)) (go_keep) (first
      | (go_at_call 5; (with_reducible refine (HA.out _).mono ?_); rintro e w6 ⟨rfl, B6⟩; have c6a := cell_keep c5a B6; have c6b := cell_keep c5b B6; have c6c := cell_keep c5c B6; have c6d := cell_keep c5d B6; have c6e := cell_keep c5e B6; have c6f := cell_keep c5f B6; have c6g := cell_keep c5g B6; have c6h := cell_keep c5h B6; have c6i := cell_keep c5i B6; have c6j := cell_keep c5j B6; have C6 : Below V.heap.size V w6 := C5.trans (B6.mono C5.size); have LW6 := Lib.hid (LW5.out.below B6); have LT6 := Lib.hid (LT5.out.below B6); clear B6)
      | (go_at_call 8; (with_reducible refine (HE4.out w6 _ _ C6 LW6.out).mono ?_); rintro e w7 ⟨rfl, B7⟩; have c7a := cell_keep c6a B7; have c7b := cell_keep c6b B7; have c7c := cell_keep c6c B7; have c7d := cell_keep c6d B7; have c7e := cell_keep c6e B7; have c7f := cell_keep c6f B7; have c7g := cell_keep c6g B7; have c7h := cell_keep c6h B7; have c7i := cell_keep c6i B7; have c7j := cell_keep c6j B7; have C7 : Below V.heap.size V w7 := C6.trans (B7.mono C6.size); have LT7 := Lib.hid (LT6.out.below B7); clear B7)
      | (go_at_call 10; (with_reducible refine (HRF.out w7 C7).mono ?_); rintro e w8 ⟨⟨gr, rfl, LL⟩, B8⟩; have c8a := cell_keep c7a B8; have c8b := cell_keep c7b B8; have c8c := cell_keep c7c B8; have c8d := cell_keep c7d B8; have c8e := cell_keep c7e B8; have c8f := cell_keep c7f B8; have c8g := cell_keep c7g B8; have c8h := cell_keep c7h B8; have c8i := cell_keep c7i B8; have c8j := cell_keep c7j B8; have C8 : Below V.heap.size V w8 := C7.trans (B8.mono C7.size); have LR8 := Lib.hid LL; have LT8 := Lib.hid (LT7.out.below B8); clear LL; clear B8)
      | (go_at_call 9; (with_reducible refine (HE.out w8 gt ct gr LT8.out LR8.out).mono ?_); rintro e w9 ⟨rfl, B9⟩; have c9a := cell_keep c8a B9; have c9b := cell_keep c8b B9; have c9c := cell_keep c8c B9; have c9d := cell_keep c8d B9; have c9e := cell_keep c8e B9; have c9f := cell_keep c8f B9; have c9g := cell_keep c8g B9; have c9h := cell_keep c8h B9; have c9i := cell_keep c8i B9; have c9j := cell_keep c8j B9; have C9 : Below V.heap.size V w9 := C8.trans (B9.mono C8.size); have LT9 := Lib.hid (LT8.out.below B9); clear B9)
      | (go_at_call 11; (with_reducible refine (HRC.out w9 C9).mono ?_); rintro e w10 ⟨rfl, B10⟩; have c10a := cell_keep c9a B10; have c10b := cell_keep c9b B10; have c10c := cell_keep c9c B10; have c10d := cell_keep c9d B10; have c10e := cell_keep c9e B10; have c10f := cell_keep c9f B10; have c10g := cell_keep c9g B10; have c10h := cell_keep c9h B10; have c10i := cell_keep c9i B10; have c10j := cell_keep c9j B10; have C10 : Below V.heap.size V w10 := C9.trans (B10.mono C9.size); have LT10 := Lib.hid (LT9.out.below B10); clear B10)
      | (go_at_call 7; (with_reducible refine (HC2.out w10 gt ct LT10.out).mono ?_); rintro e w11 ⟨rfl, B11⟩; have c11a := cell_keep c10a B11; have c11b := cell_keep c10b B11; have c11c := cell_keep c10c B11; have c11d := cell_keep c10d B11; have c11e := cell_keep c10e B11; have c11f := cell_keep c10f B11; have c11g := cell_keep c10g B11; have c11h := cell_keep c10h B11; have c11i := cell_keep c10i B11; have c11j := cell_keep c10j B11; have C11 : Below V.heap.size V w11 := C10.trans (B11.mono C10.size); have hCF := Lib.hid (HB.out.trans (C11.mono HB.out.size)); clear B11))
  all_goals
    go_wp2_with fail
    go_ret
    exact ⟨by rfl, hCF.out⟩
set_option maxHeartbeats 3200000 in
set_option maxRecDepth 100000 in
theorem fillLaw_no (x y : Int) (ao : Option Addr) (n c : Nat) (bs : List Int) (x1 y1 p1 q1 : Int) (on : Bool) (w : World) (h : Lst .u8 w ao n c bs) (hs : (decide (x ≤ 24) && decide (y ≤ 24) && okB x y bs) = false) :
    Calls Try.prog 3 #[.agg #[.int .i64 x, .int .i64 y, .slice ao n c], .agg #[.int .i64 x1, .int .i64 y1, .int .i64 p1, .int .i64 q1], .bool on] w fun e w' => e = .returned (.bool true) ∧ Below w.heap.size w w' := by
  obtain ⟨V1, V, e1, e2, A1, A2, BV, hz1, hz2⟩ := two_args w x y ao n c x1 y1 p1 q1
  have k0 : V.cell? ⟨w.heap.size, 0, none⟩ = some (.int .i64 x) := A1.cell 0
  have k1 : V.cell? ⟨w.heap.size, 1, none⟩ = some (.int .i64 y) := A1.cell 1
  have k2 : V.cell? ⟨w.heap.size, 2, none⟩ = some (.slice ao n c) := A1.cell 2
  have HS := Lib.hid (small_c x y ao n c bs V (h.below BV))
  rw [hs] at HS
  have HB : Hid (Below w.heap.size w V) := BV
  have HA : Hid (∀ W, Calls Try.prog 5 #[] W fun e w' => e = .returned (.bool true) ∧ Below W.heap.size W w') := awake_c
  clear hs h BV A1 A2 hz1 hz2
  go_enter Try.func3, Try.ntmps3
  go_wp2_with (first
    | (go_at_call 4; (with_reducible refine HS.out.mono ?_); rintro e v1 ⟨rfl, B1⟩; have B1' := Lib.hid (HB.out.trans (B1.mono HB.out.size)); clear B1)
    | (go_at_call 5; (with_reducible refine (HA.out _).mono ?_); rintro e v2 ⟨rfl, B2⟩; have B2' := Lib.hid (B1'.out.trans (B2.mono B1'.out.size)); clear B2))
  go_ret
  exact ⟨rfl, B2'.out⟩
theorem fillLaw_c (x y : Int) (ao : Option Addr) (n c : Nat) (bs : List Int) (x1 y1 p1 q1 : Int) (on : Bool) (w : World) (h : Lst .u8 w ao n c bs) (hb1 : -9223372036854775808 ≤ x1 ∧ x1 ≤ 9223372036854775807) (hb2 : -9223372036854775808 ≤ y1 ∧ y1 ≤ 9223372036854775807) (hb3 : -9223372036854775808 ≤ p1 ∧ p1 ≤ 9223372036854775807) (hb4 : -9223372036854775808 ≤ q1 ∧ q1 ≤ 9223372036854775807) :
    Calls Try.prog 3 #[.agg #[.int .i64 x, .int .i64 y, .slice ao n c], .agg #[.int .i64 x1, .int .i64 y1, .int .i64 p1, .int .i64 q1], .bool on] w fun e w' => e = .returned (.bool true) ∧ Below w.heap.size w w' := by
  cases hs : (decide (x ≤ 24) && decide (y ≤ 24) && okB x y bs) with
  | false => exact fillLaw_no x y ao n c bs x1 y1 p1 q1 on w h hs
  | true =>
    obtain ⟨v, u, rfl, rfl, hv, hu, hO⟩ := small_ok hs
    have hP1 : 1 ≤ v * u := Nat.mul_pos hO.w1 hO.h1
    have hlen := hO.len
    have hbn := h.len
    obtain ⟨a, rfl⟩ := h.isSome (by omega)
    cases on with
    | true => exact fillLaw_true v u a n c bs x1 y1 p1 q1 w h hO hv hu hb1 hb2 hb3 hb4
    | false => exact fillLaw_false v u a n c bs x1 y1 p1 q1 w h hO hv hu hb1 hb2 hb3 hb4
end Go.Proofs.Ytcgfoagfoncjiaa
