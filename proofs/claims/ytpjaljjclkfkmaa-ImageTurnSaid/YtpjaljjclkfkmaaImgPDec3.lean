/-
  The program's Decode.
-/
import Derived.Test.YtpjaljjclkfkmaaImgPDec2
import Derived.Test.YtpjaljjclkfkmaaImgReg
namespace Go.Proofs.Ytpjaljjclkfkmaa
open Go.RowKit Im

theorem join_two (x y : Nat) (hx : x ≤ 255) (hy : y ≤ 255) : bits BinOp.or IntKind.i64 ((x : Int) * 256) (y : Int) = ((x * 256 + y : Nat) : Int) := by
  rw [bits_join .i64 16 (by decide) (fun n h0 h1 => by rw [IntKind.wrap_i64]; omega) 8 _ _ (by omega) (by omega) (by omega) (by omega) (by omega) (by omega)]
  omega
theorem intsN_get (b : List Nat) (i : Nat) : ((intsN b).getD i 0).toNat = b.getD i 0 := by
  unfold intsN
  rw [List.getD_eq_getElem?_getD, List.getElem?_map, List.getD_eq_getElem?_getD]
  cases b[i]? <;> rfl
/-- The side that two bytes say. -/
def sideL (b : List Nat) : Nat := b.getD 0 0 * 256 + b.getD 1 0
set_option maxHeartbeats 1600000 in
set_option maxRecDepth 100000 in
theorem side_c (ao : Option Addr) (n c : Nat) (b : List Nat) (w : World) (h : Lst .u8 w ao n c (intsN b)) (hn : 2 ≤ n) :
    Calls Try.prog 48 #[.slice ao n c] w fun e w' => e = .returned (.int .i64 (sideL b : Int)) ∧ Below w.heap.size w w' := by
  obtain ⟨x0, hx0, g0, c0⟩ := h.at8 0 (by omega)
  obtain ⟨x1, hx1, g1, c1⟩ := h.at8 1 (by omega)
  have i0 := ix8 h 0 0 rfl (by omega)
  have i1 := ix8 h 1 1 rfl (by omega)
  have j0 := join_two x0 x1 g0 g1
  rw [intsN_get] at hx0 hx1
  obtain ⟨S, hS⟩ : ∃ S, Hid (sideL b = S) := ⟨_, rfl⟩
  have hv : x0 * 256 + x1 = S := by rw [← hS.out, ← hx0.out, ← hx1.out]; rfl
  rw [hv] at j0
  rw [hS.out]
  clear h hv hx0 hx1
  go_enter Try.func48, Try.ntmps48
  go_wp2_with fail
  go_quiet (fail)
  go_wp2_with fail
  go_ret
  exact ⟨by rfl, below_drewN (Below.refl _ _) _⟩
/-- What New left in an image: its parts, and the bytes behind. -/
def NewR (B : Nat) (x y : Int) (X Y Sv : Value) (eno : Int) (w : World) : Prop :=
  (∃ v u m gc : Nat, x = v ∧ y = u ∧ 1 ≤ v ∧ v ≤ 512 ∧ 1 ≤ u ∧ u ≤ 512 ∧ m = (v * u + 7) / 8 ∧ X = .int .i64 (v : Int) ∧ Y = .int .i64 (u : Int) ∧ Sv = .slice (some ⟨gc, 0, none⟩) m m ∧ eno = 0 ∧ Own 5 .u8 B w (some ⟨gc, 0, none⟩) m m (packP noB m)) ∨
  (¬ (1 ≤ x ∧ x ≤ 512 ∧ 1 ≤ y ∧ y ≤ 512) ∧ X = .int .i64 0 ∧ Y = .int .i64 0 ∧ Sv = .slice none 0 0 ∧ eno = 4)
/-- Block g is none of an image's bytes. -/
def NeG (g : Nat) (Sv : Value) : Prop := ∀ gc m : Nat, Sv = .slice (some ⟨gc, 0, none⟩) m m → gc ≠ g
theorem newR_of {B : Nat} {x y : Int} {e : Ending} {w : World} (h : NewOut B x y e w) : ∃ X Y Sv eno, e = .returned (.tuple #[.agg #[X, Y, Sv], .int .i64 eno]) ∧ NewR B x y X Y Sv eno w ∧ ∀ v ∈ [X, Y, Sv], v.oneCell' = true := by
  rcases h with ⟨v, u, m, gc, h1, h2, h3, h4, h5, h6, h7, rfl, O⟩ | ⟨h1, rfl⟩
  · exact ⟨_, _, _, _, rfl, Or.inl ⟨v, u, m, gc, h1, h2, h3, h4, h5, h6, h7, rfl, rfl, rfl, rfl, O⟩, by intro v hv; simp at hv; rcases hv with rfl | rfl | rfl <;> rfl⟩
  · exact ⟨_, _, _, _, rfl, Or.inr ⟨h1, rfl, rfl, rfl, rfl⟩, by intro v hv; simp at hv; rcases hv with rfl | rfl <;> rfl⟩
section
variable {B : Nat} {x y : Int} {X Y Sv : Value} {eno : Int} {w w' : World} {g : Nat}
theorem NewR.kept (h : NewR B x y X Y Sv eno w) (k : Below w.heap.size w w') : NewR B x y X Y Sv eno w' := by
  rcases h with ⟨v, u, m, gc, h1, h2, h3, h4, h5, h6, h7, h8, h9, ha, hb, O⟩ | h
  · exact Or.inl ⟨v, u, m, gc, h1, h2, h3, h4, h5, h6, h7, h8, h9, ha, hb, O.kept k⟩
  · exact Or.inr h
theorem NewR.mono {B' : Nat} (h : NewR B x y X Y Sv eno w) (k : B' ≤ B) : NewR B' x y X Y Sv eno w := by
  rcases h with ⟨v, u, m, gc, h1, h2, h3, h4, h5, h6, h7, h8, h9, ha, hb, O⟩ | h
  · exact Or.inl ⟨v, u, m, gc, h1, h2, h3, h4, h5, h6, h7, h8, h9, ha, hb, ⟨O.1.mono k, O.2⟩⟩
  · exact Or.inr h
theorem NewR.ne_lo (h : NewR B x y X Y Sv eno w) (hg : g < B) : NeG g Sv := by
  intro gc m e
  rcases h with ⟨v, u, m', gc', h1, h2, h3, h4, h5, h6, h7, h8, h9, ha, hb, O⟩ | ⟨_, _, _, ha, _⟩
  · rw [ha] at e
    injection e with e _ _
    injection e with e
    injection e with e
    have := (World.ownsRow.lt O.1 gc' rfl).1
    omega
  · rw [ha] at e
    injection e with e _ _
    cases e
theorem NewR.ne_hi (h : NewR B x y X Y Sv eno w) (hg : w.heap.size ≤ g) : NeG g Sv := by
  intro gc m e
  rcases h with ⟨v, u, m', gc', h1, h2, h3, h4, h5, h6, h7, h8, h9, ha, hb, O⟩ | ⟨_, _, _, ha, _⟩
  · rw [ha] at e
    injection e with e _ _
    injection e with e
    injection e with e
    have := (World.ownsRow.lt O.1 gc' rfl).2
    omega
  · rw [ha] at e
    injection e with e _ _
    cases e
theorem NewR.grown (h : NewR B x y X Y Sv eno w) (k : w.grownBy w' (some g)) (hne : NeG g Sv) : NewR B x y X Y Sv eno w' := by
  rcases h with ⟨v, u, m, gc, h1, h2, h3, h4, h5, h6, h7, h8, h9, ha, hb, O⟩ | h
  · refine Or.inl ⟨v, u, m, gc, h1, h2, h3, h4, h5, h6, h7, h8, h9, ha, hb, ⟨O.1.kept k (Or.inr (fun e => ?_)), O.2⟩⟩
    have := hne gc m ha
    injection e with e
    exact this e
  · exact Or.inr h
end
/-- No image has this encoding. -/
def NoImg (b : List Nat) : Prop := ∀ (v u : Nat) (bs : List Int), OkI v u bs → (∀ x ∈ bs, 0 ≤ x ∧ x ≤ 255) → encP v u (bitL bs) ≠ b
/-- What an encoding begins with. -/
theorem enc_head {v u : Nat} {f : Nat → Bool} {b : List Nat} (hv : v ≤ 512) (hu : u ≤ 512) (h : encP v u f = b) : sideL b = v ∧ sideL (b.drop 2) = u ∧ b.drop 4 = encR (bitsFrom f 0 (v * u)) 0 false ∧ 4 ≤ b.length := by
  obtain ⟨R, hR⟩ : ∃ R, encR (bitsFrom f 0 (v * u)) 0 false = R := ⟨_, rfl⟩
  have e : b = (v / 256 % 256) :: (v % 256) :: (u / 256 % 256) :: (u % 256) :: encR (bitsFrom f 0 (v * u)) 0 false := h.symm
  rw [hR] at e ⊢
  clear h hR
  subst e
  refine ⟨?_, ?_, rfl, by simp only [List.length_cons]; omega⟩
  · show v / 256 % 256 * 256 + v % 256 = v
    omega
  · show u / 256 % 256 * 256 + u % 256 = u
    omega
theorem enc_of {v u : Nat} {f : Nat → Bool} {b : List Nat} (hv : v ≤ 512) (hu : u ≤ 512) (h4 : 4 ≤ b.length) (hb : ∀ x ∈ b, x ≤ 255) (h1 : sideL b = v) (h2 : sideL (b.drop 2) = u) (h3 : encR (bitsFrom f 0 (v * u)) 0 false = b.drop 4) : encP v u f = b := by
  obtain ⟨b0, b1, b2, b3, r, rfl⟩ : ∃ b0 b1 b2 b3 r, b = b0 :: b1 :: b2 :: b3 :: r := by
    rcases b with _ | ⟨b0, _ | ⟨b1, _ | ⟨b2, _ | ⟨b3, r⟩⟩⟩⟩
    · simp at h4
    · simp at h4
    · simp at h4
    · simp at h4
    · exact ⟨b0, b1, b2, b3, r, rfl⟩
  have q0 := hb b0 (by simp)
  have q1 := hb b1 (by simp)
  have q2 := hb b2 (by simp)
  have q3 := hb b3 (by simp)
  have h1 : b0 * 256 + b1 = v := h1
  have h2 : b2 * 256 + b3 = u := h2
  have h3 : encR (bitsFrom f 0 (v * u)) 0 false = r := h3
  unfold encP two
  rw [h3]
  clear hb h4 h3
  have e1 : v / 256 % 256 = b0 := by omega
  have e2 : v % 256 = b1 := by omega
  have e3 : u / 256 % 256 = b2 := by omega
  have e4 : u % 256 = b3 := by omega
  rw [e1, e2, e3, e4]
  rfl
/-- What Decode hands back. -/
def DecOut (B : Nat) (w' : World) (b : List Nat) (e : Ending) : Prop :=
  (∃ (v u : Nat) (bs : List Int) (gc m d : Nat), e = .returned (.tuple #[.agg #[.int .i64 (v : Int), .int .i64 (u : Int), .slice (some ⟨gc, 0, none⟩) m d], .bool true]) ∧ OkI v u bs ∧ (∀ x ∈ bs, 0 ≤ x ∧ x ≤ 255) ∧ encP v u (bitL bs) = b ∧ Own 5 .u8 B w' (some ⟨gc, 0, none⟩) m d bs) ∨
  (e = .returned (.tuple #[.agg #[.int .i64 0, .int .i64 0, .slice none 0 0], .bool false]) ∧ NoImg b)
set_option maxHeartbeats 6400000 in
set_option maxRecDepth 100000 in
theorem dec_c (ao : Option Addr) (n c : Nat) (b : List Nat) (w : World) (h : Lst .u8 w ao n c (intsN b)) (hn : n ≤ 1000000000) :
    Calls Try.prog 32 #[.slice ao n c] w fun e w' => DecOut w.heap.size w' b e ∧ Below w.heap.size w w' := by
  have hbl : b.length = n := by rw [← intsN_len]; exact h.len
  have hby : ∀ x ∈ b, x ≤ 255 := by
    intro x hx
    have h1 := h.bytes (x : Int) (by unfold intsN; exact List.mem_map.2 ⟨x, hx, rfl⟩)
    omega
  obtain ⟨V, e1, AV, BV, hz⟩ := new_img w 0 0 none 0 0
  by_cases h4 : n < 4
  · have h4' : (n : Int) < 4 := by omega
    have hno : Hid (NoImg b) := fun v u bs hO _ e => by have := (enc_head hO.w2 hO.h2 e).2.2.2; omega
    obtain ⟨W, e2, A2, GW, hWz, k0, k1, k2, k3, k4, k5, r0, r1, r2⟩ := put_img AV (.int .i64 0) (.int .i64 0) (.slice none 0 0)
    have hB : Hid (Below w.heap.size w W) := below_grown BV GW (by omega) (Nat.le_refl _)
    clear AV BV hz h A2 GW hWz hby hbl
    go_enter Try.func32, Try.ntmps32
    go_wp2_with fail
    refine bodyPost_ret (v := .tuple #[.agg #[.int .i64 0, .int .i64 0, .slice none 0 0], .bool false]) (by simp [results, Try.results32, go_sem, r0, r1, r2]) rfl ?_
    exact ⟨Or.inr ⟨rfl, hno.out⟩, hB.out⟩
  have h4' : ¬ (n : Int) < 4 := by omega
  have HL : Hid (∀ W, Below V.heap.size V W → Lst .u8 W ao n c (intsN b)) := fun W hb => (h.below BV).below hb
  obtain ⟨x, hx⟩ : ∃ x, Hid (sideL b = x) := ⟨_, rfl⟩
  obtain ⟨y, hy⟩ : ∃ x, Hid (sideL (b.drop 2) = x) := ⟨_, rfl⟩
  have HS1 : Hid (∀ W, Below V.heap.size V W → Calls Try.prog 48 #[.slice ao n c] W fun e w' => e = .returned (.int .i64 (x : Int)) ∧ Below W.heap.size W w') := fun W hb => by
    have := side_c ao n c b W (HL.out W hb) (by omega)
    rw [hx.out] at this
    exact this
  have HS2 : Hid (∀ W, Below V.heap.size V W → Calls Try.prog 48 #[.slice (cutA ao c 2) (n - 2) (c - 2)] W fun e w' => e = .returned (.int .i64 (y : Int)) ∧ Below W.heap.size W w') := fun W hb => by
    have h1 := (HL.out W hb).cut (j := 2) (by omega)
    rw [intsN_drop] at h1
    have := side_c (cutA ao c 2) (n - 2) (c - 2) (b.drop 2) W h1 (by omega)
    rw [hy.out] at this
    exact this
  have HNw : Hid (∀ W, Below V.heap.size V W → Calls Try.prog 13 #[.int .i64 (x : Int), .int .i64 (y : Int)] W fun e w' => (∃ X Y Sv eno, e = .returned (.tuple #[.agg #[X, Y, Sv], .int .i64 eno]) ∧ NewR W.heap.size x y X Y Sv eno w' ∧ ∀ v ∈ [X, Y, Sv], v.oneCell' = true) ∧ Below W.heap.size W w') := fun W _ => (new_c x y W).mono fun e w' h => ⟨newR_of h.1, h.2⟩
  have hsl2 : ∀ W, (Instr.slice 22 (.slice ao n c) (some (.int .i64 2)) none none).run Try.prog W = .ok (.slice (cutA ao c 2) (n - 2) (c - 2)) W := slice_from ao n c 2 (by omega)
  have hsl4 : ∀ W, (Instr.slice 22 (.slice ao n c) (some (.int .i64 4)) none none).run Try.prog W = .ok (.slice (cutA ao c 4) (n - 4) (c - 4)) W := slice_from ao n c 4 (by omega)
  have hc4 : 4 ≤ c := by have := h.cap; omega
  have hcap := h.cap
  have HAV := Lib.hid AV
  have HBV := Lib.hid BV
  have hbyH := Lib.hid hby
  have hblH := Lib.hid hbl
  clear AV BV h hby hbl
  go_enter Try.func32, Try.ntmps32
  go_wp2_with fail
  go_cut [4, 5] from 10 to 29 (fun s4 s5 wx => ∃ (g : Nat) (X Y Sv : Value) (eno : Int), s4 = .pointer (some ⟨g, 0, none⟩) ∧ s5 = .int .i64 eno ∧ Arr wx g 24 [X, Y, Sv] ∧ NewR V.heap.size x y X Y Sv eno wx ∧ Below V.heap.size V wx ∧ V.heap.size ≤ g ∧ NeG g Sv)
  case first =>
    refine wp_region_held_drew (S := fun w' => Below V.heap.size V w') (by kernel_rfl) ((Below.refl _ _).drew) (fun hHeld => ?_)
    refine reg_take (i := 0) rfl (by kernel_rfl) (by kernel_rfl) (by kernel_rfl) (fun _ _ _ h => h) (by rfl) hHeld (v := ?v1) ?hy1 ?rest1
    case hy1 => (intro w' hSw; go_simp <;> try rfl)
    try simp only [Act.put, List.setIfInBounds_toArray, List.set_cons_zero, List.set_cons_succ]
    refine reg_take (i := 2) rfl (by kernel_rfl) (by kernel_rfl) (by kernel_rfl) (fun _ _ _ h => h) (by rfl) hHeld (v := ?v2) ?hy2 ?rest2
    case hy2 => (intro w' hSw; go_simp <;> try rfl)
    try simp only [Act.put, List.setIfInBounds_toArray, List.set_cons_zero, List.set_cons_succ]
    refine reg_take (i := 3) rfl (by kernel_rfl) (by kernel_rfl) (by kernel_rfl) (fun _ _ _ h => h) (by rfl) hHeld (v := ?v3) ?hy3 ?rest3
    case hy3 => (intro w' hSw; go_simp <;> try rfl)
    try simp only [Act.put, List.setIfInBounds_toArray, List.set_cons_zero, List.set_cons_succ]
    refine wpAnyH_ready (rs := [1, 9]) (by kernel_rfl) (by simp) ?_
    refine reg_cons rfl (by rfl) (fun K hK => ?_) ?_
    · go_simp
      refine (HS1.out _ hHeld).mono ?_
      rintro e W3 ⟨rfl, b3⟩
      refine hK.out _ _ (hHeld.trans (b3.mono hHeld.size)) (fun hHeld => ?_)
      clear hK K
      try simp only [Act.put, List.setIfInBounds_toArray, List.set_cons_zero, List.set_cons_succ]
      refine wpAnyH_ready (rs := [4, 9]) (by kernel_rfl) (by simp) ?_
      refine reg_cons rfl (by rfl) (fun K hK => ?_) ?_
      · go_simp
        refine (HS2.out _ hHeld).mono ?_
        rintro e W4 ⟨rfl, b4⟩
        refine hK.out _ _ (hHeld.trans (b4.mono hHeld.size)) (fun hHeld => ?_)
        clear hK K
        try simp only [Act.put, List.setIfInBounds_toArray, List.set_cons_zero, List.set_cons_succ]
        refine wpAnyH_ready (rs := [5, 9]) (by kernel_rfl) (by simp) ?_
        refine reg_cons rfl (by rfl) (fun K hK => ?_) ?_
        · go_simp
          refine (HNw.out _ hHeld).mono ?_
          rintro e W5 ⟨⟨X5, Y5, S5, q5, rfl, N5, O5⟩, b5⟩
          have Z5 := N5.mono hHeld.size
          refine hK.out _ _ (hHeld.trans (b5.mono hHeld.size)) (fun hHeld => ?_)
          clear hK K
          try simp only [Act.put, List.setIfInBounds_toArray, List.set_cons_zero, List.set_cons_succ]
          refine reg_take (i := 6) rfl (by kernel_rfl) (by kernel_rfl) (by kernel_rfl) (fun _ _ _ h => h) (by rfl) hHeld (v := ?v7) ?hy7 ?rest7
          case hy7 => (intro w' hSw; go_simp <;> try rfl)
          try simp only [Act.put, List.setIfInBounds_toArray, List.set_cons_zero, List.set_cons_succ]
          refine reg_take (i := 7) rfl (by kernel_rfl) (by kernel_rfl) (by kernel_rfl) (fun _ _ _ h => h) (by rfl) hHeld (v := ?v8) ?hy8 ?rest8
          case hy8 => (intro w' hSw; go_simp <;> try rfl)
          try simp only [Act.put, List.setIfInBounds_toArray, List.set_cons_zero, List.set_cons_succ]
          refine reg_take (i := 8) rfl (by kernel_rfl) (by kernel_rfl) (by kernel_rfl) (fun _ _ _ h => h) (by rfl) hHeld (v := ?v9) ?hy9 ?rest9
          case hy9 => (intro w' hSw; go_simp <;> try rfl)
          try simp only [Act.put, List.setIfInBounds_toArray, List.set_cons_zero, List.set_cons_succ]
          refine wpAnyH_ready (rs := [9]) (by kernel_rfl) (by simp) ?_
          refine reg_cons rfl (by rfl) (fun K hK => ?_) ?_
          · refine wp_alloc_img ?_
            intro W9 g9 A9 b9 h9
            have k9 := Nat.le_trans hHeld.size h9
            have N9 := Z5.kept b9
            have ne9 := Z5.ne_hi h9
            refine hK.out _ _ (hHeld.trans (b9.mono hHeld.size)) (fun hHeld => ?_)
            clear hK K
            try simp only [Act.put, List.setIfInBounds_toArray, List.set_cons_zero, List.set_cons_succ]
            refine wpAnyH_ready (rs := [10]) (by kernel_rfl) (by simp) ?_
            refine reg_cons rfl (by rfl) (fun K hK => ?_) ?_
            · refine wp_store_img A9 rfl rfl O5 ?_
              intro W10 A10 G10
              have N10 := N9.grown G10 ne9
              refine hK.out _ _ (below_grown hHeld G10 hHeld.size k9) (fun hHeld => ?_)
              clear hK K
              try simp only [Act.put, List.setIfInBounds_toArray, List.set_cons_zero, List.set_cons_succ]
              refine reg_take (i := 11) rfl (by kernel_rfl) (by kernel_rfl) (by kernel_rfl) (fun _ _ _ h => h) (by rfl) hHeld (v := ?v12) ?hy12 ?rest12
              case hy12 => (intro w' hSw; go_simp <;> try rfl)
              try simp only [Act.put, List.setIfInBounds_toArray, List.set_cons_zero, List.set_cons_succ]
              refine wpAnyH_done (by kernel_rfl) ?_ _
              go_wp2_with fail; go_meet; exact ⟨g9, X5, Y5, S5, q5, rfl, rfl, A10, N10, hHeld, k9, ne9⟩
            exact AllReadyH.nil
          exact AllReadyH.nil
        refine reg_cons rfl (by rfl) (fun K hK => ?_) ?_
        · refine wp_alloc_img ?_
          intro W12 g12 A12 b12 h12
          have k12 := Nat.le_trans hHeld.size h12
          refine hK.out _ _ (hHeld.trans (b12.mono hHeld.size)) (fun hHeld => ?_)
          clear hK K
          try simp only [Act.put, List.setIfInBounds_toArray, List.set_cons_zero, List.set_cons_succ]
          refine wpAnyH_ready (rs := [5]) (by kernel_rfl) (by simp) ?_
          refine reg_cons rfl (by rfl) (fun K hK => ?_) ?_
          · go_simp
            have lo13 := A12.lt
            refine (HNw.out _ hHeld).mono ?_
            rintro e W13 ⟨⟨X13, Y13, S13, q13, rfl, N13, O13⟩, b13⟩
            have A13 := A12.kept b13
            have ne13 := N13.ne_lo lo13
            have Z13 := N13.mono hHeld.size
            refine hK.out _ _ (hHeld.trans (b13.mono hHeld.size)) (fun hHeld => ?_)
            clear hK K
            try simp only [Act.put, List.setIfInBounds_toArray, List.set_cons_zero, List.set_cons_succ]
            refine reg_take (i := 6) rfl (by kernel_rfl) (by kernel_rfl) (by kernel_rfl) (fun _ _ _ h => h) (by rfl) hHeld (v := ?v15) ?hy15 ?rest15
            case hy15 => (intro w' hSw; go_simp <;> try rfl)
            try simp only [Act.put, List.setIfInBounds_toArray, List.set_cons_zero, List.set_cons_succ]
            refine reg_take (i := 7) rfl (by kernel_rfl) (by kernel_rfl) (by kernel_rfl) (fun _ _ _ h => h) (by rfl) hHeld (v := ?v16) ?hy16 ?rest16
            case hy16 => (intro w' hSw; go_simp <;> try rfl)
            try simp only [Act.put, List.setIfInBounds_toArray, List.set_cons_zero, List.set_cons_succ]
            refine reg_take (i := 8) rfl (by kernel_rfl) (by kernel_rfl) (by kernel_rfl) (fun _ _ _ h => h) (by rfl) hHeld (v := ?v17) ?hy17 ?rest17
            case hy17 => (intro w' hSw; go_simp <;> try rfl)
            try simp only [Act.put, List.setIfInBounds_toArray, List.set_cons_zero, List.set_cons_succ]
            refine wpAnyH_ready (rs := [10]) (by kernel_rfl) (by simp) ?_
            refine reg_cons rfl (by rfl) (fun K hK => ?_) ?_
            · refine wp_store_img A13 rfl rfl O13 ?_
              intro W17 A17 G17
              have N17 := Z13.grown G17 ne13
              refine hK.out _ _ (below_grown hHeld G17 hHeld.size k12) (fun hHeld => ?_)
              clear hK K
              try simp only [Act.put, List.setIfInBounds_toArray, List.set_cons_zero, List.set_cons_succ]
              refine reg_take (i := 11) rfl (by kernel_rfl) (by kernel_rfl) (by kernel_rfl) (fun _ _ _ h => h) (by rfl) hHeld (v := ?v19) ?hy19 ?rest19
              case hy19 => (intro w' hSw; go_simp <;> try rfl)
              try simp only [Act.put, List.setIfInBounds_toArray, List.set_cons_zero, List.set_cons_succ]
              refine wpAnyH_done (by kernel_rfl) ?_ _
              go_wp2_with fail; go_meet; exact ⟨g12, X13, Y13, S13, q13, rfl, rfl, A17, N17, hHeld, k12, ne13⟩
            exact AllReadyH.nil
          exact AllReadyH.nil
        exact AllReadyH.nil
      refine reg_cons rfl (by rfl) (fun K hK => ?_) ?_
      · refine wp_alloc_img ?_
        intro W19 g19 A19 b19 h19
        have k19 := Nat.le_trans hHeld.size h19
        refine hK.out _ _ (hHeld.trans (b19.mono hHeld.size)) (fun hHeld => ?_)
        clear hK K
        try simp only [Act.put, List.setIfInBounds_toArray, List.set_cons_zero, List.set_cons_succ]
        refine wpAnyH_ready (rs := [4]) (by kernel_rfl) (by simp) ?_
        refine reg_cons rfl (by rfl) (fun K hK => ?_) ?_
        · go_simp
          refine (HS2.out _ hHeld).mono ?_
          rintro e W20 ⟨rfl, b20⟩
          have A20 := A19.kept b20
          refine hK.out _ _ (hHeld.trans (b20.mono hHeld.size)) (fun hHeld => ?_)
          clear hK K
          try simp only [Act.put, List.setIfInBounds_toArray, List.set_cons_zero, List.set_cons_succ]
          refine wpAnyH_ready (rs := [5]) (by kernel_rfl) (by simp) ?_
          refine reg_cons rfl (by rfl) (fun K hK => ?_) ?_
          · go_simp
            have lo21 := A20.lt
            refine (HNw.out _ hHeld).mono ?_
            rintro e W21 ⟨⟨X21, Y21, S21, q21, rfl, N21, O21⟩, b21⟩
            have A21 := A20.kept b21
            have ne21 := N21.ne_lo lo21
            have Z21 := N21.mono hHeld.size
            refine hK.out _ _ (hHeld.trans (b21.mono hHeld.size)) (fun hHeld => ?_)
            clear hK K
            try simp only [Act.put, List.setIfInBounds_toArray, List.set_cons_zero, List.set_cons_succ]
            refine reg_take (i := 6) rfl (by kernel_rfl) (by kernel_rfl) (by kernel_rfl) (fun _ _ _ h => h) (by rfl) hHeld (v := ?v23) ?hy23 ?rest23
            case hy23 => (intro w' hSw; go_simp <;> try rfl)
            try simp only [Act.put, List.setIfInBounds_toArray, List.set_cons_zero, List.set_cons_succ]
            refine reg_take (i := 7) rfl (by kernel_rfl) (by kernel_rfl) (by kernel_rfl) (fun _ _ _ h => h) (by rfl) hHeld (v := ?v24) ?hy24 ?rest24
            case hy24 => (intro w' hSw; go_simp <;> try rfl)
            try simp only [Act.put, List.setIfInBounds_toArray, List.set_cons_zero, List.set_cons_succ]
            refine reg_take (i := 8) rfl (by kernel_rfl) (by kernel_rfl) (by kernel_rfl) (fun _ _ _ h => h) (by rfl) hHeld (v := ?v25) ?hy25 ?rest25
            case hy25 => (intro w' hSw; go_simp <;> try rfl)
            try simp only [Act.put, List.setIfInBounds_toArray, List.set_cons_zero, List.set_cons_succ]
            refine wpAnyH_ready (rs := [10]) (by kernel_rfl) (by simp) ?_
            refine reg_cons rfl (by rfl) (fun K hK => ?_) ?_
            · refine wp_store_img A21 rfl rfl O21 ?_
              intro W25 A25 G25
              have N25 := Z21.grown G25 ne21
              refine hK.out _ _ (below_grown hHeld G25 hHeld.size k19) (fun hHeld => ?_)
              clear hK K
              try simp only [Act.put, List.setIfInBounds_toArray, List.set_cons_zero, List.set_cons_succ]
              refine reg_take (i := 11) rfl (by kernel_rfl) (by kernel_rfl) (by kernel_rfl) (fun _ _ _ h => h) (by rfl) hHeld (v := ?v27) ?hy27 ?rest27
              case hy27 => (intro w' hSw; go_simp <;> try rfl)
              try simp only [Act.put, List.setIfInBounds_toArray, List.set_cons_zero, List.set_cons_succ]
              refine wpAnyH_done (by kernel_rfl) ?_ _
              go_wp2_with fail; go_meet; exact ⟨g19, X21, Y21, S21, q21, rfl, rfl, A25, N25, hHeld, k19, ne21⟩
            exact AllReadyH.nil
          exact AllReadyH.nil
        exact AllReadyH.nil
      exact AllReadyH.nil
    refine reg_cons rfl (by rfl) (fun K hK => ?_) ?_
    · refine wp_alloc_img ?_
      intro W27 g27 A27 b27 h27
      have k27 := Nat.le_trans hHeld.size h27
      refine hK.out _ _ (hHeld.trans (b27.mono hHeld.size)) (fun hHeld => ?_)
      clear hK K
      try simp only [Act.put, List.setIfInBounds_toArray, List.set_cons_zero, List.set_cons_succ]
      refine wpAnyH_ready (rs := [1]) (by kernel_rfl) (by simp) ?_
      refine reg_cons rfl (by rfl) (fun K hK => ?_) ?_
      · go_simp
        refine (HS1.out _ hHeld).mono ?_
        rintro e W28 ⟨rfl, b28⟩
        have A28 := A27.kept b28
        refine hK.out _ _ (hHeld.trans (b28.mono hHeld.size)) (fun hHeld => ?_)
        clear hK K
        try simp only [Act.put, List.setIfInBounds_toArray, List.set_cons_zero, List.set_cons_succ]
        refine wpAnyH_ready (rs := [4]) (by kernel_rfl) (by simp) ?_
        refine reg_cons rfl (by rfl) (fun K hK => ?_) ?_
        · go_simp
          refine (HS2.out _ hHeld).mono ?_
          rintro e W29 ⟨rfl, b29⟩
          have A29 := A28.kept b29
          refine hK.out _ _ (hHeld.trans (b29.mono hHeld.size)) (fun hHeld => ?_)
          clear hK K
          try simp only [Act.put, List.setIfInBounds_toArray, List.set_cons_zero, List.set_cons_succ]
          refine wpAnyH_ready (rs := [5]) (by kernel_rfl) (by simp) ?_
          refine reg_cons rfl (by rfl) (fun K hK => ?_) ?_
          · go_simp
            have lo30 := A29.lt
            refine (HNw.out _ hHeld).mono ?_
            rintro e W30 ⟨⟨X30, Y30, S30, q30, rfl, N30, O30⟩, b30⟩
            have A30 := A29.kept b30
            have ne30 := N30.ne_lo lo30
            have Z30 := N30.mono hHeld.size
            refine hK.out _ _ (hHeld.trans (b30.mono hHeld.size)) (fun hHeld => ?_)
            clear hK K
            try simp only [Act.put, List.setIfInBounds_toArray, List.set_cons_zero, List.set_cons_succ]
            refine reg_take (i := 6) rfl (by kernel_rfl) (by kernel_rfl) (by kernel_rfl) (fun _ _ _ h => h) (by rfl) hHeld (v := ?v32) ?hy32 ?rest32
            case hy32 => (intro w' hSw; go_simp <;> try rfl)
            try simp only [Act.put, List.setIfInBounds_toArray, List.set_cons_zero, List.set_cons_succ]
            refine reg_take (i := 7) rfl (by kernel_rfl) (by kernel_rfl) (by kernel_rfl) (fun _ _ _ h => h) (by rfl) hHeld (v := ?v33) ?hy33 ?rest33
            case hy33 => (intro w' hSw; go_simp <;> try rfl)
            try simp only [Act.put, List.setIfInBounds_toArray, List.set_cons_zero, List.set_cons_succ]
            refine reg_take (i := 8) rfl (by kernel_rfl) (by kernel_rfl) (by kernel_rfl) (fun _ _ _ h => h) (by rfl) hHeld (v := ?v34) ?hy34 ?rest34
            case hy34 => (intro w' hSw; go_simp <;> try rfl)
            try simp only [Act.put, List.setIfInBounds_toArray, List.set_cons_zero, List.set_cons_succ]
            refine wpAnyH_ready (rs := [10]) (by kernel_rfl) (by simp) ?_
            refine reg_cons rfl (by rfl) (fun K hK => ?_) ?_
            · refine wp_store_img A30 rfl rfl O30 ?_
              intro W34 A34 G34
              have N34 := Z30.grown G34 ne30
              refine hK.out _ _ (below_grown hHeld G34 hHeld.size k27) (fun hHeld => ?_)
              clear hK K
              try simp only [Act.put, List.setIfInBounds_toArray, List.set_cons_zero, List.set_cons_succ]
              refine reg_take (i := 11) rfl (by kernel_rfl) (by kernel_rfl) (by kernel_rfl) (fun _ _ _ h => h) (by rfl) hHeld (v := ?v36) ?hy36 ?rest36
              case hy36 => (intro w' hSw; go_simp <;> try rfl)
              try simp only [Act.put, List.setIfInBounds_toArray, List.set_cons_zero, List.set_cons_succ]
              refine wpAnyH_done (by kernel_rfl) ?_ _
              go_wp2_with fail; go_meet; exact ⟨g27, X30, Y30, S30, q30, rfl, rfl, A34, N34, hHeld, k27, ne30⟩
            exact AllReadyH.nil
          exact AllReadyH.nil
        exact AllReadyH.nil
      exact AllReadyH.nil
    exact AllReadyH.nil
  case rest =>
    obtain ⟨g, X, Y, Sv, eno, rfl, rfl, AG, NR, BG, hgV, hNe⟩ := hcut
    obtain ⟨v1, hv1⟩ : ∃ y, y = wc := ⟨_, rfl⟩
    subst hv1
    have hwV : V.heap.size = w.heap.size + 1 := hz
    have A0 := HAV.out.kept BG
    rcases NR with ⟨v, u, m, gc, ev, eu, a1, a2, a3, a4, hm, rfl, rfl, rfl, rfl, O⟩ | ⟨hno, rfl, rfl, rfl, rfl⟩
    · have hgg : gc ≠ g := hNe gc m rfl
      have hgc := (World.ownsRow.lt O.1 gc rfl).1
      have hgw : gc ≠ w.heap.size := by omega
      have hmH := Lib.hid hm
      clear hm
      have hxv : x = v := by omega
      have hyu : y = u := by omega
      have k0 : v1.cell? ⟨g, 0, none⟩ = some (.int .i64 (v : Int)) := AG.cell 0
      have k1 : v1.cell? ⟨g, 1, none⟩ = some (.int .i64 (u : Int)) := AG.cell 1
      have k2 : v1.cell? ⟨g, 2, none⟩ = some (.slice (some ⟨gc, 0, none⟩) m m) := AG.cell 2
      have HR : Hid (Calls Try.prog 49 #[.agg #[.int .i64 (v : Int), .int .i64 (u : Int), .slice (some ⟨gc, 0, none⟩) m m], .slice (cutA ao c 4) (n - 4) (c - 4)] v1.drew (RunsOut V.heap.size v1.drew gc m m (v * u) (b.drop 4))) := by
        refine setRuns_c v u V.heap.size gc m m (cutA ao c 4) (n - 4) (c - 4) (b.drop 4) v1.drew O ⟨a1, a2, a3, a4⟩ hmH.out (fun W hW => ?_) (by omega) (by rw [List.length_drop, hblH.out])
        have h1 := (HL.out W (below_grown BG.drew hW BG.size hgc)).cut (j := 4) (by omega)
        rw [intsN_drop] at h1
        exact h1
      have hend : Hid (∀ e W, RunsOut V.heap.size v1.drew gc m m (v * u) (b.drop 4) e W → ∃ r, e = .returned (.bool r) ∧ Arr W w.heap.size 24 [.int .i64 0, .int .i64 0, .slice none 0 0] ∧ W.cell? ⟨g, 0, none⟩ = some (.int .i64 (v : Int)) ∧ W.cell? ⟨g, 1, none⟩ = some (.int .i64 (u : Int)) ∧ W.cell? ⟨g, 2, none⟩ = some (.slice (some ⟨gc, 0, none⟩) m m) ∧ Hid (∀ Z, W.grownBy Z (some w.heap.size) → Below w.heap.size w Z ∧ (r = true → ∃ bs, OkI v u bs ∧ (∀ x ∈ bs, 0 ≤ x ∧ x ≤ 255) ∧ encP v u (bitL bs) = b ∧ Own 5 .u8 w.heap.size Z (some ⟨gc, 0, none⟩) m m bs)) ∧ Hid (r = false → NoImg b)) := by
        refine Lib.hid (fun e W h => ?_)
        obtain ⟨hr, GW⟩ := h
        have BW : Below V.heap.size V W := below_grown BG.drew GW BG.size hgc
        have c0 := cell_grown (w := v1.drew) k0 (fun e => hgg e.symm) GW
        have c1 := cell_grown (w := v1.drew) k1 (fun e => hgg e.symm) GW
        have c2 := cell_grown (w := v1.drew) k2 (fun e => hgg e.symm) GW
        have hZ : ∀ Z, W.grownBy Z (some w.heap.size) → Below w.heap.size w Z := fun Z hZ => below_grown (HBV.out.trans (BW.mono HBV.out.size)) hZ (by have := HBV.out.size; have := BW.size; omega) (Nat.le_refl _)
        rcases hr with ⟨D, rfl, hD, hE, OW⟩ | ⟨rfl, hn'⟩
        · refine ⟨true, rfl, HAV.out.kept BW, c0, c1, c2, Lib.hid (fun Z gZ => ⟨hZ Z gZ, fun _ => ⟨_, okD a1 a2 a3 a4 hD, ?_, ?_, ?_⟩⟩), Lib.hid (fun h => by cases h)⟩
          · exact packP_bytes _ _
          · have hb4 : 4 ≤ b.length := by rw [hblH.out]; omega
            refine enc_of a2 a4 hb4 hbyH.out (hx.out.trans hxv) (hy.out.trans hyu) ?_
            rw [bitsFrom_D hD]
            exact hE
          · rw [← hmH.out]
            exact ⟨(OW.1.mono (by omega)).kept gZ (Or.inr (fun e => hgw (by injection e))), OW.2⟩
        · refine ⟨false, rfl, HAV.out.kept BW, c0, c1, c2, Lib.hid (fun Z gZ => ⟨hZ Z gZ, fun h => by cases h⟩), Lib.hid (fun _ v' u' bs hO _ e => ?_)⟩
          obtain ⟨q1, q2, q3, _⟩ := enc_head hO.w2 hO.h2 e
          have e1 : v' = v := by rw [← q1, hx.out, hxv]
          have e2 : u' = u := by rw [← q2, hy.out, hyu]
          subst e1; subst e2
          exact hn' _ (bitsFrom_len _ _ _) q3.symm
      clear AG BG O hNe A0 HL HS1 HS2 HNw hbyH hblH
      go_wp2_with fail
      go_region_held3 (fun w' => w'.cell? ⟨g, 0, none⟩ = some (.int .i64 (v : Int)) ∧ w'.cell? ⟨g, 1, none⟩ = some (.int .i64 (u : Int)) ∧ w'.cell? ⟨g, 2, none⟩ = some (.slice (some ⟨gc, 0, none⟩) m m)) (go_keep) (first
        | (go_at_call 49; (with_reducible refine HR.out.mono ?_); rintro e W hW; obtain ⟨r, rfl, AW, d0, d1, d2, hZ, hF⟩ := hend.out _ _ hW; clear hW))
      cases r
      · obtain ⟨Z, m7, AZ, GZ, hZz, q0, q1, q2, q3, q4, q5, r0, r1, r2⟩ := put_img AW (.int .i64 0) (.int .i64 0) (.slice none 0 0)
        have hB := Lib.hid (hZ.out Z GZ).1
        clear AZ GZ AW HR hend
        go_wp2_with fail
        refine bodyPost_ret (v := .tuple #[.agg #[.int .i64 0, .int .i64 0, .slice none 0 0], .bool false]) (by simp [results, Try.results32, go_sem, r0, r1, r2]) rfl ?_
        exact ⟨Or.inr ⟨rfl, hF.out (by first | rfl | trivial)⟩, hB.out⟩
      · obtain ⟨Z, m7, AZ, GZ, hZz, q0, q1, q2, q3, q4, q5, r0, r1, r2⟩ := put_img AW (.int .i64 (v : Int)) (.int .i64 (u : Int)) (.slice (some ⟨gc, 0, none⟩) m m)
        have hB := hZ.out Z GZ
        obtain ⟨bs, O1, O2, O3, O4⟩ := hB.2 (by first | rfl | trivial)
        have hfin : Hid (DecOut w.heap.size Z b (.returned (.tuple #[.agg #[.int .i64 (v : Int), .int .i64 (u : Int), .slice (some ⟨gc, 0, none⟩) m m], .bool true])) ∧ Below w.heap.size w Z) := ⟨Or.inl ⟨v, u, bs, gc, m, m, rfl, O1, O2, O3, O4⟩, hB.1⟩
        clear AZ GZ AW HR hend hB O1 O2 O3 O4
        go_wp2_with fail
        refine bodyPost_ret (v := .tuple #[.agg #[.int .i64 (v : Int), .int .i64 (u : Int), .slice (some ⟨gc, 0, none⟩) m m], .bool true]) (by simp [results, Try.results32, go_sem, r0, r1, r2]) rfl ?_
        exact hfin.out
    · have hno2 : Hid (NoImg b) := fun v u bs hO _ e => by
        obtain ⟨q1, q2, _, _⟩ := enc_head hO.w2 hO.h2 e
        have := hO.w1; have := hO.w2; have := hO.h1; have := hO.h2; have := hx.out; have := hy.out
        exact hno (by omega)
      have hB0 : Hid (∀ q Z, (v1.drewN q).grownBy Z (some w.heap.size) → Below w.heap.size w Z) := fun q Z GZ => below_grown (below_drewN (HBV.out.trans (BG.mono HBV.out.size)) q) GZ (by have := HBV.out.size; have := BG.size; show _ ≤ v1.heap.size; omega) (Nat.le_refl _)
      have A0H := Lib.hid A0
      clear AG BG hNe A0
      go_wp2_with fail
      go_quiet (fail)
      obtain ⟨v2, hv2⟩ : ∃ x, x = v1.drewN nq := ⟨_, rfl⟩
      have A2 : Arr v2 w.heap.size 24 [.int .i64 0, .int .i64 0, .slice none 0 0] := by rw [hv2]; exact A0H.out
      have hB2 : Hid (∀ Z, v2.grownBy Z (some w.heap.size) → Below w.heap.size w Z) := by rw [hv2]; exact Lib.hid (hB0.out nq)
      rw [← hv2]
      clear hv2 A0H hB0 hno
      obtain ⟨Z, m7, AZ, GZ, hZz, q0, q1, q2, q3, q4, q5, r0, r1, r2⟩ := put_img A2 (.int .i64 0) (.int .i64 0) (.slice none 0 0)
      have hB := Lib.hid (hB2.out Z GZ)
      clear AZ GZ A2 hB2
      go_wp2_with fail
      refine bodyPost_ret (v := .tuple #[.agg #[.int .i64 0, .int .i64 0, .slice none 0 0], .bool false]) (by simp [results, Try.results32, go_sem, r0, r1, r2]) rfl ?_
      exact ⟨Or.inr ⟨rfl, hno2.out⟩, hB.out⟩
end Go.Proofs.Ytpjaljjclkfkmaa
