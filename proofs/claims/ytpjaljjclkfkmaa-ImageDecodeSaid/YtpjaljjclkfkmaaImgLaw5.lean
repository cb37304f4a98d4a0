/-
  The walk of ImageDecode.
-/
import Derived.Test.YtpjaljjclkfkmaaImgView
import Derived.Test.YtpjaljjclkfkmaaImgDec
import Derived.Test.YtpjaljjclkfkmaaImgLaw4
namespace Go.Proofs.Ytpjaljjclkfkmaa
open Go.RowKit Im

theorem intsN_of {xs : List Int} (h : ∀ x ∈ xs, 0 ≤ x ∧ x ≤ 255) : xs = intsN (xs.map Int.toNat) := by
  unfold intsN
  rw [List.map_map]
  conv => lhs; rw [← List.map_id xs]
  apply List.map_congr_left
  intro x hx
  have := h x hx
  show x = ((x.toNat : Nat) : Int)
  omega
/-- Whatever the bytes are, Decode's answer is theirs alone. -/
theorem dec_any (b : List Nat) : ∃ (x y : Int) (bs : List Int) (fl : Bool), ∀ (B : Nat) (w' : World) (e : Ending), DecOut B w' b e → ∃ (so : Option Addr) (m d : Nat), e = .returned (.tuple #[.agg #[.int .i64 x, .int .i64 y, .slice so m d], .bool fl]) ∧ Lst .u8 w' so m d bs := by
  by_cases h : ∃ (v u : Nat) (bs : List Int), OkI v u bs ∧ (∀ x ∈ bs, 0 ≤ x ∧ x ≤ 255) ∧ encP v u (bitL bs) = b
  · obtain ⟨v, u, bs, hO, hb, he⟩ := h
    refine ⟨v, u, bs, true, fun B w' e hd => ?_⟩
    rcases hd with ⟨v', u', bs', gc, m, d, rfl, hQ, hb', he', O⟩ | ⟨_, hno⟩
    · obtain ⟨r1, r2, r3⟩ := enc_inj hO hQ hb hb' (he'.trans he.symm)
      subst r1; subst r2; subst r3
      exact ⟨_, m, d, rfl, O.lst⟩
    · exact absurd he (hno v u bs hO hb)
  · refine ⟨0, 0, [], false, fun B w' e hd => ?_⟩
    rcases hd with ⟨v', u', bs', gc, m, d, rfl, hQ, hb', he', O⟩ | ⟨rfl, _⟩
    · exact absurd ⟨v', u', bs', hQ, hb', he'⟩ h
    · exact ⟨none, 0, 0, rfl, Lst.nil _ _⟩
set_option maxHeartbeats 6400000 in
set_option maxRecDepth 100000 in
theorem decLaw_c (ao : Option Addr) (n c : Nat) (xs : List Int) (w : World) (h : Lst .u8 w ao n c xs) :
    Calls Try.prog 11 #[.slice ao n c] w fun e w' => e = .returned (.bool true) ∧ Below w.heap.size w w' := by
  obtain ⟨k, hk⟩ : ∃ k, (k = n ∧ n ≤ 60) ∨ (k = 60 ∧ 60 < n) := by
    by_cases h : n ≤ 60
    · exact ⟨n, Or.inl ⟨rfl, h⟩⟩
    · exact ⟨60, Or.inr ⟨rfl, by omega⟩⟩
  have hcap := h.cap
  have h1 := h.take (m := k) (by omega)
  obtain ⟨b, hb⟩ : ∃ b : List Nat, xs.take k = intsN b := ⟨_, intsN_of h1.bytes⟩
  rw [hb] at h1
  obtain ⟨x, y, bs, fl, hany⟩ := dec_any b
  have HL := Lib.hid h1
  have HA : Hid (∀ W, Calls Try.prog 14 #[] W fun e w' => e = .returned (.bool true) ∧ Below W.heap.size W w') := awake_c
  have HP : Hid (∀ W, Below w.heap.size w W → Calls Try.prog 32 #[.slice ao k c] W fun e w' => (∃ (so : Option Addr) (m d : Nat), e = .returned (.tuple #[.agg #[.int .i64 x, .int .i64 y, .slice so m d], .bool fl]) ∧ Lst .u8 w' so m d bs) ∧ Below W.heap.size W w') := fun W hW =>
    (dec_c ao k c b W (HL.out.below hW) (by omega)).mono fun e w' hh => ⟨hany _ _ _ hh.1, hh.2⟩
  have HR : Hid (∀ W, Below w.heap.size w W → Calls Try.prog 34 #[.slice ao k c] W fun e w' => (∃ (so : Option Addr) (m d : Nat), e = .returned (.tuple #[.agg #[.int .i64 x, .int .i64 y, .slice so m d], .bool fl]) ∧ Lst .u8 w' so m d bs) ∧ Below W.heap.size W w') := fun W hW =>
    (refDecode_c ao k c b W (HL.out.below hW) (by omega)).mono fun e w' hh => ⟨hany _ _ _ hh.1, hh.2⟩
  have HEq : Hid (∀ (W : World) (so qo : Option Addr) (m d m' d' : Nat), Lst .u8 W so m d bs → Lst .u8 W qo m' d' bs → Calls Try.prog 15 #[.agg #[.int .i64 x, .int .i64 y, .slice so m d], .agg #[.int .i64 x, .int .i64 y, .slice qo m' d']] W fun e w' => e = .returned (.bool true) ∧ Below W.heap.size W w') := fun W so qo m d m' d' h1 h2 => by
    have := eqI_c x y x y so qo m d m' d' bs bs W h1 h2
    rw [decide_eq_true (rfl : x = x), decide_eq_true (rfl : y = y), decide_eq_true (rfl : bs = bs)] at this
    exact this
  have hrefl := Lib.hid (Below.refl w.heap.size w)
  by_cases h4 : k < 4
  · have h4' : (k : Int) < 4 := by omega
    have h4n : ¬ (4 : Int) ≤ (k : Int) := by omega
    obtain ⟨rfl, hk⟩ : k = n ∧ n ≤ 60 := by omega
    have q60 : ¬ (60 : Int) < (k : Int) := by omega
    clear h h1 hany hb hk
    go_enter Try.func11, Try.ntmps11
    go_wp2_with (first
      | (go_at_call 32; (with_reducible refine (HP.out w hrefl.out).mono ?_); rintro e w1 ⟨⟨so, m, d, rfl, L1⟩, B1⟩; obtain ⟨w2, w3, m4, m5, q0, q1, q2, q3, q4, q5, A3, B3, z3⟩ := new_fill2 w1 (.int .i64 x) (.int .i64 y) (.slice so m d); obtain ⟨g, hg⟩ : ∃ g, w1.heap.size = g := ⟨_, rfl⟩; rw [hg] at m5 q0 q1 q2 q3 q4 q5 A3; have f0 : w3.cell? ⟨g, 0, none⟩ = some (.int .i64 x) := A3.cell 0; have f1 : w3.cell? ⟨g, 1, none⟩ = some (.int .i64 y) := A3.cell 1; have f2 : w3.cell? ⟨g, 2, none⟩ = some (.slice so m d) := A3.cell 2; have L3 := Lib.hid (L1.below B3); have hB3 := Lib.hid (B1.trans (B3.mono B1.size)); clear L1 B1 B3 A3 z3)
      | (go_at_call 34; (with_reducible refine (HR.out w3 hB3.out).mono ?_); rintro e w4 ⟨⟨qo, m', d', rfl, L4⟩, B4⟩; obtain ⟨w5, w6, m7, m8, r0, r1, r2, r3, r4, r5, A6, B6, z6⟩ := new_fill2 w4 (.int .i64 x) (.int .i64 y) (.slice qo m' d'); obtain ⟨g2, hg2⟩ : ∃ g, w4.heap.size = g := ⟨_, rfl⟩; rw [hg2] at m8 r0 r1 r2 r3 r4 r5 A6; have B46 := B4.trans (B6.mono B4.size); have i0 := cell_keep f0 B46; have i1 := cell_keep f1 B46; have i2 := cell_keep f2 B46; have j0 : w6.cell? ⟨g2, 0, none⟩ = some (.int .i64 x) := A6.cell 0; have j1 : w6.cell? ⟨g2, 1, none⟩ = some (.int .i64 y) := A6.cell 1; have j2 : w6.cell? ⟨g2, 2, none⟩ = some (.slice qo m' d') := A6.cell 2; have L6 := Lib.hid (L4.below B6); have L36 := Lib.hid (L3.out.below B46); have hB6 := Lib.hid (hB3.out.trans (B46.mono hB3.out.size)); clear L4 B4 B6 A6 z6 B46)
      | (go_at_call 14; (with_reducible refine (HA.out _).mono ?_); rintro e w7 ⟨rfl, B7⟩; have k0 := cell_keep i0 B7; have k1 := cell_keep i1 B7; have k2 := cell_keep i2 B7; have l0 := cell_keep j0 B7; have l1 := cell_keep j1 B7; have l2 := cell_keep j2 B7; have L7 := Lib.hid (L36.out.below B7); have L7' := Lib.hid (L6.out.below B7); have hB7 := Lib.hid (hB6.out.trans (B7.mono hB6.out.size)); clear B7)
      | (go_at_call 15; (with_reducible refine (HEq.out w7 so qo m d m' d' L7.out L7'.out).mono ?_); rintro e w8 ⟨rfl, B8⟩; have hB8 := Lib.hid (hB7.out.trans (B8.mono hB7.out.size)); clear B8))
    go_ret
    exact ⟨by first | rfl | simp, hB8.out⟩
  obtain ⟨x0, _, g0, c0⟩ := h1.at8 0 (by omega)
  obtain ⟨x1, _, g1, c1⟩ := h1.at8 1 (by omega)
  obtain ⟨x2, _, g2, c2⟩ := h1.at8 2 (by omega)
  obtain ⟨x3, _, g3, c3⟩ := h1.at8 3 (by omega)
  have i0 := ix8 h1 0 0 rfl (by omega)
  have i1 := ix8 h1 1 1 rfl (by omega)
  have i2 := ix8 h1 2 2 rfl (by omega)
  have i3 := ix8 h1 3 3 rfl (by omega)
  have h4n : (4 : Int) ≤ (k : Int) := by omega
  have hz : ∀ z : Nat, z ≠ 0 → ((z : Int) != 0) = true ∧ ((z : Int) == 0) = false ∧ ¬ (z : Int) = 0 := fun z hz => by refine ⟨by simp; omega, by simp; omega, by omega⟩
  have hz0 : ∀ z : Nat, z = 0 → ((z : Int) != 0) = false ∧ ((z : Int) == 0) = true := fun z hz => by subst hz; exact ⟨rfl, rfl⟩
  have hcs : (x0 ≠ 0 ∨ x0 = 0 ∧ x2 ≠ 0 ∨ x0 = 0 ∧ x2 = 0 ∧ 40 < x1 ∨ x0 = 0 ∧ x2 = 0 ∧ x1 ≤ 40 ∧ 40 < x3) ∨ (x0 = 0 ∧ x2 = 0 ∧ x1 ≤ 40 ∧ x3 ≤ 40) := by omega
  clear h h1 hany hb
  have hq : (k = n ∧ ¬ (60 : Int) < (n : Int)) ∨ (k = 60 ∧ (60 : Int) < (n : Int) ∧ (60 : Int) ≤ (c : Int)) := by omega
  clear hk
  rcases hq with ⟨rfl, q60⟩ | ⟨rfl, q60, q61⟩
  all_goals
   rcases hcs with hcs | ⟨d0, d2, d1, d3⟩
   · rcases hcs with d0 | ⟨d0, d2⟩ | ⟨d0, d2, d1⟩ | ⟨d0, d2, d1, d3⟩
     · obtain ⟨y0, y1, y2⟩ := hz x0 d0
       clear hz hz0 d0 hrefl
       go_enter Try.func11, Try.ntmps11
       go_wp2_with (go_at_call 14; (with_reducible refine (HA.out _).mono ?_); rintro e w7 ⟨rfl, B7⟩; have hB7 := Lib.hid B7; clear B7)
       go_ret
       exact ⟨rfl, hB7.out⟩
     · obtain ⟨y0, y1⟩ := hz0 x0 d0
       obtain ⟨y3, y4, y5⟩ := hz x2 d2
       clear hz hz0 d0 d2 hrefl
       go_enter Try.func11, Try.ntmps11
       go_wp2_with (go_at_call 14; (with_reducible refine (HA.out _).mono ?_); rintro e w7 ⟨rfl, B7⟩; have hB7 := Lib.hid B7; clear B7)
       go_ret
       exact ⟨rfl, hB7.out⟩
     · obtain ⟨y0, y1⟩ := hz0 x0 d0
       obtain ⟨y3, y4⟩ := hz0 x2 d2
       have y5 : (40 : Int) < (x1 : Int) := by omega
       clear hz hz0 d0 d2 hrefl d1
       go_enter Try.func11, Try.ntmps11
       go_wp2_with (go_at_call 14; (with_reducible refine (HA.out _).mono ?_); rintro e w7 ⟨rfl, B7⟩; have hB7 := Lib.hid B7; clear B7)
       go_ret
       exact ⟨rfl, hB7.out⟩
     · obtain ⟨y0, y1⟩ := hz0 x0 d0
       obtain ⟨y3, y4⟩ := hz0 x2 d2
       have y5 : ¬ (40 : Int) < (x1 : Int) := by omega
       have y6 : (40 : Int) < (x3 : Int) := by omega
       clear hz hz0 d0 d2 hrefl d1 d3
       go_enter Try.func11, Try.ntmps11
       go_wp2_with (go_at_call 14; (with_reducible refine (HA.out _).mono ?_); rintro e w7 ⟨rfl, B7⟩; have hB7 := Lib.hid B7; clear B7)
       go_ret
       exact ⟨rfl, hB7.out⟩
   · obtain ⟨y0, y1⟩ := hz0 x0 d0
     obtain ⟨y3, y4⟩ := hz0 x2 d2
     have y5 : ¬ (40 : Int) < (x1 : Int) := by omega
     have y6 : ¬ (40 : Int) < (x3 : Int) := by omega
     clear hz hz0 d0 d2 d1 d3
     go_enter Try.func11, Try.ntmps11
     go_wp2_with (first
       | (go_at_call 32; (with_reducible refine (HP.out w hrefl.out).mono ?_); clear c0 c1 c2 c3 i0 i1 i2 i3; rintro e w1 ⟨⟨so, m, d, rfl, L1⟩, B1⟩; obtain ⟨w2, w3, m4, m5, q0, q1, q2, q3, q4, q5, A3, B3, z3⟩ := new_fill2 w1 (.int .i64 x) (.int .i64 y) (.slice so m d); obtain ⟨g, hg⟩ : ∃ g, w1.heap.size = g := ⟨_, rfl⟩; rw [hg] at m5 q0 q1 q2 q3 q4 q5 A3; have f0 : w3.cell? ⟨g, 0, none⟩ = some (.int .i64 x) := A3.cell 0; have f1 : w3.cell? ⟨g, 1, none⟩ = some (.int .i64 y) := A3.cell 1; have f2 : w3.cell? ⟨g, 2, none⟩ = some (.slice so m d) := A3.cell 2; have L3 := Lib.hid (L1.below B3); have hB3 := Lib.hid (B1.trans (B3.mono B1.size)); clear L1 B1 B3 A3 z3)
       | (go_at_call 34; (with_reducible refine (HR.out w3 hB3.out).mono ?_); rintro e w4 ⟨⟨qo, m', d', rfl, L4⟩, B4⟩; obtain ⟨w5, w6, m7, m8, r0, r1, r2, r3, r4, r5, A6, B6, z6⟩ := new_fill2 w4 (.int .i64 x) (.int .i64 y) (.slice qo m' d'); obtain ⟨g2, hg2⟩ : ∃ g, w4.heap.size = g := ⟨_, rfl⟩; rw [hg2] at m8 r0 r1 r2 r3 r4 r5 A6; have B46 := B4.trans (B6.mono B4.size); have i0 := cell_keep f0 B46; have i1 := cell_keep f1 B46; have i2 := cell_keep f2 B46; have j0 : w6.cell? ⟨g2, 0, none⟩ = some (.int .i64 x) := A6.cell 0; have j1 : w6.cell? ⟨g2, 1, none⟩ = some (.int .i64 y) := A6.cell 1; have j2 : w6.cell? ⟨g2, 2, none⟩ = some (.slice qo m' d') := A6.cell 2; have L6 := Lib.hid (L4.below B6); have L36 := Lib.hid (L3.out.below B46); have hB6 := Lib.hid (hB3.out.trans (B46.mono hB3.out.size)); clear L4 B4 B6 A6 z6 B46)
       | (go_at_call 14; (with_reducible refine (HA.out _).mono ?_); rintro e w7 ⟨rfl, B7⟩; have k0 := cell_keep i0 B7; have k1 := cell_keep i1 B7; have k2 := cell_keep i2 B7; have l0 := cell_keep j0 B7; have l1 := cell_keep j1 B7; have l2 := cell_keep j2 B7; have L7 := Lib.hid (L36.out.below B7); have L7' := Lib.hid (L6.out.below B7); have hB7 := Lib.hid (hB6.out.trans (B7.mono hB6.out.size)); clear B7)
       | (go_at_call 15; (with_reducible refine (HEq.out w7 so qo m d m' d' L7.out L7'.out).mono ?_); rintro e w8 ⟨rfl, B8⟩; have hB8 := Lib.hid (hB7.out.trans (B8.mono hB7.out.size)); clear B8))
     go_ret
     exact ⟨by first | rfl | simp, hB8.out⟩
end Go.Proofs.Ytpjaljjclkfkmaa
