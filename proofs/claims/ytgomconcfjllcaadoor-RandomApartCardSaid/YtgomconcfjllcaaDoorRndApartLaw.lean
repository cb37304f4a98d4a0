/-
  The walk of RandomApart.
-/
import Derived.Test.YtgomconcfjllcaaDoorRndAwake
namespace Go.Proofs.YtgomconcfjllcaaDoor
open Go.RowKit Dig Rnd

/-- A slice value reads as these bools. -/
structure LstT (w : World) (ao : Option Addr) (n c : Nat) (xs : List Bool) : Prop where
  len : xs.length = n
  cap : n ≤ c
  room : c ≤ 9223372036854775807
  isSome : 0 < n → ∃ a, ao = some a
  cell : ∀ i, i < n → w.cell? (pt ao i) = some (.bool (xs.getD i false))
theorem LstT.below {w w' : World} {ao : Option Addr} {n c : Nat} {xs : List Bool} (h : LstT w ao n c xs) (hb : Below w.heap.size w w') : LstT w' ao n c xs :=
  ⟨h.len, h.cap, h.room, h.isSome, fun i hi => (hb.cell (World.block_lt_of_cell? w _ (h.cell i hi))).trans (h.cell i hi)⟩
theorem sizeT : (Tryd.prog.info? 4).map (·.size) = some 1 := by kernel_rfl
theorem ixT {ao : Option Addr} {n c : Nat} {xs : List Bool} {w : World} (h : LstT w ao n c xs) (i : Nat) (hi : i < n) :
    ∀ W, (Instr.indexAt 40 (.slice ao n c) (.int .i64 (i : Int))).run Tryd.prog W = .ok (.pointer (some (pt ao i))) W := by
  intro W
  obtain ⟨a, rfl⟩ := h.isSome (by omega)
  obtain ⟨inf, hinf, hs⟩ := Option.map_eq_some_iff.1 sizeT
  simp [Instr.indexAt, run_underlying Tryd.underlying40, asIntOf, sizeOf, typeInfo, hinf, hs, pt, hi]

/-- Beside the world w0 in which the call began: two sources of the program (blocks s, t), two of the reference (blocks x, y), of two seeds. -/
structure St4 (w0 w : World) (s t x y : Nat) (A B : ByteArray) (p q p' q' : Nat) : Prop where
  a : Src 44 w s A p
  b : Src 44 w t B q
  c : Src 29 w x A p'
  d : Src 29 w y B q'
  s0 : w0.heap.size ≤ s
  st : s < t
  tx : t < x
  xy : x < y
  bel : Below w0.heap.size w0 w
section
variable {w0 w w' : World} {s t x y p q p' q' j : Nat} {A B : ByteArray}
theorem St4.stepA (h : St4 w0 w s t x y A B p q p' q') (hS : Src 44 w' s A j) (hg : w.grownBy w' (some s)) : St4 w0 w' s t x y A B j q p' q' := by
  have := h.st; have := h.tx; have := h.xy; have := h.s0
  exact ⟨hS, h.b.grownBy hg (by omega), h.c.grownBy hg (by omega), h.d.grownBy hg (by omega), h.s0, h.st, h.tx, h.xy, below_grown h.bel hg h.bel.size (by omega)⟩
theorem St4.stepB (h : St4 w0 w s t x y A B p q p' q') (hS : Src 44 w' t B j) (hg : w.grownBy w' (some t)) : St4 w0 w' s t x y A B p j p' q' := by
  have := h.st; have := h.tx; have := h.xy; have := h.s0
  exact ⟨h.a.grownBy hg (by omega), hS, h.c.grownBy hg (by omega), h.d.grownBy hg (by omega), h.s0, h.st, h.tx, h.xy, below_grown h.bel hg h.bel.size (by omega)⟩
theorem St4.stepC (h : St4 w0 w s t x y A B p q p' q') (hS : Src 29 w' x A j) (hg : w.grownBy w' (some x)) : St4 w0 w' s t x y A B p q j q' := by
  have := h.st; have := h.tx; have := h.xy; have := h.s0
  exact ⟨h.a.grownBy hg (by omega), h.b.grownBy hg (by omega), hS, h.d.grownBy hg (by omega), h.s0, h.st, h.tx, h.xy, below_grown h.bel hg h.bel.size (by omega)⟩
theorem St4.stepD (h : St4 w0 w s t x y A B p q p' q') (hS : Src 29 w' y B j) (hg : w.grownBy w' (some y)) : St4 w0 w' s t x y A B p q p' j := by
  have := h.st; have := h.tx; have := h.xy; have := h.s0
  exact ⟨h.a.grownBy hg (by omega), h.b.grownBy hg (by omega), h.c.grownBy hg (by omega), hS, h.s0, h.st, h.tx, h.xy, below_grown h.bel hg h.bel.size (by omega)⟩
theorem St4.below (h : St4 w0 w s t x y A B p q p' q') (b : Below w.heap.size w w') : St4 w0 w' s t x y A B p q p' q' :=
  ⟨h.a.kept b, h.b.kept b, h.c.kept b, h.d.kept b, h.s0, h.st, h.tx, h.xy, h.bel.trans (b.mono h.bel.size)⟩
end
theorem nx_le (k : Nat) : nx k ≤ 18446744073709551615 := Nat.le_of_lt_succ (nx_lt k)

set_option maxHeartbeats 3200000 in
set_option maxRecDepth 100000 in
theorem apartLaw_c (S0 S1 : ByteArray) (ao : Option Addr) (n c : Nat) (bs : List Bool) (w : World) (hs0 : S0.size ≤ maxLen) (hs1 : S1.size ≤ maxLen) (h : LstT w ao n c bs) (hK : KTab 1 w) (hK0 : KTab 0 w) :
    Calls Tryd.prog 7 #[.string S0, .string S1, .slice ao n c] w fun e w' => e = .returned (.bool true) ∧ Below w.heap.size w w' := by
  have HC := Lib.hid (short_c S0 w hs0)
  have HC1 := Lib.hid (short_c S1 w hs1)
  have hcap := h.cap
  have hroom := h.room
  have HH := Lib.hid h
  clear hs0 hs1 h
  go_enter Tryd.func7, Tryd.ntmps7
  go_wp2_with fail
  refine HC.out.mono ?_
  rintro e w1 ⟨A, rfl, hA, rfl⟩
  go_wp2_with fail
  refine HC1.out.mono ?_
  rintro e w1 ⟨B, rfl, hB, rfl⟩
  have HN := Lib.hid (new_c A w)
  clear HC HC1
  go_wp2_with fail
  refine HN.out.mono ?_
  rintro e w2 ⟨s, rfl, hs, Ss, b2⟩
  have HN := Lib.hid (new_c B w2)
  go_wp2_with fail
  refine HN.out.mono ?_
  rintro e w3 ⟨t, rfl, ht, St, b3⟩
  obtain ⟨V, hV⟩ : ∃ V, Hid (V = w3.alloc (.cells #[.string A, .int .u64 0] 29)) := ⟨_, rfl⟩
  have b4 : Below w3.heap.size w3 V := by rw [hV.out]; exact (Below.refl _ _).alloc (Nat.le_refl _) _
  have Sx : Src 29 V w3.heap.size A 0 := by rw [hV.out]; exact new_src 29 w3 A
  have hVs : V.heap.size = w3.heap.size + 1 := by rw [hV.out]; simp
  obtain ⟨U, hU⟩ : ∃ U, Hid (U = V.alloc (.cells #[.string B, .int .u64 0] 29)) := ⟨_, rfl⟩
  have b5 : Below V.heap.size V U := by rw [hU.out]; exact (Below.refl _ _).alloc (Nat.le_refl _) _
  have Sy : Src 29 U V.heap.size B 0 := by rw [hU.out]; exact new_src 29 V B
  have Q0 : St4 w U s t w3.heap.size (w3.heap.size + 1) A B 0 0 0 0 := by
    have := Ss.lt; have := St.lt
    refine ⟨((Ss.kept b3).kept b4).kept b5, (St.kept b4).kept b5, Sx.kept b5, by rw [← hVs]; exact Sy, hs, by omega, by omega, by omega, ?_⟩
    exact ((b2.trans (b3.mono b2.size)).trans (b4.mono (by have := b2.size; have := b3.size; omega))).trans (b5.mono (by have := b2.size; have := b3.size; omega))
  have HU : Hid ((w3.alloc (.cells #[.string A, .int .u64 0] 29)).alloc (.cells #[.string B, .int .u64 0] 29) = U) := by show _ = _; rw [hU.out, hV.out]
  have HQ0 := Lib.hid Q0
  clear HN hs Ss b2 ht St b3 b4 Sx hVs b5 Sy Q0 hV hU
  go_wp2_with fail
  rw [HU.out]
  go_loopw [11] (fun i wr => ∃ (j p q : Nat), j ≤ n ∧ j ≤ 8 ∧ i = .int .i64 j ∧ p ≤ 18446744073709551615 ∧ q ≤ 18446744073709551615 ∧ Hid (St4 w wr s t w3.heap.size (w3.heap.size + 1) A B p q p q))
    (fun i _ => n - (intOf i).toNat)
  case atStart => exact ⟨0, 0, 0, by omega, by omega, rfl, by omega, by omega, HQ0⟩
  case round =>
    obtain ⟨j, p, q, hj, hj8, rfl, hp, hq, HS⟩ := hrel
    clear HQ0
    by_cases hlt : j < n ∧ j < 8
    · obtain ⟨hlt, hlt8⟩ := hlt
      have hlt' : (j : Int) < (n : Int) := by omega
      have hlt8' : (j : Int) < 8 := by omega
      have L := HH.out.below HS.out.bel
      have hix := ixT L j hlt
      obtain ⟨b, hb⟩ : ∃ b, Hid (b = bs.getD j false) := ⟨_, rfl⟩
      have hc := L.cell j hlt
      rw [← hb.out] at hc
      clear L
      cases b
      · have H1 := Lib.hid (word_c t B q wr HS.out.b (by omega) hq (hK.below HS.out.bel))
        obtain ⟨v, hv⟩ : ∃ v, Hid (v = wordN B q) := ⟨_, rfl⟩
        rw [← hv.out] at H1
        have hvv : ((v : Int) != (v : Int)) = false := by simp
        go_wp2_with fail
        refine H1.out.mono ?_
        rintro e w5 ⟨rfl, S5, G5⟩
        have HS5 := Lib.hid (HS.out.stepB S5 G5)
        have H2 := Lib.hid (refword_c (w3.heap.size + 1) B q w5 HS5.out.d (by omega) hq (hK0.below HS5.out.bel))
        rw [← hv.out] at H2
        clear H1 S5 G5
        go_wp2_with fail
        refine H2.out.mono ?_
        rintro e w6 ⟨rfl, S6, G6⟩
        have HS6 := Lib.hid (HS5.out.stepD S6 G6)
        clear H2 S6 G6
        go_wp2_with fail
        go_roundw
        case rel => exact ⟨j + 1, p, nx q, by omega, by omega, by go_num, hp, nx_le q, HS6⟩
        case measure => simp [intOf]; omega
      · have H1 := Lib.hid (word_c s A p wr HS.out.a (by omega) hp (hK.below HS.out.bel))
        obtain ⟨v, hv⟩ : ∃ v, Hid (v = wordN A p) := ⟨_, rfl⟩
        rw [← hv.out] at H1
        have hvv : ((v : Int) != (v : Int)) = false := by simp
        go_wp2_with fail
        refine H1.out.mono ?_
        rintro e w5 ⟨rfl, S5, G5⟩
        have HS5 := Lib.hid (HS.out.stepA S5 G5)
        have H2 := Lib.hid (refword_c w3.heap.size A p w5 HS5.out.c (by omega) hp (hK0.below HS5.out.bel))
        rw [← hv.out] at H2
        clear H1 S5 G5
        go_wp2_with fail
        refine H2.out.mono ?_
        rintro e w6 ⟨rfl, S6, G6⟩
        have HS6 := Lib.hid (HS5.out.stepC S6 G6)
        have hc6 : w6.cell? (pt ao j) = some (.bool true) := by rw [(HH.out.below HS6.out.bel).cell j hlt, ← hb.out]
        clear H2 S6 G6
        go_wp2_with fail
        go_roundw
        case rel => exact ⟨j + 1, nx p, q, by omega, by omega, by go_num, nx_le p, hq, HS6⟩
        case measure => simp [intOf]; omega
    · have HA := Lib.hid (awake_c wr (hK.below HS.out.bel) (hK0.below HS.out.bel))
      obtain ⟨v, hv⟩ : ∃ v, Hid (v = wordN A p) := ⟨_, rfl⟩
      have hvv : ((v : Int) == (v : Int)) = true := beq_self_eq_true _
      obtain ⟨u, hu⟩ : ∃ u, Hid (u = wordN B q) := ⟨_, rfl⟩
      have huu : ((u : Int) == (u : Int)) = true := beq_self_eq_true _
      by_cases hltn : j < n
      case' pos =>
        have hlt' : (j : Int) < (n : Int) := by omega
        have hlt8' : ¬ ((j : Int) < 8) := by omega
      case' neg =>
        have hlt' : ¬ ((j : Int) < (n : Int)) := by omega
      all_goals
        clear hlt
        go_wp2_with fail
        refine HA.out.mono ?_
        rintro e w5 ⟨rfl, b5⟩
        have HS5 := Lib.hid (HS.out.below b5)
        have H1 := Lib.hid (word_c s A p w5 HS5.out.a (by omega) hp (hK.below HS5.out.bel))
        rw [← hv.out] at H1
        clear HA b5
        go_wp2_with fail
        refine H1.out.mono ?_
        rintro e w6 ⟨rfl, S6, G6⟩
        have HS6 := Lib.hid (HS5.out.stepA S6 G6)
        have H2 := Lib.hid (refword_c w3.heap.size A p w6 HS6.out.c (by omega) hp (hK0.below HS6.out.bel))
        rw [← hv.out] at H2
        clear H1 S6 G6
        go_wp2_with fail
        refine H2.out.mono ?_
        rintro e w7 ⟨rfl, S7, G7⟩
        have HS7 := Lib.hid (HS6.out.stepC S7 G7)
        have H3 := Lib.hid (word_c t B q w7 HS7.out.b (by omega) hq (hK.below HS7.out.bel))
        rw [← hu.out] at H3
        clear H2 S7 G7
        go_wp2_with fail
        refine H3.out.mono ?_
        rintro e w8 ⟨rfl, S8, G8⟩
        have HS8 := Lib.hid (HS7.out.stepB S8 G8)
        have H4 := Lib.hid (refword_c (w3.heap.size + 1) B q w8 HS8.out.d (by omega) hq (hK0.below HS8.out.bel))
        rw [← hu.out] at H4
        clear H3 S8 G8
        go_wp2_with fail
        refine H4.out.mono ?_
        rintro e w9 ⟨rfl, S9, G9⟩
        have HS9 := Lib.hid (HS8.out.stepD S9 G9)
        clear H4 S9 G9
        go_wp2_with fail
        go_ret
        exact ⟨rfl, HS9.out.bel⟩
end Go.Proofs.YtgomconcfjllcaaDoor
