/-
  electionref01: Read.
-/
import Derived.Test.YtmojcnlddfijjaaDoorNatNum
import Derived.Test.YtmojcnlddfijjaaDoorNatSmall
import Derived.Deep.RegionHeld3
import Derived.Deep.RegionLaw
import Derived.Test.YtmojcnlddfijjaaDoorNatHelp
import Derived.Test.YtmojcnlddfijjaaDoorNatRefMul
namespace Go.Proofs.YtmojcnlddfijjaaDoor
open Go.RowKit NatMath

/-- The four calls of one digit's round, each in whatever world it is made. -/
theorem rd_ten (w wr : World) (a : Option Addr) (m d V : Nat) (h : LstB wr a m d (bitsN V)) (hb : Below w.heap.size w wr) :
    Calls Tryd.prog 80 #[.int .i64 10] wr fun e w2 => ∃ a2 m2 d2, e = .returned (.slice a2 m2 d2) ∧ LstB w2 a2 m2 d2 (bitsN 10) ∧ m2 ≤ 4 ∧ LstB w2 a m d (bitsN V) ∧ Below w.heap.size w w2 := by
  have hs := small_c 10 wr (by omega)
  rw [show (((10 : Nat) : Nat) : Int) = 10 from rfl] at hs
  refine hs.mono ?_
  rintro e w2 ⟨a2, m2, d2, rfl, o2, b2⟩
  exact ⟨a2, m2, d2, rfl, o2.lst, o2.bound (k := 4) (by omega), h.below b2, Below.on hb b2 hb.size⟩
theorem rd_mul (w wr : World) (a : Option Addr) (m d V : Nat) (a2 : Option Addr) (m2 d2 : Nat) (h : LstB wr a m d (bitsN V)) (k : LstB wr a2 m2 d2 (bitsN 10)) (hb : Below w.heap.size w wr) (hm : m ≤ 160) (hm2 : m2 ≤ 4) (hV : V * 10 < 2 ^ 164) :
    Calls Tryd.prog 54 #[.slice a m d, .slice a2 m2 d2] wr fun e w3 => ∃ a3 m3 d3, e = .returned (.slice a3 m3 d3) ∧ LstB w3 a3 m3 d3 (bitsN (V * 10)) ∧ m3 ≤ 164 ∧ Below w.heap.size w w3 := by
  have hs := mulT_c _ _ _ _ _ _ _ _ _ h k (by omega) (by omega)
  rw [bval_bitsN, bval_bitsN] at hs
  refine hs.mono ?_
  rintro e w3 ⟨a3, m3, d3, rfl, o3, b3⟩
  exact ⟨a3, m3, d3, rfl, o3.lst, o3.bound hV, Below.on hb b3 hb.size⟩
theorem rd_dig (w wr : World) (a : Option Addr) (m d V Y : Nat) (h : LstB wr a m d (bitsN V)) (hb : Below w.heap.size w wr) (hY0 : 48 ≤ Y) (hY : Y ≤ 57) :
    Calls Tryd.prog 80 #[.int .i64 (IntKind.i64.wrap (IntKind.u8.wrap ((Y : Int) - 48)))] wr fun e w2 => ∃ a2 m2 d2, e = .returned (.slice a2 m2 d2) ∧ LstB w2 a2 m2 d2 (bitsN (Y - 48)) ∧ m2 ≤ 4 ∧ LstB w2 a m d (bitsN V) ∧ Below w.heap.size w w2 := by
  have hs := small_c (Y - 48) wr (by omega)
  rw [show ((Y - 48 : Nat) : Int) = IntKind.i64.wrap (IntKind.u8.wrap ((Y : Int) - 48)) by simp [IntKind.wrap, IntKind.bits, IntKind.signed]; omega] at hs
  refine hs.mono ?_
  rintro e w2 ⟨a2, m2, d2, rfl, o2, b2⟩
  exact ⟨a2, m2, d2, rfl, o2.lst, o2.bound (k := 4) (by omega), h.below b2, Below.on hb b2 hb.size⟩
theorem rd_add (w wr : World) (a : Option Addr) (m d V : Nat) (a2 : Option Addr) (m2 d2 D R : Nat) (h : LstB wr a m d (bitsN V)) (k : LstB wr a2 m2 d2 (bitsN D)) (hb : Below w.heap.size w wr) (hm : m ≤ 164) (hm2 : m2 ≤ 4) (hR : R = V + D) :
    Calls Tryd.prog 79 #[.slice a m d, .slice a2 m2 d2] wr fun e w3 => ∃ a3 m3 d3, e = .returned (.slice a3 m3 d3) ∧ OwnT w.heap.size w3 a3 m3 d3 (bitsN R) ∧ Below w.heap.size w w3 := by
  have hs := addT_c _ _ _ _ _ _ _ _ _ h k (by omega) (by omega)
  rw [bval_bitsN, bval_bitsN, ← hR] at hs
  refine hs.mono ?_
  rintro e w3 ⟨a3, m3, d3, rfl, o3, b3⟩
  exact ⟨a3, m3, d3, rfl, o3.low hb.size, Below.on hb b3 hb.size⟩

set_option maxHeartbeats 3200000 in
set_option maxRecDepth 100000 in
theorem read_c (s : ByteArray) (w : World) (hs : s.size ≤ 40) :
    Calls Tryd.prog 71 #[.string s] w fun e w' => ∃ ao' n' c', e = .returned (.tuple #[.slice ao' n' c', .bool (numB s)]) ∧ (numB s = true → OwnT w.heap.size w' ao' n' c' (bitsN (numG s 0 s.size))) ∧ Below w.heap.size w w' := by
  by_cases hz : s.size = 0
  · obtain rfl : s = ByteArray.empty := by
      have : s.data = #[] := Array.eq_empty_of_size_eq_zero hz
      cases s; simp_all
    have hn := Lib.hid (numB_false (s := ByteArray.empty) (fun hN => by obtain ⟨h, _⟩ := hN.2; omega))
    rw [hn.out]
    go_enter Tryd.func71, Tryd.ntmps71
    go_wp2_with fail
    go_ret2
    exact ⟨none, 0, 0, rfl, (fun h => by cases h), Below.refl _ _⟩
  · have hpos : 0 < s.size := by omega
    have hne : ¬ s.toList = [] := by
      rw [ByteArray.toList_eq]
      intro h
      have h1 : s.data.toList.length = 0 := by rw [h]; rfl
      rw [Array.length_toList] at h1
      exact hz h1
    have hie : s.toList.isEmpty = false := by simpa using hne
    obtain ⟨X, hX⟩ : ∃ X : Nat, Hid (X = (s[0]'hpos).toNat) := ⟨_, rfl⟩
    have hXe : (((s[0]'hpos).toNat : Nat) : Int) = (X : Int) := by rw [hX.out]
    have hc : (decide ((1 : Int) < (s.size : Int)) = true ∧ ((X : Int) == 48) = true ∧ 1 < s.size ∧ X = 48) ∨
        (decide ((1 : Int) < (s.size : Int)) = true ∧ ((X : Int) == 48) = false ∧ X ≠ 48) ∨
        (decide ((1 : Int) < (s.size : Int)) = false ∧ s.size = 1) := by
      simp; omega
    have hfin : (s.size = 1 ∨ X ≠ 48) → Hid (DigTo s s.size → numB s = true) := by
      intro h1 h2
      refine numB_true ⟨h2, hpos, ?_⟩
      rw [← hX.out]
      exact h1
    rcases hc with ⟨h1, h2, h3, h4⟩ | ⟨h1, h2, h3⟩ | ⟨h1, h3⟩
    · have hn := Lib.hid (numB_false (s := s) (fun hN => by
        obtain ⟨_, h | h⟩ := hN.2
        · omega
        · rw [← hX.out] at h
          exact h h4))
      rw [hn.out]
      go_enter Tryd.func71, Tryd.ntmps71
      go_wp2_with fail
      go_ret2
      exact ⟨none, 0, 0, rfl, (fun h => by cases h), Below.refl _ _⟩
    · have HF := hfin (Or.inr h3)
      go_enter Tryd.func71, Tryd.ntmps71
      go_wp2_with fail
      clear hfin hXe h1 h2 h3 hne hie
      go_loopw [4, 5] (fun s4 i wr => ∃ (j m d : Nat) (a : Option Addr), j ≤ s.size ∧ DigTo s j ∧ i = .int .i64 j ∧ s4 = .slice a m d ∧ OwnT w.heap.size wr a m d (bitsN (numG s 0 j)) ∧ Below w.heap.size w wr)
        (fun _ i _ => s.size - (intOf i).toNat)
      case atStart => exact ⟨0, 0, 0, none, Nat.zero_le _, DigTo.zero s, rfl, rfl, by rw [numG, bitsN_zero]; exact OwnT.nil _ _, Below.refl _ _⟩
      case round =>
        obtain ⟨j, m, d, a, hj, hd, rfl, rfl, ho, hb⟩ := hrel
        by_cases hlt : j < s.size
        · obtain ⟨Y, hY⟩ : ∃ Y : Nat, Hid (Y = (s[j]'hlt).toNat) := ⟨_, rfl⟩
          have hYe : (((s[j]'hlt).toNat : Nat) : Int) = (Y : Int) := by rw [hY.out]
          have hc : (Y < 48 ∧ decide ((Y : Int) < 48) = true) ∨ (decide ((Y : Int) < 48) = false ∧ 57 < Y ∧ decide ((57 : Int) < (Y : Int)) = true) ∨ (48 ≤ Y ∧ Y ≤ 57 ∧ decide ((Y : Int) < 48) = false ∧ decide ((57 : Int) < (Y : Int)) = false) := by
            simp; omega
          rcases hc with ⟨hx, h1⟩ | ⟨h1, hx, h2⟩ | ⟨hx0, hx1, h1, h2⟩
          · have hn := Lib.hid (numB_false (s := s) (fun hN => by have := hN.1 j hlt hlt; have := hY.out; omega))
            go_wp2_with fail
            go_ret2
            exact ⟨none, 0, 0, by rw [hn.out]; rfl, (fun h => by rw [hn.out] at h; cases h), hb⟩
          · have hn := Lib.hid (numB_false (s := s) (fun hN => by have := hN.1 j hlt hlt; have := hY.out; omega))
            go_wp2_with fail
            go_ret2
            exact ⟨none, 0, 0, by rw [hn.out]; rfl, (fun h => by rw [hn.out] at h; cases h), hb⟩
          · have hd' := Lib.hid (hd.succ hlt (by have := hY.out; omega) (by have := hY.out; omega))
            have hstep : Hid (numG s 0 (j + 1) = numG s 0 j * 10 + (Y - 48)) := by
              show numG s 0 (j + 1) = numG s 0 j * 10 + (Y - 48)
              rw [numG, Nat.zero_add, digAt, dif_pos hlt, ← hY.out]
            have hV0 : numG s 0 j < 2 ^ 160 := by
              have h1 := numG_lt hd 0 j (by omega)
              have h2 : 10 ^ j ≤ 10 ^ 40 := Nat.pow_le_pow_right (by omega) (by omega)
              have h3 : (10 : Nat) ^ 40 ≤ 2 ^ 160 := by decide
              omega
            have hV1 : Hid (numG s 0 j * 10 < 2 ^ 164) := Nat.lt_of_lt_of_le (m := 2 ^ 160 * 16) (by omega) (by decide)
            obtain ⟨V, hV⟩ : ∃ V, Hid (V = numG s 0 j) := ⟨_, rfl⟩
            have hm := ho.bound hV0
            rw [← hV.out] at ho hV1 hstep
            clear hV0
            have HO := Lib.hid (ho.lst.below ((Below.refl wr.heap.size wr).drew))
            have HB := Lib.hid hb.drew
            clear ho hb
            go_wp2_with fail
            go_region_held3 (fun _ => True) (trivial) (first
              | (go_at_call_of 80 (Value.int IntKind.i64 10); refine (rd_ten w _ a m d V HO.out HB.out).mono ?_; rintro e w2 ⟨a2, m2, d2, rfl, T2, hm2, A2, b2⟩)
              | (go_at_call 54; refine (rd_mul w _ a m d V _ _ _ A2 T2 b2 hm hm2 hV1.out).mono ?_; rintro e w3 ⟨a3, m3, d3, rfl, T3, hm3, b3⟩)
              | (go_at_call 80; refine (rd_dig w _ _ _ _ _ Y T3 b3 hx0 hx1).mono ?_; rintro e w4 ⟨a4, m4, d4, rfl, D4, hm4, A4, b4⟩)
              | (go_at_call 79; refine (rd_add w _ _ _ _ _ _ _ _ _ _ A4 D4 b4 hm3 hm4 hstep.out).mono ?_; rintro e w5 ⟨a5, m5, d5, rfl, o5, b5⟩))
            all_goals
              go_wp2_with fail
              go_roundw
              case rel => exact ⟨j + 1, m5, d5, a5, by omega, hd'.out, by go_num, rfl, o5, b5⟩
              case measure => simp [intOf]; omega
        · obtain rfl : j = s.size := by omega
          have hN := Lib.hid (HF.out hd)
          go_wp2_with fail
          go_ret2
          exact ⟨a, m, d, by rw [hN.out]; rfl, fun _ => ho, hb⟩
    · have HF := hfin (Or.inl h3)
      go_enter Tryd.func71, Tryd.ntmps71
      go_wp2_with fail
      clear hfin hXe h1 h3 hne hie
      go_loopw [4, 5] (fun s4 i wr => ∃ (j m d : Nat) (a : Option Addr), j ≤ s.size ∧ DigTo s j ∧ i = .int .i64 j ∧ s4 = .slice a m d ∧ OwnT w.heap.size wr a m d (bitsN (numG s 0 j)) ∧ Below w.heap.size w wr)
        (fun _ i _ => s.size - (intOf i).toNat)
      case atStart => exact ⟨0, 0, 0, none, Nat.zero_le _, DigTo.zero s, rfl, rfl, by rw [numG, bitsN_zero]; exact OwnT.nil _ _, Below.refl _ _⟩
      case round =>
        obtain ⟨j, m, d, a, hj, hd, rfl, rfl, ho, hb⟩ := hrel
        by_cases hlt : j < s.size
        · obtain ⟨Y, hY⟩ : ∃ Y : Nat, Hid (Y = (s[j]'hlt).toNat) := ⟨_, rfl⟩
          have hYe : (((s[j]'hlt).toNat : Nat) : Int) = (Y : Int) := by rw [hY.out]
          have hc : (Y < 48 ∧ decide ((Y : Int) < 48) = true) ∨ (decide ((Y : Int) < 48) = false ∧ 57 < Y ∧ decide ((57 : Int) < (Y : Int)) = true) ∨ (48 ≤ Y ∧ Y ≤ 57 ∧ decide ((Y : Int) < 48) = false ∧ decide ((57 : Int) < (Y : Int)) = false) := by
            simp; omega
          rcases hc with ⟨hx, h1⟩ | ⟨h1, hx, h2⟩ | ⟨hx0, hx1, h1, h2⟩
          · have hn := Lib.hid (numB_false (s := s) (fun hN => by have := hN.1 j hlt hlt; have := hY.out; omega))
            go_wp2_with fail
            go_ret2
            exact ⟨none, 0, 0, by rw [hn.out]; rfl, (fun h => by rw [hn.out] at h; cases h), hb⟩
          · have hn := Lib.hid (numB_false (s := s) (fun hN => by have := hN.1 j hlt hlt; have := hY.out; omega))
            go_wp2_with fail
            go_ret2
            exact ⟨none, 0, 0, by rw [hn.out]; rfl, (fun h => by rw [hn.out] at h; cases h), hb⟩
          · have hd' := Lib.hid (hd.succ hlt (by have := hY.out; omega) (by have := hY.out; omega))
            have hstep : Hid (numG s 0 (j + 1) = numG s 0 j * 10 + (Y - 48)) := by
              show numG s 0 (j + 1) = numG s 0 j * 10 + (Y - 48)
              rw [numG, Nat.zero_add, digAt, dif_pos hlt, ← hY.out]
            have hV0 : numG s 0 j < 2 ^ 160 := by
              have h1 := numG_lt hd 0 j (by omega)
              have h2 : 10 ^ j ≤ 10 ^ 40 := Nat.pow_le_pow_right (by omega) (by omega)
              have h3 : (10 : Nat) ^ 40 ≤ 2 ^ 160 := by decide
              omega
            have hV1 : Hid (numG s 0 j * 10 < 2 ^ 164) := Nat.lt_of_lt_of_le (m := 2 ^ 160 * 16) (by omega) (by decide)
            obtain ⟨V, hV⟩ : ∃ V, Hid (V = numG s 0 j) := ⟨_, rfl⟩
            have hm := ho.bound hV0
            rw [← hV.out] at ho hV1 hstep
            clear hV0
            have HO := Lib.hid (ho.lst.below ((Below.refl wr.heap.size wr).drew))
            have HB := Lib.hid hb.drew
            clear ho hb
            go_wp2_with fail
            go_region_held3 (fun _ => True) (trivial) (first
              | (go_at_call_of 80 (Value.int IntKind.i64 10); refine (rd_ten w _ a m d V HO.out HB.out).mono ?_; rintro e w2 ⟨a2, m2, d2, rfl, T2, hm2, A2, b2⟩)
              | (go_at_call 54; refine (rd_mul w _ a m d V _ _ _ A2 T2 b2 hm hm2 hV1.out).mono ?_; rintro e w3 ⟨a3, m3, d3, rfl, T3, hm3, b3⟩)
              | (go_at_call 80; refine (rd_dig w _ _ _ _ _ Y T3 b3 hx0 hx1).mono ?_; rintro e w4 ⟨a4, m4, d4, rfl, D4, hm4, A4, b4⟩)
              | (go_at_call 79; refine (rd_add w _ _ _ _ _ _ _ _ _ _ A4 D4 b4 hm3 hm4 hstep.out).mono ?_; rintro e w5 ⟨a5, m5, d5, rfl, o5, b5⟩))
            all_goals
              go_wp2_with fail
              go_roundw
              case rel => exact ⟨j + 1, m5, d5, a5, by omega, hd'.out, by go_num, rfl, o5, b5⟩
              case measure => simp [intOf]; omega
        · obtain rfl : j = s.size := by omega
          have hN := Lib.hid (HF.out hd)
          go_wp2_with fail
          go_ret2
          exact ⟨a, m, d, by rw [hN.out]; rfl, fun _ => ho, hb⟩
end Go.Proofs.YtmojcnlddfijjaaDoor
