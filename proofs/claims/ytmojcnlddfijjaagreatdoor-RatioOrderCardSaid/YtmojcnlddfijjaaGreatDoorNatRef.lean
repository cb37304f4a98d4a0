/-
  electionref01.at, From, To.
-/
import Derived.Test.YtmojcnlddfijjaaGreatDoorNatBitsBase
import Derived.Test.YtmojcnlddfijjaaGreatDoorNatMul
namespace Go.Proofs.YtmojcnlddfijjaaGreatDoor
open Go.RowKit NatMath

theorem belowOn {B : Nat} {a b d : World} (h : Below B a b) (k : Below b.heap.size b d) (hB : B ≤ b.heap.size) : Below B a d := h.trans (k.mono hB)
theorem ownsRow_low {w : World} {B B' : Nat} {e : TypeId} {size n : Nat} {v : Value} {us : List Value} (h : w.ownsRow B e size v n us) (hB : B' ≤ B) : w.ownsRow B' e size v n us := by
  refine ⟨h.1, ?_⟩
  rcases h.2 with h1 | ⟨g, cap, cur, hv, hg, rest⟩
  · exact Or.inl h1
  · exact Or.inr ⟨g, cap, cur, hv, Nat.le_trans hB hg, rest⟩
theorem OwnT.low {B B' : Nat} {w : World} {ao : Option Addr} {n c : Nat} {xs : List Bool} (h : OwnT B w ao n c xs) (hB : B' ≤ B) : OwnT B' w ao n c xs := ownsRow_low h hB

set_option maxHeartbeats 400000 in
theorem at_c (ao : Option Addr) (n c : Nat) (xs : List Bool) (j : Nat) (w : World) (h : LstB w ao n c xs) :
    Calls Tryz.prog 63 #[.slice ao n c, .int .i64 j] w fun e w' => e = .returned (.bool (xs.getD j false)) ∧ w = w' := by
  have hroom := h.room
  have hcap := h.cap
  by_cases hj : j < n
  · have hia := ixB h j hj
    obtain ⟨x, HX, hcl⟩ := h.at j hj
    have hd : decide ((j : Int) < (n : Int)) = true := by simpa using hj
    go_enter Tryz.func63, Tryz.ntmps63
    go_wp2_with fail
    go_ret
    exact ⟨by rw [← HX.out]; rfl, rfl⟩
  · have hx : xs.getD j false = false := by rw [List.getD, List.getElem?_eq_none (by rw [h.len]; omega)]; rfl
    have HX := Lib.hid hx; clear hx
    have hd : decide ((j : Int) < (n : Int)) = false := by simp; omega
    go_enter Tryz.func63, Tryz.ntmps63
    go_wp2_with fail
    go_ret
    exact ⟨by rw [HX.out]; rfl, rfl⟩

/-- Bit k of a limb, as the walk asks for it. -/
theorem bit_eq {v i k : Nat} {D : List Int} (hD : Ok D) (hv : val D = v) (hk : k < 32) {x : Nat} (hx : (x : Int) = D.getD i 0) : (bits .and .u32 ((x : Int) / 2 ^ k) 1 == 1) = v.testBit (32 * i + k) := by
  have hxb := hD.getD i
  rw [← hx] at hxb
  have h1 : (x : Int) / 2 ^ k = ((x / 2 ^ k : Nat) : Int) := by simp
  have h2 : x / 2 ^ k ≤ x := Nat.div_le_self _ _
  have hlb := limb_bit hD i k hk
  rw [← hx, hv, Int.toNat_natCast] at hlb
  have h3 : bits .and .u32 ((x / 2 ^ k : Nat) : Int) 1 = ((x / 2 ^ k &&& 1 : Nat) : Int) := u32_and_nat (x / 2 ^ k) 1 (by omega) (by omega)
  rw [h1, h3, nat_mask1, Nat.testBit_eq_decide_div_mod_eq, hlb]
  generalize v / 2 ^ (32 * i + k) % 2 = r
  rw [Bool.eq_iff_iff]
  simp
  omega

set_option maxHeartbeats 3200000 in
set_option maxRecDepth 100000 in
theorem from_c (ao : Option Addr) (n c : Nat) (xs : List Int) (w : World) (h : Lst .u32 w ao n c xs) (hn : n ≤ 1073741824) :
    Calls Tryz.prog 26 #[.slice ao n c] w fun e w' => ∃ ao' n' c', e = .returned (.slice ao' n' c') ∧ OwnT w.heap.size w' ao' n' c' (bitsN (val xs)) ∧ Below w.heap.size w w' := by
  obtain ⟨i0, hi, hz0, hz1, hz2⟩ := info_parts info4
  have hroom := h.room
  have hcap := h.cap
  have hl := Lib.hid h.len
  have hok := Lib.hid h.ok
  obtain ⟨v, hv⟩ : ∃ v, Hid (v = val xs) := ⟨_, rfl⟩
  have hlt : v < 2 ^ (32 * n) := by
    have := val_lt h.ok
    rw [h.len] at this
    rw [hv.out, Nat.pow_mul, show (2 ^ 32 : Nat) = 4294967296 by decide]
    exact this
  have HLT := Lib.hid hlt; clear hlt
  have h0 : OwnT w.heap.size w none 0 0 (bitsTo v 0) := OwnT.nil _ _
  have H := Lib.hid h; clear h
  go_enter Tryz.func26, Tryz.ntmps26
  go_wp2_with fail
  go_loopw [3, 4] (fun s3 i wr => ∃ (t : Nat) (a : Option Addr) (m d : Nat), t ≤ n ∧ i = .int .i64 t ∧ s3 = .slice a m d ∧ m = 32 * t ∧ OwnT w.heap.size wr a m d (bitsTo v m) ∧ Below w.heap.size w wr)
    (fun _ i _ => n - (intOf i).toNat)
  case atStart => exact ⟨0, none, 0, 0, Nat.zero_le _, rfl, rfl, rfl, h0, Below.refl _ _⟩
  case round =>
    obtain ⟨t, a, m, d, ht, rfl, rfl, rfl, ho, hb⟩ := hrel
    clear h0
    by_cases hlt : t < n
    · obtain ⟨wo, rfl⟩ : ∃ wo : World, wo = wr := ⟨_, rfl⟩
      go_wp2_with fail
      go_loopw [3, 5] (fun s3 i wr => ∃ (k m' : Nat) (a' : Option Addr) (d' : Nat), k ≤ 32 ∧ i = .int .u64 k ∧ s3 = .slice a' m' d' ∧ Hid (m' = 32 * t + k) ∧ OwnT w.heap.size wr a' m' d' (bitsTo v m') ∧ Below w.heap.size w wr)
        (fun _ i _ => 32 - (intOf i).toNat)
      case atStart => exact ⟨0, 32 * t, a, d, by omega, rfl, rfl, rfl, ho, hb⟩
      case round =>
        obtain ⟨k, m', a', d', hk, rfl, rfl, hm', ho', hb'⟩ := hrel
        by_cases hk32 : k < 32
        · have hwr := (H.out.below hb')
          have hia := ix hwr t hlt
          obtain ⟨x, HX, hx0, hx1, hcx⟩ := hwr.at t hlt
          obtain ⟨X, rfl⟩ := Int.eq_ofNat_of_zero_le hx0
          have hbit := bit_eq hok.out hv.out.symm hk32 HX.out
          rw [← hm'.out] at hbit
          have hm1 : m' ≤ 34359738368 := by rw [hm'.out]; omega
          obtain ⟨b, hbb⟩ : ∃ b, Hid (b = v.testBit m') := ⟨_, rfl⟩
          rw [← hbb.out] at hbit
          have hkd : decide ((k : Int) < 32) = true := by simp; omega
          have HC := Lib.hid (World.ownsRow.alloc ho' (.cells #[Value.bool b] 4))
          have HO := Lib.hid ho'
          have hsz := hb'.size
          have HB := Lib.hid hb'
          have b63 : Hid (m' + 1 ≤ maxLen) := by show m' + 1 ≤ maxLen; unfold maxLen; omega
          clear hwr ho hb ho' hb'
          go_wp2_with (at_builtin; refine wpList_append_own _ rfl _ _ 28 rfl w.heap.size 4 i0 (.bool false) 1 1 Tryz.underlying28 hi hz0 hz1 hz2 rfl (by decide) _ _ _ rfl HC.out ⟨wr.heap.size, 0, none⟩ 1 1 [.bool b] rfl rfl ?c1 ?c2 b63.out ?c4 ?c5 ?_)
          case c1 =>
            intro t u ht
            match t, ht with
            | 0, ht => simp at ht; subst ht; simp [Addr.add]
          case c2 => intro u hu; simp at hu; subst hu; rfl
          case c4 => omega
          case c5 => simp; omega
          intro v2 w1 hown hgr _
          obtain ⟨a2, d2, rfl⟩ := own_shape hown
          have o2 : OwnT w.heap.size w1 a2 (m' + 1) d2 (bitsTo v (m' + 1)) := by
            show w1.ownsRow _ _ _ _ _ _
            rw [bitsTo_succ, List.map_append, ← hbb.out]
            exact hown
          have b2 := (HB.out.alloc hsz (.cells #[Value.bool b] 4)).grown hgr (by simp; omega) (fun g hg => (HO.out.lt g hg).1)
          have hm2 : Hid (m' + 1 = 32 * t + (k + 1)) := by show m' + 1 = _; rw [hm'.out, Nat.add_assoc]
          clear hown hgr HC HO HB
          go_wp2_with fail
          go_roundw
          case rel => exact ⟨k + 1, m' + 1, a2, d2, by omega, by go_num, rfl, hm2.out, o2, b2⟩
          case measure => simp [intOf]; omega
        · obtain rfl : k = 32 := by omega
          have hmm : m' = 32 * (t + 1) := by rw [hm'.out]; omega
          subst hmm
          clear ho hb
          go_wp2_with fail
          go_roundw
          case rel => exact ⟨t + 1, a', _, d', by omega, by go_num, rfl, rfl, ho', hb'⟩
          case measure => simp [intOf]; omega
    · obtain rfl : t = n := by omega
      have hbv : bval (bitsTo v (32 * t)) = val xs := by rw [bval_bitsTo, Nat.mod_eq_of_lt HLT.out, hv.out]
      have ht := trimT_c a (32 * t) d (bitsTo v (32 * t)) wr ho.lst (by omega)
      rw [hbv] at ht
      have HTR := Lib.hid ht
      have HB := Lib.hid hb
      clear hbv ht ho hb
      go_wp2_with fail
      refine HTR.out.mono ?_
      rintro e w2 ⟨a2, n2, c2, rfl, o2, b2⟩
      go_wp2_with fail
      go_ret
      exact ⟨a2, n2, c2, rfl, o2.low HB.out.size, belowOn HB.out b2 HB.out.size⟩
end Go.Proofs.YtmojcnlddfijjaaGreatDoor
