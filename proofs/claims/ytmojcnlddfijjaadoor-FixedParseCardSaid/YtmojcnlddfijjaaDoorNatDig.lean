/-
  electionref01.Digits.
-/
import Derived.Test.YtmojcnlddfijjaaDoorNatRefDiv
import Derived.Test.YtmojcnlddfijjaaDoorNatRead
import Derived.Test.YtmojcnlddfijjaaDoorNatText
namespace Go.Proofs.YtmojcnlddfijjaaDoor
open Go.RowKit NatMath

/-- The digits of what is left: none of zero. -/
def dvOf (v : Nat) : List UInt8 := if v = 0 then [] else Lib.decDigits v
theorem dvOf_step {v : Nat} (h : v ≠ 0) : dvOf v = dvOf (v / 10) ++ [UInt8.ofNat (48 + v % 10)] := by
  unfold dvOf
  rw [if_neg h]
  by_cases h10 : v < 10
  · rw [if_pos (by omega), Lib.decDigits_one h10, show v % 10 = v by omega]; rfl
  · rw [if_neg (by omega), decDigits_ge (by omega)]
theorem bitsN_len_zero {v : Nat} : (bitsN v).length = 0 ↔ v = 0 := by
  constructor
  · intro h
    rcases Nat.eq_zero_or_pos v with h0 | h0
    · exact h0
    · rw [bitsN_pos (by omega)] at h; simp at h
  · rintro rfl; rw [bitsN_zero]; rfl
theorem bitsN_len_tenth {v : Nat} (h : v ≠ 0) : (bitsN (v / 10)).length < (bitsN v).length := by
  have h1 := bval_lt (bitsN v)
  rw [bval_bitsN] at h1
  obtain ⟨L, hL⟩ : ∃ L, (bitsN v).length = L + 1 := ⟨(bitsN v).length - 1, by have := mt bitsN_len_zero.1 h; omega⟩
  rw [hL, Nat.pow_succ] at h1
  have := bitsN_length (v / 10) L (by omega)
  omega

set_option maxHeartbeats 3200000 in
set_option maxRecDepth 100000 in
theorem digits_c (ao : Option Addr) (n c v : Nat) (w : World) (h : LstB w ao n c (bitsN v)) (hn : n ≤ 200) :
    Calls Tryd.prog 70 #[.slice ao n c] w fun e w' => e = .returned (.string ⟨(Lib.decDigits v).toArray⟩) ∧ Below w.heap.size w w' := by
  have hr1 := h.room
  have hc1 := h.cap
  by_cases hv : v = 0
  · subst hv
    have hn0 : n = 0 := by rw [← h.len, bitsN_zero]; rfl
    subst hn0
    have e : (⟨(Lib.decDigits 0).toArray⟩ : ByteArray) = ⟨#[48]⟩ := by rw [Lib.decDigits_one (by omega)]; rfl
    rw [e]
    go_enter Tryd.func70, Tryd.ntmps70
    go_wp2_with fail
    go_ret
    exact ⟨rfl, Below.refl _ _⟩
  · have hnz : ((n : Int) == 0) = false := by
      have h1 := h.len
      have h2 := mt bitsN_len_zero.1 hv
      simp; omega
    have hst : Hid (dvOf v ++ (⟨#[]⟩ : ByteArray).data.toList = Lib.decDigits v) := by
      show dvOf v ++ [] = _
      rw [List.append_nil]; unfold dvOf; rw [if_neg hv]
    obtain ⟨D, hD⟩ : ∃ D, Hid (D = Lib.decDigits v) := ⟨_, rfl⟩
    rw [← hD.out] at hst ⊢
    go_enter Tryd.func70, Tryd.ntmps70
    go_wp2_with fail
    go_loopw [0, 3] (fun s0 s3 wr => ∃ (u l f : Nat) (a : Option Addr) (S : ByteArray), S.size + l ≤ 200 ∧ s0 = .slice a l f ∧ s3 = .string S ∧ LstB wr a l f (bitsN u) ∧ Hid (dvOf u ++ S.data.toList = D) ∧ Below w.heap.size w wr)
      (fun s0 _ _ => lenOf s0)
    case atStart => exact ⟨v, n, c, ao, ⟨#[]⟩, by simpa [ByteArray.size] using hn, rfl, rfl, h, hst, Below.refl _ _⟩
    case round =>
      obtain ⟨u, l, f, a, S, hl, rfl, rfl, ha, hS, hb⟩ := hrel
      clear hst h
      have hlen := ha.len
      have har := ha.room
      have hac := ha.cap
      by_cases hu : u = 0
      · subst hu
        have hl0 : l = 0 := by rw [← hlen, bitsN_zero]; rfl
        subst hl0
        have e : S = ⟨D.toArray⟩ := by
          have := hS.out
          rw [show dvOf 0 = [] from rfl, List.nil_append] at this
          rw [← this]
        subst e
        go_wp2_with fail
        go_ret
        exact ⟨rfl, hb⟩
      · have hl0 : 0 < l := by
          have h2 := mt bitsN_len_zero.1 hu
          omega
        have HLEN := Lib.hid hlen
        have HU := Lib.hid hu
        have HT := Lib.hid (rd_ten w wr a l f u ha hb)
        clear hlen ha hb hu
        obtain ⟨wo, rfl⟩ : ∃ wo : World, wo = wr := ⟨_, rfl⟩
        go_wp2_with fail
        refine HT.out.mono ?_
        rintro e w2 ⟨a2, m2, d2, rfl, T2, hm2, A2, b2⟩
        have hdv := divT_c _ _ _ _ _ _ _ _ w2 A2 T2 (by omega) (by omega) (by rw [bval_bitsN]; omega)
        rw [bval_bitsN, bval_bitsN] at hdv
        have HDV := Lib.hid hdv
        clear hdv A2 T2 HT
        go_wp2_with fail
        refine HDV.out.mono ?_
        rintro e w3 ⟨a3, n3, c3, a4, n4, c4, rfl, o3, o4, b3⟩
        have bb3 := belowOn b2 b3 b2.size
        have hn3 : n3 < l := by
          have h1 := bitsN_len_tenth HU.out
          rw [HLEN.out, o3.len] at h1
          exact h1
        have hn4 : n4 ≤ 4 := o4.len ▸ bitsN_length (u % 10) 4 (by omega)
        have Q3 := o3.lst
        have R4 := o4.lst
        have hr4 := R4.room
        have hc4 := R4.cap
        clear o3 o4 b3 b2 HDV
        obtain ⟨r, hr⟩ : ∃ r, Hid (r = u % 10) := ⟨_, rfl⟩
        rw [← hr.out] at R4
        have hr10 : r < 10 := by rw [hr.out]; omega
        have hdl := Lib.hid R4.len
        go_wp2_with fail
        go_loopw [6, 7] (fun d i wi => wi = w3 ∧ ∃ j : Nat, j ≤ n4 ∧ i = .int .i64 ((j : Int) - 1) ∧ d = .int .i64 (bval ((bitsN r).drop j))) (fun _ i _ => (intOf i + 1).toNat)
        case atStart => exact ⟨rfl, n4, Nat.le_refl _, rfl, by rw [List.drop_of_length_le (by rw [hdl.out]; exact Nat.le_refl _)]; rfl⟩
        case round =>
          obtain ⟨rfl, j, hj, rfl, rfl⟩ := hrel
          cases j with
          | zero =>
            rw [List.drop_zero, bval_bitsN]
            have hd0 : decide ((0 : Int) ≤ ((0 : Nat) : Int) - 1) = false := by decide
            have hob : OwnB wr.heap.size (wr.alloc (.cells #[Value.int .u8 (48 + (r : Int))] 5)) (.slice (some ⟨wr.heap.size, 0, none⟩) 1 1) [UInt8.ofNat (48 + r)] := by
              have e : Lib.byteCells [UInt8.ofNat (48 + r)] = [Value.int .u8 (48 + (r : Int))] := by simp [Lib.byteCells]; omega
              show World.ownsRow _ _ _ _ _ 1 (Lib.byteCells [UInt8.ofNat (48 + r)])
              rw [e]
              exact World.ownsRow_lit wr #[.int .u8 (48 + (r : Int))] 1 (Nat.le_refl _) (by unfold maxLen; omega) rfl
            have hconv := hob.string
            clear hob
            have hstep : Hid (dvOf (u / 10) ++ ([UInt8.ofNat (48 + r)] ++ S.data.toList) = D) := by
              show dvOf (u / 10) ++ ([UInt8.ofNat (48 + r)] ++ S.data.toList) = D
              rw [← List.append_assoc, hr.out, ← dvOf_step HU.out]
              exact hS.out
            have HST : Hid (dvOf (u / 10) ++ ((⟨#[48 + UInt8.ofNat r]⟩ : ByteArray) ++ S).data.toList = D) := by
              show dvOf (u / 10) ++ ((⟨#[48 + UInt8.ofNat r]⟩ : ByteArray) ++ S).data.toList = D
              rw [ByteArray.data_append, Array.toList_append, ← hstep.out, UInt8.ofNat_add]
              rfl
            have HSZ : Hid (((⟨#[48 + UInt8.ofNat r]⟩ : ByteArray) ++ S).size = 1 + S.size) := by
              show ((⟨#[48 + UInt8.ofNat r]⟩ : ByteArray) ++ S).size = 1 + S.size
              rw [ByteArray.size_append]
              rfl
            have ba := bb3.alloc bb3.size (.cells #[Value.int .u8 (48 + (r : Int))] 5)
            have Q4 := Lib.hid (Q3.below ((Below.refl wr.heap.size wr).alloc (Nat.le_refl _) (.cells #[Value.int .u8 (48 + (r : Int))] 5)))
            have BA := Lib.hid ba
            clear ba R4 Q3 bb3
            go_wp2_with fail
            go_roundw
            case rel => exact ⟨u / 10, n3, c3, a3, _, by rw [HSZ.out]; omega, rfl, rfl, Q4.out, HST.out, BA.out⟩
            case measure => simp [lenOf]; omega
          | succ j =>
            rw [show (((j + 1 : Nat) : Int) - 1) = (j : Int) by omega]
            have hj4 : j < n4 := by omega
            have hia := ixB R4 j hj4
            obtain ⟨b, hbv, hcl⟩ := R4.at j hj4
            have e : Hid (bval ((bitsN r).drop j) = b2n b + 2 * bval ((bitsN r).drop (j + 1))) := by
              show bval ((bitsN r).drop j) = _
              rw [hbv.out]
              exact bval_drop (by rw [hdl.out]; exact hj4)
            obtain ⟨V, hV⟩ : ∃ V, Hid (V = bval ((bitsN r).drop (j + 1))) := ⟨_, rfl⟩
            have hV16 : V < 16 := by
              have h1 := bval_lt ((bitsN r).drop (j + 1))
              have h2 : 2 ^ ((bitsN r).drop (j + 1)).length ≤ 2 ^ 4 := Nat.pow_le_pow_right (by omega) (by rw [List.length_drop, hdl.out]; omega)
              rw [hV.out]
              omega
            rw [← hV.out] at e ⊢
            cases b with
            | false =>
              go_wp2_with fail
              go_roundw
              case rel => exact ⟨trivial, j, by omega, by go_num, by rw [e.out]; simp [b2n]⟩
              case measure => simp [intOf]
            | true =>
              go_wp2_with fail
              go_roundw
              case rel => exact ⟨trivial, j, by omega, by go_num, by rw [e.out]; simp [b2n]; omega⟩
              case measure => simp [intOf]
end Go.Proofs.YtmojcnlddfijjaaDoor
