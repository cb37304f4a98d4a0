/-
  The program's Xor and Turn.
-/
import Derived.Test.YtcgfoagfoncjiaaImgAwake
import Derived.Laws.BitsLemmas
namespace Go.Proofs.Ytcgfoagfoncjiaa
open Go.RowKit Im

namespace Im
theorem bit_xor (x y j : Nat) : decide ((x ^^^ y) >>> j % 2 = 1) = (decide (x >>> j % 2 = 1) != decide (y >>> j % 2 = 1)) := by
  have h : ∀ z : Nat, decide (z >>> j % 2 = 1) = Nat.testBit z j := fun z => by
    rw [Nat.testBit_eq_decide_div_mod_eq, Nat.shiftRight_eq_div_pow]
  rw [h, h, h, Nat.testBit_xor]
/-- The bits that differ. -/
def xorB (f g : Nat → Bool) : Nat → Bool := fun k => f k != g k
theorem byteP_xor (f g : Nat → Bool) (k : Nat) : byteP (xorB f g) k = byteP f k ^^^ byteP g k := by
  have hb : ∀ (f : Nat → Bool) (j : Nat), j < 8 → decide (byteP f k >>> (7 - j) % 2 = 1) = f (8 * k + j) := by
    intro f j hj
    have := bit_pack f (k + 1) (8 * k + j) (by omega)
    unfold bitL at this
    rw [packP_get f (k + 1) _ (by omega), show (8 * k + j) / 8 = k by omega, show (8 * k + j) % 8 = j by omega, Int.toNat_natCast] at this
    exact this
  have hx : byteP f k ^^^ byteP g k < 256 := Nat.xor_lt_two_pow (n := 8) (byte8_lt _ _ _ _ _ _ _ _) (byte8_lt _ _ _ _ _ _ _ _)
  rw [← of8 _ hx]
  simp only [bit_xor]
  have e7 := hb f 0 (by omega); have e6 := hb f 1 (by omega); have e5 := hb f 2 (by omega); have e4 := hb f 3 (by omega); have e3 := hb f 4 (by omega); have e2 := hb f 5 (by omega); have e1 := hb f 6 (by omega); have e0 := hb f 7 (by omega)
  have g7 := hb g 0 (by omega); have g6 := hb g 1 (by omega); have g5 := hb g 2 (by omega); have g4 := hb g 3 (by omega); have g3 := hb g 4 (by omega); have g2 := hb g 5 (by omega); have g1 := hb g 6 (by omega); have g0 := hb g 7 (by omega)
  simp only [Nat.sub_zero, Nat.reduceSub, Nat.sub_self, Nat.add_zero] at e7 e6 e5 e4 e3 e2 e1 e0 g7 g6 g5 g4 g3 g2 g1 g0
  rw [e7, e6, e5, e4, e3, e2, e1, e0, g7, g6, g5, g4, g3, g2, g1, g0]
  rfl
theorem bits_xorN (k : IntKind) (j : Nat) (hj : j ≤ k.bits) (hk : ∀ n : Int, 0 ≤ n → n < 2 ^ j → k.wrap n = n) (a b : Nat) (ha : a < 2 ^ j) (hb : b < 2 ^ j) : bits .xor k a b = ((a ^^^ b : Nat) : Int) := by
  have hp : 2 ^ j ≤ 2 ^ k.bits := Nat.pow_le_pow_right (by decide) hj
  have ha' : a % 2 ^ k.bits = a := Nat.mod_eq_of_lt (Nat.lt_of_lt_of_le ha hp)
  have hb' : b % 2 ^ k.bits = b := Nat.mod_eq_of_lt (Nat.lt_of_lt_of_le hb hp)
  simp only [bits, BitVec.ofInt_natCast, BitVec.toNat_xor, BitVec.toNat_ofNat, ha', hb']
  exact hk _ (Int.natCast_nonneg _) (by exact_mod_cast Nat.xor_lt_two_pow ha hb)
theorem xor8 (x y : Nat) (hx : x < 256) (hy : y < 256) : bits BinOp.xor IntKind.u8 (x : Int) (y : Int) = ((x ^^^ y : Nat) : Int) :=
  bits_xorN .u8 8 (by decide) (fun n h0 h1 => by rw [IntKind.wrap_u8]; omega) x y hx hy
/-- The first m bytes written anew. -/
def mixP (f g : Nat → Bool) (i m : Nat) : List Int := (List.range m).map fun k => if k < i then (byteP f k : Int) else (byteP g k : Int)
theorem mixP_zero (f g : Nat → Bool) (m : Nat) : mixP f g 0 m = packP g m := by
  unfold mixP packP
  apply List.map_congr_left
  intro k _
  rw [if_neg (by omega)]
theorem mixP_end (f g : Nat → Bool) (m : Nat) : mixP f g m m = packP f m := by
  unfold mixP packP
  apply List.map_congr_left
  intro k hk
  rw [if_pos (List.mem_range.1 hk)]
theorem mixP_next (f g : Nat → Bool) (i m : Nat) (hi : i < m) : (mixP f g i m).set i (byteP f i : Int) = mixP f g (i + 1) m := by
  apply List.ext_getElem?
  intro k
  unfold mixP
  rw [List.getElem?_set, List.length_map, List.length_range]
  by_cases e : i = k
  · subst e
    rw [if_pos rfl, if_pos hi, List.getElem?_map, List.getElem?_range hi]
    simp
  · rw [if_neg e]
    by_cases hk : k < m
    · rw [List.getElem?_map, List.getElem?_map, List.getElem?_range hk]
      simp only [Option.map_some]
      by_cases h : k < i
      · rw [if_pos h, if_pos (by omega)]
      · rw [if_neg h, if_neg (by omega)]
    · rw [List.getElem?_eq_none (by simp; omega), List.getElem?_eq_none (by simp; omega)]
end Im
theorem new_of {v u n : Nat} {bs : List Int} {B : Nat} {w : World} {e : Ending} (hO : OkI v u bs) (hlen : bs.length = n) (h : NewOut B v u e w) : ∃ gc, e = .returned (.tuple #[.agg #[.int .i64 (v : Int), .int .i64 (u : Int), .slice (some ⟨gc, 0, none⟩) n n], .int .i64 0]) ∧ Own 5 .u8 B w (some ⟨gc, 0, none⟩) n n (packP noB n) := by
  rcases h with ⟨v', u', m, gc, ev, eu, _, _, _, _, hm, rfl, ON⟩ | ⟨hno, _⟩
  · have ev : v = v' := by omega
    have eu : u = u' := by omega
    subst ev eu
    have hmn : m = n := by rw [hm, ← hO.len, hlen]
    subst hmn
    exact ⟨gc, rfl, ON⟩
  · exact absurd ⟨by have := hO.w1; omega, by have := hO.w2; omega, by have := hO.h1; omega, by have := hO.h2; omega⟩ hno
/-- Two boxes of images. -/
theorem two_img (w : World) (x y x' y' : Int) (ao bo : Option Addr) (n c m d : Nat) : ∃ V U, w.alloc (.cells #[.int .i64 x, .int .i64 y, .slice ao n c] 24) = V ∧ V.alloc (.cells #[.int .i64 x', .int .i64 y', .slice bo m d] 24) = U ∧ V.heap.size = w.heap.size + 1 ∧
    Arr U w.heap.size 24 [.int .i64 x, .int .i64 y, .slice ao n c] ∧ Arr U (w.heap.size + 1) 24 [.int .i64 x', .int .i64 y', .slice bo m d] ∧ Below w.heap.size w U ∧ U.heap.size = w.heap.size + 2 := by
  obtain ⟨V, e1, AV, BV, hz⟩ := new_img w x y ao n c
  obtain ⟨U, e2, AU, BU, hz2⟩ := new_img V x' y' bo m d
  rw [hz] at AU
  exact ⟨V, U, e1, e2, hz, AV.kept BU, AU, BV.trans (BU.mono (by omega)), by omega⟩
end Go.Proofs.Ytcgfoagfoncjiaa
