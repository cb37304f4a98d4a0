/-
  electionref05.Eq of two equal lists; random.New, random.Order, electionref05.Order; electionlaw05.short.
-/
import Derived.Test.YtgomconcfjllcaaDoorRndRefPerm
import Derived.BigQuiet
import Derived.Deep.QuietTactic
namespace Go.Proofs.YtgomconcfjllcaaDoor
open Go.RowKit Dig Rnd

set_option maxHeartbeats 1600000 in
set_option maxRecDepth 100000 in
theorem eqI_c (ao bo : Option Addr) (n c d : Nat) (xs : List Int) (w : World) (h : Lst .i64 w ao n c xs) (h2 : Lst .i64 w bo n d xs) :
    Calls Tryd.prog 15 #[.slice ao n c, .slice bo n d] w fun e w' => e = .returned (.bool true) ∧ Below w.heap.size w w' := by
  have hcap := h.cap
  have hroom := h.room
  have HH := Lib.hid h
  have HH2 := Lib.hid h2
  have hnn : ((n : Int) == (n : Int)) = true := beq_self_eq_true _
  clear h h2
  go_enter Tryd.func15, Tryd.ntmps15
  go_wp2_with fail
  go_loopw [5] (fun i wr => ∃ j : Nat, j ≤ n ∧ i = .int .i64 j ∧ Below w.heap.size w wr) (fun i _ => n - (intOf i).toNat)
  case atStart => exact ⟨0, by omega, rfl, Below.refl _ _⟩
  case round =>
    obtain ⟨j, hj, rfl, B⟩ := hrel
    by_cases hlt : j < n
    · have hlt' : (j : Int) < (n : Int) := by omega
      have L1 := HH.out.below B
      have L2 := HH2.out.below B
      have hix1 := ixI L1 j j rfl hlt
      have hix2 := ixI L2 j j rfl hlt
      obtain ⟨x, hx⟩ : ∃ x, Hid (x = xs.getD j 0) := ⟨_, rfl⟩
      have hc1 := L1.cell j hlt
      have hc2 := L2.cell j hlt
      rw [← hx.out] at hc1 hc2
      have hxx : (x == x) = true := beq_self_eq_true _
      have HB := Lib.hid B
      clear L1 L2 B
      go_wp2_with fail
      go_quiet (fail)
      go_wp2_with fail
      go_roundw
      case rel => exact ⟨j + 1, by omega, by go_num, below_drewN HB.out _⟩
      case measure => simp [intOf]; omega
    · obtain rfl : j = n := by omega
      go_wp2_with fail
      go_ret
      exact ⟨rfl, B⟩

theorem Own.lower {e : TypeId} {k : IntKind} {B B' : Nat} {w : World} {ao : Option Addr} {n c : Nat} {xs : List Int} (h : Own e k B w ao n c xs) (hB : B' ≤ B) : Own e k B' w ao n c xs := by
  refine ⟨⟨h.1.1, ?_⟩, h.2⟩
  rcases h.1.2 with h | ⟨g, cap, cur, hv, hg, r⟩
  · exact Or.inl h
  · exact Or.inr ⟨g, cap, cur, hv, Nat.le_trans hB hg, r⟩
/-- A fresh source. -/
theorem new_src (t : TypeId) (w : World) (S : ByteArray) : Src t (w.alloc (.cells #[.string S, .int .u64 0] t)) w.heap.size S 0 := Arr.new w t [.string S, .int .u64 0]

set_option maxHeartbeats 1600000 in
set_option maxRecDepth 100000 in
theorem new_c (S : ByteArray) (w : World) :
    Calls Tryd.prog 10 #[.string S] w fun e w' => ∃ g, e = .returned (.pointer (some ⟨g, 0, none⟩)) ∧ w.heap.size ≤ g ∧ Src 44 w' g S 0 ∧ Below w.heap.size w w' := by
  have b1 : Below w.heap.size w (w.alloc (.cells #[.string S, .int .u64 0] 44)) := (Below.refl _ _).alloc (Nat.le_refl _) _
  have s1 := new_src 44 w S
  have HB := Lib.hid b1
  have HS := Lib.hid s1
  clear b1 s1
  go_enter Tryd.func10, Tryd.ntmps10
  go_wp2_with fail
  go_ret
  exact ⟨_, rfl, Nat.le_refl _, HS.out, HB.out⟩

set_option maxHeartbeats 1600000 in
set_option maxRecDepth 100000 in
theorem order_c (S : ByteArray) (n : Nat) (w : World) (hs : S.size ≤ 1000) (hn : n ≤ 1024) (hK : KTab 1 w) :
    Calls Tryd.prog 19 #[.string S, .int .i64 (n : Int)] w fun e w' => ∃ ao c, e = .returned (.slice ao n c) ∧ Own 3 .i64 w.heap.size w' ao n c (permN S n 0).1 ∧ Below w.heap.size w w' := by
  have HC := Lib.hid (new_c S w)
  go_enter Tryd.func19, Tryd.ntmps19
  go_wp2_with fail
  refine HC.out.mono ?_
  rintro e w1 ⟨g, rfl, hg, S1, b1⟩
  have HP := Lib.hid (perm_c g S 0 n w1 S1 hs (by omega) hn (hK.below b1))
  go_wp2_with fail
  refine HP.out.mono ?_
  rintro e w2 ⟨ao, c, rfl, O2, _, G2⟩
  have B2 : Below w.heap.size w w2 := below_grown b1 G2 b1.size hg
  have O3 : Own 3 .i64 w.heap.size w2 ao n c (permN S n 0).1 := O2.lower b1.size
  clear O2 G2
  go_wp2_with fail
  go_ret
  exact ⟨_, _, rfl, O3, B2⟩
set_option maxHeartbeats 1600000 in
set_option maxRecDepth 100000 in
theorem order_no (S : ByteArray) (n : Int) (w : World) (hn : n < 0 ∨ 1024 < n) :
    Calls Tryd.prog 19 #[.string S, .int .i64 n] w fun e w' => e = .returned (.slice none 0 0) ∧ Below w.heap.size w w' := by
  have HC := Lib.hid (new_c S w)
  have HN := Lib.hid hn
  clear hn
  go_enter Tryd.func19, Tryd.ntmps19
  go_wp2_with fail
  refine HC.out.mono ?_
  rintro e w1 ⟨g, rfl, hg, S1, b1⟩
  have HP := Lib.hid (perm_no (some ⟨g, 0, none⟩) n w1 (Or.inr HN.out))
  go_wp2_with fail
  refine HP.out.mono ?_
  rintro e w2 ⟨rfl, rfl⟩
  go_wp2_with fail
  go_ret
  exact ⟨rfl, b1⟩
set_option maxHeartbeats 1600000 in
set_option maxRecDepth 100000 in
theorem reforder_c (S : ByteArray) (n : Nat) (w : World) (hs : S.size ≤ 1000) (hn : n ≤ 1024) (hK : KTab 0 w) :
    Calls Tryd.prog 20 #[.string S, .int .i64 (n : Int)] w fun e w' => ∃ ao c, e = .returned (.slice ao n c) ∧ Own 3 .i64 w.heap.size w' ao n c (permN S n 0).1 ∧ Below w.heap.size w w' := by
  obtain ⟨V, hV⟩ : ∃ V, Hid (V = w.alloc (.cells #[.string S, .int .u64 0] 29)) := ⟨_, rfl⟩
  have b1 : Below w.heap.size w V := by rw [hV.out]; exact (Below.refl _ _).alloc (Nat.le_refl _) _
  have S1 : Src 29 V w.heap.size S 0 := by rw [hV.out]; exact new_src 29 w S
  have HP := Lib.hid (refperm_c w.heap.size S 0 n V S1 hs (by omega) hn (hK.below b1))
  have HB := Lib.hid b1
  clear b1 S1
  go_enter Tryd.func20, Tryd.ntmps20
  go_wp2_with fail
  rw [← hV.out]
  refine HP.out.mono ?_
  rintro e w2 ⟨ao, c, rfl, O2, _, G2⟩
  have B2 : Below w.heap.size w w2 := below_grown HB.out G2 HB.out.size (Nat.le_refl _)
  have O3 : Own 3 .i64 w.heap.size w2 ao n c (permN S n 0).1 := O2.lower HB.out.size
  clear O2 G2
  go_wp2_with fail
  go_ret
  exact ⟨_, _, rfl, O3, B2⟩

/-- What short leaves of a seed. -/
theorem short_c (S : ByteArray) (w : World) (hs : S.size ≤ maxLen) :
    Calls Tryd.prog 9 #[.string S] w fun e w' => ∃ T : ByteArray, e = .returned (.string T) ∧ T.size ≤ 20 ∧ w = w' := by
  unfold maxLen at hs
  by_cases h : S.size ≤ 20
  · have hmn : min (S.size : Int) 20 = (S.size : Int) := by omega
    go_enter Tryd.func9, Tryd.ntmps9
    go_wp2_with fail
    go_ret
    exact ⟨S, rfl, h, rfl⟩
  · have hmn : min (S.size : Int) 20 = 20 := by omega
    have hz : (S.extract 0 20).size ≤ 20 := by rw [ByteArray.size_extract]; omega
    go_enter Tryd.func9, Tryd.ntmps9
    go_wp2_with fail
    all_goals
      go_ret
      first | exact ⟨S.extract 0 20, rfl, hz, rfl⟩ | exact ⟨_, rfl, hz, rfl⟩
end Go.Proofs.YtgomconcfjllcaaDoor
