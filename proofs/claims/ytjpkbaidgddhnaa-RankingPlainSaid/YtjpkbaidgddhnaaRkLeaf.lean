/-
  ranking.marksOf, ranking.endsRanking; electionref13.marks; electionref05.Eq.
-/
import Derived.Test.YtjpkbaidgddhnaaRkBase
namespace Go.Proofs.Ytjpkbaidgddhnaa
open Go.RowKit Rk

namespace Rk
theorem mk_skip {n : Nat} {x : Int} {l : List Int} {f : Int} {k : Nat} (h : x < 0 ∨ (n : Int) ≤ x) : mk n (x :: l) f k = mk n l f k := by rw [mk, if_pos h]
theorem mk_first {n : Nat} {x : Int} {l : List Int} {f : Int} (h : ¬ (x < 0 ∨ (n : Int) ≤ x)) : mk n (x :: l) f 0 = mk n l x 1 := by rw [mk, if_neg h, if_pos rfl]
theorem mk_same {n : Nat} {l : List Int} {f : Int} (h : ¬ (f < 0 ∨ (n : Int) ≤ f)) : mk n (f :: l) f 1 = mk n l f 1 := by rw [mk, if_neg h, if_neg (by decide), if_pos rfl]
theorem mk_more {n : Nat} {x : Int} {l : List Int} {f : Int} (h : ¬ (x < 0 ∨ (n : Int) ≤ x)) (hx : x ≠ f) : mk n (x :: l) f 1 = (f, 2) := by rw [mk, if_neg h, if_neg (by decide), if_neg hx]
end Rk
set_option maxHeartbeats 1600000 in
set_option maxRecDepth 100000 in
theorem marksOf_c (ao : Option Addr) (m c : Nat) (xs : List Int) (n : Nat) (w : World) (h : Lst .i64 w ao m c xs) (hn : n ≤ 1000) :
    Calls Try.prog 13 #[.slice ao m c, .int .i64 (n : Int)] w fun e w' => e = .returned (.tuple #[.int .i64 (mk n xs 0 0).1, .int .i64 ((mk n xs 0 0).2 : Int)]) ∧ w = w' := by
  have hcap := h.cap
  have hroom := h.room
  have HH := Lib.hid h
  have hl := Lib.hid h.len
  obtain ⟨A, hA⟩ : ∃ A, Hid ((mk n xs 0 0).1 = A) := ⟨_, rfl⟩
  obtain ⟨N, hN⟩ : ∃ N, Hid ((mk n xs 0 0).2 = N) := ⟨_, rfl⟩
  rw [hA.out, hN.out]
  have hI : Hid (mk n (xs.drop 0) 0 0 = (A, N)) := by show _ = _; rw [← hA.out, ← hN.out]; rfl
  clear h hA hN
  go_enter Try.func13, Try.ntmps13
  go_wp2_with fail
  go_loop [6, 7, 12] (fun fv kv i => ∃ (f : Int) (k j : Nat), j ≤ m ∧ k ≤ 1 ∧ fv = .int .i64 f ∧ kv = .int .i64 (k : Int) ∧ i = .int .i64 (j : Int) ∧ Hid (mk n (xs.drop j) f k = (A, N))) (fun _ _ i => m - (intOf i).toNat)
  case atStart => exact ⟨0, 0, 0, by omega, by omega, rfl, rfl, rfl, hI⟩
  case round =>
    obtain ⟨f, k, j, hj, hk, rfl, rfl, rfl, hM⟩ := hrel
    clear hI
    by_cases hlt : j < m
    · have hlt' : (j : Int) < (m : Int) := by omega
      have hix := ixI HH.out j j rfl hlt
      obtain ⟨x, _, _, hx1, hx2, hd, hc⟩ := HH.out.at j hlt
      have hM2 := hM.out
      rw [hd] at hM2
      have hM3 := Lib.hid hM2
      clear hd hM hM2
      by_cases hin : x < 0 ∨ (n : Int) ≤ x
      · have hM4 : Hid (mk n (xs.drop (j + 1)) f k = (A, N)) := by have := hM3.out; rw [mk_skip hin] at this; exact this
        by_cases h0 : x < 0
        · clear hin
          go_wp2_with fail
          go_round
          case rel => exact ⟨f, k, j + 1, by omega, hk, rfl, rfl, by go_num, hM4⟩
          case measure => simp [intOf]; omega
        · have h1 : (n : Int) ≤ x := by omega
          have h1' : x ≥ (n : Int) := h1
          clear hin
          go_wp2_with fail
          go_round
          case rel => exact ⟨f, k, j + 1, by omega, hk, rfl, rfl, by go_num, hM4⟩
          case measure => simp [intOf]; omega
      · have h0 : ¬ x < 0 := by omega
        have h1 : ¬ (n : Int) ≤ x := by omega
        have h1' : ¬ x ≥ (n : Int) := h1
        by_cases hk0 : k = 0
        · subst hk0
          have hM4 : Hid (mk n (xs.drop (j + 1)) x 1 = (A, N)) := by have := hM3.out; rw [mk_first hin] at this; exact this
          clear hin
          go_wp2_with fail
          go_round
          case rel => exact ⟨x, 1, j + 1, by omega, by omega, rfl, rfl, by go_num, hM4⟩
          case measure => simp [intOf]; omega
        · obtain rfl : k = 1 := by omega
          by_cases hf : x = f
          · subst hf
            have hM4 : Hid (mk n (xs.drop (j + 1)) x 1 = (A, N)) := by have := hM3.out; rw [mk_same hin] at this; exact this
            clear hin
            go_wp2_with fail
            go_round
            case rel => exact ⟨x, 1, j + 1, by omega, by omega, rfl, rfl, by go_num, hM4⟩
            case measure => simp [intOf]; omega
          · have hM4 := hM3.out
            rw [mk_more hin hf] at hM4
            injection hM4 with e1 e2
            have hne : (x != f) = true := by simpa using hf
            clear hin
            go_wp2_with fail
            go_ret2
            exact ⟨by rw [← e1, ← e2]; rfl, rfl⟩
    · obtain rfl : j = m := by omega
      have hM4 := hM.out
      rw [List.drop_of_length_le (by rw [hl.out]; exact Nat.le_refl _)] at hM4
      injection hM4 with e1 e2
      go_wp2_with fail
      go_ret2
      exact ⟨by rw [← e1, ← e2]; rfl, rfl⟩

set_option maxHeartbeats 1600000 in
set_option maxRecDepth 100000 in
theorem endsR_c (sk : Int) (b : Bool) (w : World) :
    Calls Try.prog 14 #[.int .i64 sk, .bool b] w fun e w' => e = .returned (.bool (ends sk b)) ∧ w = w' := by
  by_cases h1 : sk = 1
  · subst h1
    go_enter Try.func14, Try.ntmps14
    go_wp2_with fail
    go_ret
    exact ⟨rfl, rfl⟩
  · have h1' : (sk == 1) = false := by simpa using h1
    by_cases h3 : sk = 3
    · subst h3
      go_enter Try.func14, Try.ntmps14
      go_wp2_with fail
      go_ret
      exact ⟨rfl, rfl⟩
    · have h3' : (sk == 3) = false := by simpa using h3
      have he : Hid (ends sk b = true) := by show _ = _; unfold ends; rw [if_neg h1, if_neg h3]
      rw [he.out]
      clear h1 h3
      go_enter Try.func14, Try.ntmps14
      go_wp2_with fail
      go_ret
      exact ⟨rfl, rfl⟩

set_option maxHeartbeats 1600000 in
set_option maxRecDepth 100000 in
theorem marks_c (ao : Option Addr) (m c : Nat) (xs : List Int) (n : Nat) (w : World) (h : Lst .i64 w ao m c xs) (hn : n ≤ 1000) :
    Calls Try.prog 15 #[.slice ao m c, .int .i64 (n : Int)] w fun e w' => ∃ ro r d, e = .returned (.slice ro r d) ∧ Own 3 .i64 w.heap.size w' ro r d (mks xs n) ∧ Below w.heap.size w w' := by
  have hcap := h.cap
  have hroom := h.room
  have hl := Lib.hid h.len
  have HH : Hid (∀ W, Below w.heap.size w W → Lst .i64 W ao m c xs) := fun W hb => h.below hb
  clear h
  go_enter Try.func15, Try.ntmps15
  go_wp2_with fail
  go_loopw [5, 6] (fun ov iv wr => ∃ (k : Nat) (ro : Option Addr) (r d : Nat), k ≤ n ∧ iv = .int .i64 (k : Int) ∧ ov = .slice ro r d ∧ Own 3 .i64 w.heap.size wr ro r d (mks xs k) ∧ Below w.heap.size w wr) (fun _ iv _ => n - (intOf iv).toNat)
  case atStart => exact ⟨0, none, 0, 0, Nat.zero_le _, rfl, rfl, own_nil _ _ _ _, Below.refl _ _⟩
  case round =>
    obtain ⟨v1, hv1⟩ : ∃ y, y = wr := ⟨_, rfl⟩
    subst hv1
    obtain ⟨k, ro, r, d, hk, rfl, rfl, O, B⟩ := hrel
    by_cases hlt : k < n
    · have hlt' : (k : Int) < (n : Int) := by omega
      have HL := Lib.hid (HH.out _ B)
      have HO := Lib.hid O
      have HB := Lib.hid B
      have hsz := Lib.hid B.size
      clear O B
      go_wp2_with fail
      go_loopw [7, 8] (fun bv jv wx => ∃ (j : Nat) (b : Bool), j ≤ m ∧ jv = .int .i64 (j : Int) ∧ bv = .bool b ∧ Hid (b = decide ((k : Int) ∈ xs.take j)) ∧ wx = v1) (fun _ jv _ => m - (intOf jv).toNat)
      case atStart => exact ⟨0, false, Nat.zero_le _, rfl, rfl, by show _ = _; simp, rfl⟩
      case round =>
        obtain ⟨j, b, hj, rfl, rfl, hb, rfl⟩ := hrel
        by_cases hjl : j < m
        · have hjl' : (j : Int) < (m : Int) := by omega
          have hix := ixI HL.out j j rfl hjl
          obtain ⟨x, hx0, _, hx1, hx2, hd, hc⟩ := HL.out.at j hjl
          have htk : xs.take (j + 1) = xs.take j ++ [x] := by
            rw [List.take_add_one]
            congr 1
            rw [List.getD_eq_getElem?_getD] at hx0
            rw [List.getElem?_eq_getElem (by rw [hl.out]; exact hjl)] at hx0 ⊢
            simpa using hx0
          have hb2 : Hid ((b || (x == (k : Int))) = decide ((k : Int) ∈ xs.take (j + 1))) := by
            show _ = _
            rw [hb.out, htk]
            by_cases e : x = (k : Int)
            · simp [e]
            · have e2 : ¬ (k : Int) = x := fun h => e h.symm
              simp [e, e2]
          clear hd htk hx0
          obtain ⟨t, ht⟩ : ∃ t, (x == (k : Int)) = t := ⟨_, rfl⟩
          rw [ht] at hb2
          cases b with
          | true =>
            clear ht hix hc
            go_wp2_with fail
            go_roundw
            case rel => exact ⟨j + 1, true, by omega, by go_num, rfl, hb2, trivial⟩
            case measure => simp [intOf]; omega
          | false =>
            go_wp2_with fail
            go_roundw
            case rel => exact ⟨j + 1, t, by omega, by go_num, rfl, hb2, trivial⟩
            case measure => simp [intOf]; omega
        · obtain rfl : j = m := by omega
          have hb2 := hb.out
          rw [List.take_of_length_le (by rw [hl.out]; exact Nat.le_refl _)] at hb2
          have O := HO.out
          have B := HB.out
          have hml : (mks xs k).length ≤ k := mks_len xs k
          have hr : r ≤ 1000 := by have := O.len; omega
          by_cases hm : (k : Int) ∈ xs
          · rw [decide_eq_true hm] at hb2
            subst hb2
            clear HO HB
            have HS : Hid (mks xs (k + 1) = mks xs k ++ [(k : Int)]) := by show _ = _; rw [mks, if_pos hm]
            go_wp2_with (at_builtin; refine wpList_appI O (wf_i64 (by omega) (by omega)) hsz.out (by omega) rfl rfl ?_)
            intro ro' d' w2 O2 _ b2
            rw [← HS.out] at O2
            have B2 := Lib.hid (B.trans b2)
            have HO2 := Lib.hid O2
            clear O2 b2 O B
            go_wp2_with fail
            go_roundw
            case rel => exact ⟨k + 1, ro', r + 1, d', by omega, by go_num, rfl, HO2.out, B2.out⟩
            case measure => simp [intOf]; omega
          · rw [decide_eq_false hm] at hb2
            subst hb2
            have HS : Hid (mks xs (k + 1) = mks xs k) := by show _ = _; rw [mks, if_neg hm]
            clear O B
            go_wp2_with fail
            go_roundw
            case rel => exact ⟨k + 1, ro, r, d, by omega, by go_num, rfl, by rw [HS.out]; exact HO.out, HB.out⟩
            case measure => simp [intOf]; omega
    · obtain rfl : k = n := by omega
      go_wp2_with fail
      go_ret
      exact ⟨ro, r, d, rfl, O, B⟩

set_option maxHeartbeats 1600000 in
set_option maxRecDepth 100000 in
theorem eqI_c (ao bo : Option Addr) (n c d : Nat) (xs : List Int) (w : World) (h : Lst .i64 w ao n c xs) (h2 : Lst .i64 w bo n d xs) :
    Calls Try.prog 10 #[.slice ao n c, .slice bo n d] w fun e w' => e = .returned (.bool true) ∧ Below w.heap.size w w' := by
  have hcap := h.cap
  have hroom := h.room
  have HH := Lib.hid h
  have HH2 := Lib.hid h2
  have hnn : ((n : Int) == (n : Int)) = true := beq_self_eq_true _
  clear h h2
  go_enter Try.func10, Try.ntmps10
  go_wp2_with fail
  go_loopw [5] (fun i wr => ∃ j : Nat, j ≤ n ∧ i = .int .i64 j ∧ Below w.heap.size w wr) (fun i _ => n - (intOf i).toNat)
  case atStart => exact ⟨0, by omega, rfl, Below.refl _ _⟩
  case round =>
    obtain ⟨j, hj, rfl, B⟩ := hrel
    by_cases hlt : j < n
    · have hlt' : (j : Int) < (n : Int) := by omega
      have L1 := HH.out.below B
      have L2 := HH2.out.below B
      have hix1 := ixI L1 j j rfl hlt
      have hix2 := ixI L2 j j rfl hlt
      obtain ⟨x, hx⟩ : ∃ x, Hid (x = xs.getD j 0) := ⟨_, rfl⟩
      have hc1 := L1.cell j hlt
      have hc2 := L2.cell j hlt
      rw [← hx.out] at hc1 hc2
      have hxx : (x == x) = true := beq_self_eq_true _
      have HB := Lib.hid B
      clear L1 L2 B
      go_wp2_with fail
      go_quiet (fail)
      go_wp2_with fail
      go_roundw
      case rel => exact ⟨j + 1, by omega, by go_num, below_drewN HB.out _⟩
      case measure => simp [intOf]; omega
    · obtain rfl : j = n := by omega
      go_wp2_with fail
      go_ret
      exact ⟨rfl, B⟩
end Go.Proofs.Ytjpkbaidgddhnaa
