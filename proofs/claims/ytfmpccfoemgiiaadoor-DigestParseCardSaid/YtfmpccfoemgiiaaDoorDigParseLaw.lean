/-
  The walk of DigestParse.
-/
import Derived.Test.YtfmpccfoemgiiaaDoorDigAwake
import Derived.Test.YtfmpccfoemgiiaaDoorDigRefText
import Derived.Test.YtfmpccfoemgiiaaDoorDigTextMath
import Derived.Test.YtfmpccfoemgiiaaDoorDigReg
import Derived.Test.YtfmpccfoemgiiaaDoorDigSumLaw
namespace Go.Proofs.YtfmpccfoemgiiaaDoor
open Go.RowKit Dig

theorem hx_good {c : Nat} (h : (48 ≤ c ∧ c ≤ 57) ∨ (97 ≤ c ∧ c ≤ 102)) : 0 ≤ hx c := by
  unfold hx
  rcases h with h | h
  · rw [if_pos h]; omega
  · rw [if_neg (by omega), if_pos h]; omega
theorem hx_bad {c : Nat} (h : ¬ ((48 ≤ c ∧ c ≤ 57) ∨ (97 ≤ c ∧ c ≤ 102))) : ¬ 0 ≤ hx c := by
  unfold hx
  rw [if_neg (fun h' => h (Or.inl h')), if_neg (fun h' => h (Or.inr h'))]
  decide
/-- Sixty-four bytes, the first i of them digits. -/
def okTo (s : ByteArray) (i : Nat) : Bool := s.size == 64 && (List.range i).all fun j => decide (0 ≤ hx (byt s j))
theorem okTo_iff (s : ByteArray) (i : Nat) : okTo s i = true ↔ s.size = 64 ∧ HexTo s i := by
  simp [okTo, HexTo]
theorem okTo_next (s : ByteArray) (i : Nat) : okTo s (i + 1) = (okTo s i && decide (0 ≤ hx (byt s i))) := by
  simp [okTo, List.range_succ, Bool.and_assoc]

section
variable {w : World} {a : Act} {Q : Exit → Act → World → Prop} {ops : Array Oper} {rest : List Oper}
theorem wpList_load_g {t e : TypeId} {n : Nat} (ht : ArrT t e n) {d : Option Tmp} {x : Operand} {ty : TypeId} {pos : String} {after : Array Edge} {gd : Option (Nat × Bool)} {g : Nat} {cs : List Value} (hA : Arr w g t cs) (hw : Region.wanted ⟨d, .load t x, ty, pos, after, gd⟩ (yielded ops a.tmps) = true) (hx : a.eval x = .pointer (some ⟨g, 0, none⟩)) (hn : cs.length = n)
    (h : wpList Tryd.prog ops Q rest (a.put d (.agg cs.toArray)) w) : wpList Tryd.prog ops Q (⟨d, .load t x, ty, pos, after, gd⟩ :: rest) a w := by
  rw [wpList, if_pos hw]
  exact Or.inl (wp_load_arr ht hA hx hn h)
end

set_option maxHeartbeats 3200000 in
set_option maxRecDepth 100000 in
theorem parseLawA (s : ByteArray) (w : World) (h70 : 70 < s.size) (hm : s.size ≤ maxLen) (hK : KTab 1 w) :
    Calls Tryd.prog 7 #[.string s] w fun e w' => e = .returned (.bool true) ∧ Below w.heap.size w w' := by
  obtain ⟨U, hUd⟩ : ∃ U, Hid (s.extract 0 70 = U) := ⟨_, rfl⟩
  have hU : Hid (U.size ≤ 70) := by show _ ≤ _; rw [← hUd.out]; simp; omega
  have hlti : (70 : Int) < (s.size : Int) := by omega
  have hx70 := hUd.out
  have hrange : ∀ X : World, True := fun _ => trivial
  -- what Parse answers
  obtain ⟨F, G, HF, HGd, HFd, HPU⟩ : ∃ (F : List Int) (G : Bool), Hid (F.length = 32) ∧ Hid (G = okTo U U.size) ∧ Hid ((G = true → IsD F ∧ textS F = U) ∧ (G = false → F = List.replicate 32 0)) ∧ Hid (∀ w', Calls Tryd.prog 18 #[.string U] w' fun e w'' => e = .returned (.tuple #[.agg (bcells F).toArray, .bool G]) ∧ Below w'.heap.size w' w'') := by
    cases hG : okTo U U.size with
    | true =>
      obtain ⟨h64, hh⟩ := (okTo_iff _ _).1 hG
      rw [h64] at hh
      refine ⟨pd U 32, true, pd_len U 32, rfl, ⟨fun _ => ⟨pd_isD hh, pd_text h64 hh⟩, fun e => by cases e⟩, fun w' => (parse_c U w' (by have := hU.out; omega)).mono fun e w'' ⟨h, b⟩ => ⟨?_, b⟩⟩
      rcases h with ⟨_, _, rfl⟩ | ⟨h, _⟩
      · rfl
      · exact absurd ⟨h64, hh⟩ h
    | false =>
      have hn : ¬ (U.size = 64 ∧ HexTo U 64) := fun ⟨h1, h2⟩ => by
        rw [h1] at hG
        rw [(okTo_iff U 64).2 ⟨h1, h2⟩] at hG
        cases hG
      refine ⟨List.replicate 32 0, false, rfl, rfl, ⟨fun e => (by cases e), fun _ => rfl⟩, fun w' => (parse_c U w' (by have := hU.out; omega)).mono fun e w'' ⟨h, b⟩ => ⟨?_, b⟩⟩
      rcases h with ⟨h1, h2, _⟩ | ⟨_, rfl⟩
      · exact absurd ⟨h1, h2⟩ hn
      · rfl
  have hUs := hU.out
  go_enter Tryd.func7, Tryd.ntmps7
  go_wp2_with fail
  
  refine (HPU.out _).mono ?_
  rintro e w2 ⟨rfl, b2⟩
  have B2 := Lib.hid b2
  have b3 : Below w2.heap.size w2 (w2.alloc (.cells #[.int .u8 0, .int .u8 0, .int .u8 0, .int .u8 0, .int .u8 0, .int .u8 0, .int .u8 0, .int .u8 0, .int .u8 0, .int .u8 0, .int .u8 0, .int .u8 0, .int .u8 0, .int .u8 0, .int .u8 0, .int .u8 0, .int .u8 0, .int .u8 0, .int .u8 0, .int .u8 0, .int .u8 0, .int .u8 0, .int .u8 0, .int .u8 0, .int .u8 0, .int .u8 0, .int .u8 0, .int .u8 0, .int .u8 0, .int .u8 0, .int .u8 0, .int .u8 0] 25)) := (Below.refl _ _).alloc (Nat.le_refl _) _
  have HA3 : Hid (Arr (w2.alloc (.cells #[.int .u8 0, .int .u8 0, .int .u8 0, .int .u8 0, .int .u8 0, .int .u8 0, .int .u8 0, .int .u8 0, .int .u8 0, .int .u8 0, .int .u8 0, .int .u8 0, .int .u8 0, .int .u8 0, .int .u8 0, .int .u8 0, .int .u8 0, .int .u8 0, .int .u8 0, .int .u8 0, .int .u8 0, .int .u8 0, .int .u8 0, .int .u8 0, .int .u8 0, .int .u8 0, .int .u8 0, .int .u8 0, .int .u8 0, .int .u8 0, .int .u8 0, .int .u8 0] 25)) w2.heap.size 25 (bcells [])) := Arr.new w2 25 (bcells [])
  have B3 := Lib.hid (B2.out.trans (b3.mono B2.out.size))
  clear b2 b3
  obtain ⟨q, hq⟩ : ∃ q : Bool, Hid (((U.size : Int) == 64) = q) := ⟨_, rfl⟩
  have hqi := hq.out
  have hq0 : Hid (q = okTo U 0) := by
    show _ = _
    rw [← hq.out, okTo]
    simp only [List.range_zero, List.all_nil, Bool.and_true]
    rcases Nat.decEq U.size 64 with h | h
    · rw [beq_eq_false_iff_ne.2 h, beq_eq_false_iff_ne.2 (by omega)]
    · rw [beq_iff_eq.2 h, beq_iff_eq.2 (by omega)]
  go_wp2_with (((with_reducible refine wpList_store_arr (x := .tmp 3) (y := .tmp 15) (cs := bcells F) arr25 HA3.out ?e1 ?e2 ?e3 ?e4 ?e5 ?_); (case e1 => rfl); (case e2 => rfl); (case e3 => exact bcells_len (Nat.zero_le _)); (case e4 => exact bcells_len (Nat.le_of_eq HF.out)); (case e5 => exact bcells_one F); intro w3 hA9 hO9))
  have R3 : Arr w3 w2.heap.size 25 (bcells F) ∧ Below w.heap.size w w3 := ⟨hA9, hO9.below B3.out B3.out.size B2.out.size⟩
  clear hA9 hO9 HA3 B3
  try clear hqi
  go_loopw [5, 6] (fun v x wr => ∃ i : Nat, i ≤ U.size ∧ x = .int .i64 i ∧ v = .bool (okTo U i) ∧ (Arr wr w2.heap.size 25 (bcells F) ∧ Below w.heap.size w wr))
    (fun _ x _ => U.size - (intOf x).toNat)
  case atStart => exact ⟨0, Nat.zero_le _, rfl, by rw [hq0.out], R3⟩
  case round =>
    clear R3
    obtain ⟨i, hi, rfl, rfl, hR⟩ := hrel
    have HR := Lib.hid hR
    clear hR
    by_cases hlt : i < U.size
    · have hlti : (i : Int) < (U.size : Int) := by omega
      obtain ⟨c, hc⟩ : ∃ c, Hid (byt U i = c) := ⟨_, rfl⟩
      have x1 := ix_str U i (i : Int) rfl hlt
      have l1 := byt_lt U i
      rw [hc.out] at x1 l1
      cases hG : okTo U i with
      | false =>
        have hnx : Hid (okTo U (i + 1) = false) := by show _ = _; rw [okTo_next, hG]; rfl
        clear hG
        go_wp2
        go_roundw
        case rel => exact ⟨i + 1, by omega, by go_num, by rw [hnx.out], HR.out⟩
        case measure => simp [intOf]; omega
      | true =>
        have HG := Lib.hid hG
        clear hG
        rcases (show c < 48 ∨ (48 ≤ c ∧ c ≤ 57) ∨ (57 < c ∧ c < 97) ∨ (97 ≤ c ∧ c ≤ 102) ∨ 102 < c by omega) with hcc | hcc | hcc | hcc | hcc
        · have m1 : ¬ (48 ≤ (c : Int)) := by omega
          have m3 : ¬ ((97 : Int) ≤ (c : Int)) := by omega
          have hnx : Hid (okTo U (i + 1) = false) := by show _ = _; rw [okTo_next, HG.out, hc.out, Bool.true_and]; exact decide_eq_false (hx_bad (by omega))
          clear hcc
          go_wp2
          go_roundw
          case rel => exact ⟨i + 1, by omega, by go_num, by rw [hnx.out], HR.out⟩
          case measure => simp [intOf]; omega
        · have m1 : (48 : Int) ≤ (c : Int) := by omega
          have m2 : (c : Int) ≤ 57 := by omega
          have hnx : Hid (okTo U (i + 1) = true) := by show _ = _; rw [okTo_next, HG.out, hc.out, Bool.true_and]; exact decide_eq_true (hx_good (by omega))
          clear hcc
          go_wp2
          go_roundw
          case rel => exact ⟨i + 1, by omega, by go_num, by rw [hnx.out], HR.out⟩
          case measure => simp [intOf]; omega
        · have m1 : (48 : Int) ≤ (c : Int) := by omega
          have m2 : ¬ ((c : Int) ≤ 57) := by omega
          have m3 : ¬ ((97 : Int) ≤ (c : Int)) := by omega
          have hnx : Hid (okTo U (i + 1) = false) := by show _ = _; rw [okTo_next, HG.out, hc.out, Bool.true_and]; exact decide_eq_false (hx_bad (by omega))
          clear hcc
          go_wp2
          go_roundw
          case rel => exact ⟨i + 1, by omega, by go_num, by rw [hnx.out], HR.out⟩
          case measure => simp [intOf]; omega
        · have m1 : (48 : Int) ≤ (c : Int) := by omega
          have m2 : ¬ ((c : Int) ≤ 57) := by omega
          have m3 : (97 : Int) ≤ (c : Int) := by omega
          have m4 : (c : Int) ≤ 102 := by omega
          have hnx : Hid (okTo U (i + 1) = true) := by show _ = _; rw [okTo_next, HG.out, hc.out, Bool.true_and]; exact decide_eq_true (hx_good (by omega))
          clear hcc
          go_wp2
          go_roundw
          case rel => exact ⟨i + 1, by omega, by go_num, by rw [hnx.out], HR.out⟩
          case measure => simp [intOf]; omega
        · have m1 : (48 : Int) ≤ (c : Int) := by omega
          have m2 : ¬ ((c : Int) ≤ 57) := by omega
          have m3 : (97 : Int) ≤ (c : Int) := by omega
          have m4 : ¬ ((c : Int) ≤ 102) := by omega
          have hnx : Hid (okTo U (i + 1) = false) := by show _ = _; rw [okTo_next, HG.out, hc.out, Bool.true_and]; exact decide_eq_false (hx_bad (by omega))
          clear hcc
          go_wp2
          go_roundw
          case rel => exact ⟨i + 1, by omega, by go_num, by rw [hnx.out], HR.out⟩
          case measure => simp [intOf]; omega
    · have hi' : i = U.size := by omega
      subst hi'
      have hnl : ¬ ((U.size : Int) < (U.size : Int)) := by omega
      have BR := Lib.hid HR.out.2
      have AR := Lib.hid HR.out.1
      have KR := Lib.hid (hK.below HR.out.2)
      rw [← HGd.out]
      clear HR
      cases G with
      | true =>
        have hd := (HFd.out.1 rfl)
        have HU : Hid (∀ w', Calls Tryd.prog 20 #[.agg (bcells F).toArray] w' fun e w'' => e = .returned (.string U) ∧ Below w'.heap.size w' w'') := fun w' => by
          have := reftext_c F hd.1 w'
          rw [hd.2] at this
          exact this
        have hbeq : (U.toList == U.toList) = true := beq_self_eq_true _
        clear hd
        have HAW := Lib.hid (awake_c wr KR.out)
        go_wp2_with fail
        refine HAW.out.mono ?_
        rintro e w5 ⟨rfl, b5⟩
        have B5 := Lib.hid (BR.out.trans (b5.mono BR.out.size))
        have A5 := Lib.hid (AR.out.kept b5)
        clear b5 HAW KR BR AR
        go_wp2_with (((with_reducible refine wpList_load_g (d := some 60) arr25 A5.out ?ew ?e1 ?e2 ?_); (case ew => rfl); (case e1 => rfl); (case e2 => exact bcells_len (Nat.le_of_eq HF.out))))
        refine (HU.out _).mono ?_
        rintro e w6 ⟨rfl, b6⟩
        have B6 := Lib.hid (B5.out.trans (b6.mono B5.out.size))
        clear b6 B5 A5
        go_wp2
        go_ret
        exact ⟨rfl, B6.out⟩
      | false =>
        have hd := (HFd.out.2 rfl)
        have hz : (Value.agg (bcells F).toArray) = .agg #[.int .u8 0, .int .u8 0, .int .u8 0, .int .u8 0, .int .u8 0, .int .u8 0, .int .u8 0, .int .u8 0, .int .u8 0, .int .u8 0, .int .u8 0, .int .u8 0, .int .u8 0, .int .u8 0, .int .u8 0, .int .u8 0, .int .u8 0, .int .u8 0, .int .u8 0, .int .u8 0, .int .u8 0, .int .u8 0, .int .u8 0, .int .u8 0, .int .u8 0, .int .u8 0, .int .u8 0, .int .u8 0, .int .u8 0, .int .u8 0, .int .u8 0, .int .u8 0] := by rw [hd]; rfl
        have heq := eq_bytes F HF.out
        rw [hz] at heq
        clear hd
        have HAW := Lib.hid (awake_c wr KR.out)
        go_wp2_with fail
        refine HAW.out.mono ?_
        rintro e w5 ⟨rfl, b5⟩
        have B5 := Lib.hid (BR.out.trans (b5.mono BR.out.size))
        have A5 := Lib.hid (AR.out.kept b5)
        clear b5 HAW KR BR AR
        go_wp2_with (((with_reducible refine wpList_load_g (d := some 69) arr25 A5.out ?ew ?e1 ?e2 ?_); (case ew => rfl); (case e1 => rfl); (case e2 => exact bcells_len (Nat.le_of_eq HF.out))))
        have B6 := B5
        go_ret
        exact ⟨rfl, B6.out⟩
set_option maxHeartbeats 3200000 in
set_option maxRecDepth 100000 in
theorem parseLawB (s : ByteArray) (w : World) (h70 : s.size ≤ 70) (hm : s.size ≤ maxLen) (hK : KTab 1 w) :
    Calls Tryd.prog 7 #[.string s] w fun e w' => e = .returned (.bool true) ∧ Below w.heap.size w w' := by
  obtain ⟨U, hUd⟩ : ∃ U, Hid (s.extract 0 s.size = U) := ⟨_, rfl⟩
  have hU : Hid (U.size ≤ 70) := by show _ ≤ _; rw [← hUd.out]; simp; omega
  have hlti : (s.size : Int) ≤ 70 := by omega
  have hx70 := hUd.out
  have hrange : ∀ X : World, True := fun _ => trivial
  -- what Parse answers
  obtain ⟨F, G, HF, HGd, HFd, HPU⟩ : ∃ (F : List Int) (G : Bool), Hid (F.length = 32) ∧ Hid (G = okTo U U.size) ∧ Hid ((G = true → IsD F ∧ textS F = U) ∧ (G = false → F = List.replicate 32 0)) ∧ Hid (∀ w', Calls Tryd.prog 18 #[.string U] w' fun e w'' => e = .returned (.tuple #[.agg (bcells F).toArray, .bool G]) ∧ Below w'.heap.size w' w'') := by
    cases hG : okTo U U.size with
    | true =>
      obtain ⟨h64, hh⟩ := (okTo_iff _ _).1 hG
      rw [h64] at hh
      refine ⟨pd U 32, true, pd_len U 32, rfl, ⟨fun _ => ⟨pd_isD hh, pd_text h64 hh⟩, fun e => by cases e⟩, fun w' => (parse_c U w' (by have := hU.out; omega)).mono fun e w'' ⟨h, b⟩ => ⟨?_, b⟩⟩
      rcases h with ⟨_, _, rfl⟩ | ⟨h, _⟩
      · rfl
      · exact absurd ⟨h64, hh⟩ h
    | false =>
      have hn : ¬ (U.size = 64 ∧ HexTo U 64) := fun ⟨h1, h2⟩ => by
        rw [h1] at hG
        rw [(okTo_iff U 64).2 ⟨h1, h2⟩] at hG
        cases hG
      refine ⟨List.replicate 32 0, false, rfl, rfl, ⟨fun e => (by cases e), fun _ => rfl⟩, fun w' => (parse_c U w' (by have := hU.out; omega)).mono fun e w'' ⟨h, b⟩ => ⟨?_, b⟩⟩
      rcases h with ⟨h1, h2, _⟩ | ⟨_, rfl⟩
      · exact absurd ⟨h1, h2⟩ hn
      · rfl
  have hUs := hU.out
  go_enter Tryd.func7, Tryd.ntmps7
  go_wp2_with fail
  
  refine (HPU.out _).mono ?_
  rintro e w2 ⟨rfl, b2⟩
  have B2 := Lib.hid b2
  have b3 : Below w2.heap.size w2 (w2.alloc (.cells #[.int .u8 0, .int .u8 0, .int .u8 0, .int .u8 0, .int .u8 0, .int .u8 0, .int .u8 0, .int .u8 0, .int .u8 0, .int .u8 0, .int .u8 0, .int .u8 0, .int .u8 0, .int .u8 0, .int .u8 0, .int .u8 0, .int .u8 0, .int .u8 0, .int .u8 0, .int .u8 0, .int .u8 0, .int .u8 0, .int .u8 0, .int .u8 0, .int .u8 0, .int .u8 0, .int .u8 0, .int .u8 0, .int .u8 0, .int .u8 0, .int .u8 0, .int .u8 0] 25)) := (Below.refl _ _).alloc (Nat.le_refl _) _
  have HA3 : Hid (Arr (w2.alloc (.cells #[.int .u8 0, .int .u8 0, .int .u8 0, .int .u8 0, .int .u8 0, .int .u8 0, .int .u8 0, .int .u8 0, .int .u8 0, .int .u8 0, .int .u8 0, .int .u8 0, .int .u8 0, .int .u8 0, .int .u8 0, .int .u8 0, .int .u8 0, .int .u8 0, .int .u8 0, .int .u8 0, .int .u8 0, .int .u8 0, .int .u8 0, .int .u8 0, .int .u8 0, .int .u8 0, .int .u8 0, .int .u8 0, .int .u8 0, .int .u8 0, .int .u8 0, .int .u8 0] 25)) w2.heap.size 25 (bcells [])) := Arr.new w2 25 (bcells [])
  have B3 := Lib.hid (B2.out.trans (b3.mono B2.out.size))
  clear b2 b3
  obtain ⟨q, hq⟩ : ∃ q : Bool, Hid (((U.size : Int) == 64) = q) := ⟨_, rfl⟩
  have hqi := hq.out
  have hq0 : Hid (q = okTo U 0) := by
    show _ = _
    rw [← hq.out, okTo]
    simp only [List.range_zero, List.all_nil, Bool.and_true]
    rcases Nat.decEq U.size 64 with h | h
    · rw [beq_eq_false_iff_ne.2 h, beq_eq_false_iff_ne.2 (by omega)]
    · rw [beq_iff_eq.2 h, beq_iff_eq.2 (by omega)]
  go_wp2_with (((with_reducible refine wpList_store_arr (x := .tmp 3) (y := .tmp 15) (cs := bcells F) arr25 HA3.out ?e1 ?e2 ?e3 ?e4 ?e5 ?_); (case e1 => rfl); (case e2 => rfl); (case e3 => exact bcells_len (Nat.zero_le _)); (case e4 => exact bcells_len (Nat.le_of_eq HF.out)); (case e5 => exact bcells_one F); intro w3 hA9 hO9))
  have R3 : Arr w3 w2.heap.size 25 (bcells F) ∧ Below w.heap.size w w3 := ⟨hA9, hO9.below B3.out B3.out.size B2.out.size⟩
  clear hA9 hO9 HA3 B3
  try clear hqi
  go_loopw [5, 6] (fun v x wr => ∃ i : Nat, i ≤ U.size ∧ x = .int .i64 i ∧ v = .bool (okTo U i) ∧ (Arr wr w2.heap.size 25 (bcells F) ∧ Below w.heap.size w wr))
    (fun _ x _ => U.size - (intOf x).toNat)
  case atStart => exact ⟨0, Nat.zero_le _, rfl, by rw [hq0.out], R3⟩
  case round =>
    clear R3
    obtain ⟨i, hi, rfl, rfl, hR⟩ := hrel
    have HR := Lib.hid hR
    clear hR
    by_cases hlt : i < U.size
    · have hlti : (i : Int) < (U.size : Int) := by omega
      obtain ⟨c, hc⟩ : ∃ c, Hid (byt U i = c) := ⟨_, rfl⟩
      have x1 := ix_str U i (i : Int) rfl hlt
      have l1 := byt_lt U i
      rw [hc.out] at x1 l1
      cases hG : okTo U i with
      | false =>
        have hnx : Hid (okTo U (i + 1) = false) := by show _ = _; rw [okTo_next, hG]; rfl
        clear hG
        go_wp2
        go_roundw
        case rel => exact ⟨i + 1, by omega, by go_num, by rw [hnx.out], HR.out⟩
        case measure => simp [intOf]; omega
      | true =>
        have HG := Lib.hid hG
        clear hG
        rcases (show c < 48 ∨ (48 ≤ c ∧ c ≤ 57) ∨ (57 < c ∧ c < 97) ∨ (97 ≤ c ∧ c ≤ 102) ∨ 102 < c by omega) with hcc | hcc | hcc | hcc | hcc
        · have m1 : ¬ (48 ≤ (c : Int)) := by omega
          have m3 : ¬ ((97 : Int) ≤ (c : Int)) := by omega
          have hnx : Hid (okTo U (i + 1) = false) := by show _ = _; rw [okTo_next, HG.out, hc.out, Bool.true_and]; exact decide_eq_false (hx_bad (by omega))
          clear hcc
          go_wp2
          go_roundw
          case rel => exact ⟨i + 1, by omega, by go_num, by rw [hnx.out], HR.out⟩
          case measure => simp [intOf]; omega
        · have m1 : (48 : Int) ≤ (c : Int) := by omega
          have m2 : (c : Int) ≤ 57 := by omega
          have hnx : Hid (okTo U (i + 1) = true) := by show _ = _; rw [okTo_next, HG.out, hc.out, Bool.true_and]; exact decide_eq_true (hx_good (by omega))
          clear hcc
          go_wp2
          go_roundw
          case rel => exact ⟨i + 1, by omega, by go_num, by rw [hnx.out], HR.out⟩
          case measure => simp [intOf]; omega
        · have m1 : (48 : Int) ≤ (c : Int) := by omega
          have m2 : ¬ ((c : Int) ≤ 57) := by omega
          have m3 : ¬ ((97 : Int) ≤ (c : Int)) := by omega
          have hnx : Hid (okTo U (i + 1) = false) := by show _ = _; rw [okTo_next, HG.out, hc.out, Bool.true_and]; exact decide_eq_false (hx_bad (by omega))
          clear hcc
          go_wp2
          go_roundw
          case rel => exact ⟨i + 1, by omega, by go_num, by rw [hnx.out], HR.out⟩
          case measure => simp [intOf]; omega
        · have m1 : (48 : Int) ≤ (c : Int) := by omega
          have m2 : ¬ ((c : Int) ≤ 57) := by omega
          have m3 : (97 : Int) ≤ (c : Int) := by omega
          have m4 : (c : Int) ≤ 102 := by omega
          have hnx : Hid (okTo U (i + 1) = true) := by show _ = _; rw [okTo_next, HG.out, hc.out, Bool.true_and]; exact decide_eq_true (hx_good (by omega))
          clear hcc
          go_wp2
          go_roundw
          case rel => exact ⟨i + 1, by omega, by go_num, by rw [hnx.out], HR.out⟩
          case measure => simp [intOf]; omega
        · have m1 : (48 : Int) ≤ (c : Int) := by omega
          have m2 : ¬ ((c : Int) ≤ 57) := by omega
          have m3 : (97 : Int) ≤ (c : Int) := by omega
          have m4 : ¬ ((c : Int) ≤ 102) := by omega
          have hnx : Hid (okTo U (i + 1) = false) := by show _ = _; rw [okTo_next, HG.out, hc.out, Bool.true_and]; exact decide_eq_false (hx_bad (by omega))
          clear hcc
          go_wp2
          go_roundw
          case rel => exact ⟨i + 1, by omega, by go_num, by rw [hnx.out], HR.out⟩
          case measure => simp [intOf]; omega
    · have hi' : i = U.size := by omega
      subst hi'
      have hnl : ¬ ((U.size : Int) < (U.size : Int)) := by omega
      have BR := Lib.hid HR.out.2
      have AR := Lib.hid HR.out.1
      have KR := Lib.hid (hK.below HR.out.2)
      rw [← HGd.out]
      clear HR
      cases G with
      | true =>
        have hd := (HFd.out.1 rfl)
        have HU : Hid (∀ w', Calls Tryd.prog 20 #[.agg (bcells F).toArray] w' fun e w'' => e = .returned (.string U) ∧ Below w'.heap.size w' w'') := fun w' => by
          have := reftext_c F hd.1 w'
          rw [hd.2] at this
          exact this
        have hbeq : (U.toList == U.toList) = true := beq_self_eq_true _
        clear hd
        have HAW := Lib.hid (awake_c wr KR.out)
        go_wp2_with fail
        refine HAW.out.mono ?_
        rintro e w5 ⟨rfl, b5⟩
        have B5 := Lib.hid (BR.out.trans (b5.mono BR.out.size))
        have A5 := Lib.hid (AR.out.kept b5)
        clear b5 HAW KR BR AR
        go_wp2_with (((with_reducible refine wpList_load_g (d := some 60) arr25 A5.out ?ew ?e1 ?e2 ?_); (case ew => rfl); (case e1 => rfl); (case e2 => exact bcells_len (Nat.le_of_eq HF.out))))
        refine (HU.out _).mono ?_
        rintro e w6 ⟨rfl, b6⟩
        have B6 := Lib.hid (B5.out.trans (b6.mono B5.out.size))
        clear b6 B5 A5
        go_wp2
        go_ret
        exact ⟨rfl, B6.out⟩
      | false =>
        have hd := (HFd.out.2 rfl)
        have hz : (Value.agg (bcells F).toArray) = .agg #[.int .u8 0, .int .u8 0, .int .u8 0, .int .u8 0, .int .u8 0, .int .u8 0, .int .u8 0, .int .u8 0, .int .u8 0, .int .u8 0, .int .u8 0, .int .u8 0, .int .u8 0, .int .u8 0, .int .u8 0, .int .u8 0, .int .u8 0, .int .u8 0, .int .u8 0, .int .u8 0, .int .u8 0, .int .u8 0, .int .u8 0, .int .u8 0, .int .u8 0, .int .u8 0, .int .u8 0, .int .u8 0, .int .u8 0, .int .u8 0, .int .u8 0, .int .u8 0] := by rw [hd]; rfl
        have heq := eq_bytes F HF.out
        rw [hz] at heq
        clear hd
        have HAW := Lib.hid (awake_c wr KR.out)
        go_wp2_with fail
        refine HAW.out.mono ?_
        rintro e w5 ⟨rfl, b5⟩
        have B5 := Lib.hid (BR.out.trans (b5.mono BR.out.size))
        have A5 := Lib.hid (AR.out.kept b5)
        clear b5 HAW KR BR AR
        go_wp2_with (((with_reducible refine wpList_load_g (d := some 69) arr25 A5.out ?ew ?e1 ?e2 ?_); (case ew => rfl); (case e1 => rfl); (case e2 => exact bcells_len (Nat.le_of_eq HF.out))))
        have B6 := B5
        go_ret
        exact ⟨rfl, B6.out⟩
theorem parseLaw_c (s : ByteArray) (w : World) (hm : s.size ≤ maxLen) (hK : KTab 1 w) :
    Calls Tryd.prog 7 #[.string s] w fun e w' => e = .returned (.bool true) ∧ Below w.heap.size w w' := by
  rcases Nat.lt_or_ge 70 s.size with h | h
  · exact parseLawA s w h hm hK
  · exact parseLawB s w h hm hK
end Go.Proofs.YtfmpccfoemgiiaaDoor

