/-
  (*electionref05.Source).Word.
-/
import Derived.Test.YtgomconcfjllcaaDoorRndWord
namespace Go.Proofs.YtgomconcfjllcaaDoor
open Go.RowKit Dig Rnd

section
variable {w : World} {ops : Array Oper} {rest : List Oper} {a : Act} {Q : Exit → Act → World → Prop} {d : Option Tmp} {p : Operand} {ty : TypeId} {pos : String} {after : Array Edge}
theorem wpList_conv {S : ByteArray} (hx : a.eval p = .string S) (hS : S.size ≤ 1000)
    (h : ∀ w' g c, Lst .u8 w' (some ⟨g, 0, none⟩) S.size c (bytesI S) → Below w.heap.size w w' → w.heap.size ≤ g → wpList Tryd.prog ops Q rest (a.put d (.slice (some ⟨g, 0, none⟩) S.size c)) w') :
    wpList Tryd.prog ops Q (⟨d, .convert 9 48 p, ty, pos, after, none⟩ :: rest) a w :=
  wpList_plain rfl fun _ hK' => wp_conv hx hS fun w' g c L b hg => hK' _ _ (h w' g c L b hg)
end

set_option maxHeartbeats 3200000 in
set_option maxRecDepth 100000 in
theorem refword_c (g : Nat) (S : ByteArray) (k : Nat) (w : World) (h : Src 29 w g S k) (hs : S.size ≤ 1000) (hk0 : k ≤ 18446744073709551615) (hT0 : KTab 0 w) :
    Calls Tryd.prog 12 #[.pointer (some ⟨g, 0, none⟩)] w fun e w' => e = .returned (.int .u64 (wordN S k : Nat)) ∧ Src 29 w' g S (nx k) ∧ w.grownBy w' (some g) := by
  have HS := Lib.hid hs
  have hk := Lib.hid hk0
  have HA := Lib.hid h
  have hgl := Lib.hid h.lt
  obtain ⟨F, hF⟩ : ∃ F, Hid (F = sumL (joinL [bytesI S, beN k 8])) := ⟨_, rfl⟩
  have HFL : Hid (F.length = 32) := by show _ = _; rw [hF.out]; rfl
  have HW : Hid (wordN S k = fromN F 8) := by show _ = _; rw [hF.out]; rfl
  have HFD : Hid (IsD F) := by show IsD F; rw [hF.out]; exact sumL_isD _
  have HPB : ∀ p ∈ [bytesI S, beN k 8], p.length ≤ 1000 := by
    intro p hp
    simp at hp
    rcases hp with rfl | rfl
    · rw [bytesI_len]; exact hs
    · rw [beN_len]; omega
  have HO : Hid (∀ a n c W, Parts W a n c [bytesI S, beN k 8] → KTab 0 W → Calls Tryd.prog 24 #[.slice a n c] W fun e w' => e = .returned (.agg (bcells F).toArray) ∧ Below W.heap.size W w') := fun a n c W hp hk => by
    rw [hF.out]
    exact refof_c a n c _ W hp (by have := hp.len; simp at this; omega) HPB hk
  have HN : Hid (IntKind.u64.wrap ((k : Int) + 1) = ((nx k : Nat) : Int)) := by show _ = _; rw [IntKind.wrap_u64]; unfold nx; omega
  have HFB : Hid (∀ j, j ≤ 7 → fromN F j < 72057594037927936) := fun j hj => Nat.lt_of_lt_of_le (fromN_lt F (isD_byte HFD.out) j) (Nat.pow_le_pow_right (n := 256) (by omega) hj)
  rw [HW.out]
  have O1 : Own 5 .u8 w.heap.size w none 0 0 [] := own_nil _ _ _ _
  clear h hs HPB
  go_enter Tryd.func12, Tryd.ntmps12
  go_wp2
  go_loopw [3, 4] (fun v i wr => ∃ (z : Int) (a : Option Addr) (l d : Nat) (done : List Int), -1 ≤ z ∧ z ≤ 7 ∧ i = .int .i64 z ∧ v = .slice a l d ∧ Hid (done ++ beN k (z + 1).toNat = beN k 8) ∧ Own 5 .u8 w.heap.size wr a l d done ∧ Below w.heap.size w wr)
    (fun _ i _ => (intOf i + 1).toNat)
  case atStart => exact ⟨7, none, 0, 0, [], by omega, by omega, rfl, rfl, rfl, O1, Below.refl _ _⟩
  case round =>
    clear O1
    obtain ⟨z, a, l, d, done, hz1, hz7, rfl, rfl, hd, O, bb⟩ := hrel
    have hzB := bb.size
    have hl : l ≤ 8 := by
      have h1 := O.len
      have h2 := congrArg List.length hd.out
      rw [List.length_append, beN_len, beN_len] at h2
      omega
    have hc1 : wr.cell? ⟨g, 1, none⟩ = some (.int .u64 (k : Int)) := (HA.out.kept bb).arr.cell 1
    by_cases h0 : 0 ≤ z
    · obtain ⟨j, rfl⟩ := Int.eq_ofNat_of_zero_le h0
      have hj : j ≤ 7 := by omega
      have HX := Lib.hid (byte_shift k j)
      go_wp2_with (at_builtin; refine wpList_app1 (B := w.heap.size) O hzB (by omega) (Int.emod_nonneg _ (by omega)) (Int.le_of_lt_add_one (Int.emod_lt_of_pos _ (by omega))) rfl rfl ?_)
      intro a2 d2 w2 O2 b2
      have hd2 : Hid ((done ++ [(k : Int) / 2 ^ (8 * j) % 256]) ++ beN k ((j : Int) - 1 + 1).toNat = beN k 8) := by
        show _ = _
        rw [← hd.out, show ((j : Int) - 1 + 1).toNat = j by omega, show ((j : Int) + 1).toNat = j + 1 by omega, beN, HX.out]
        simp
      have B2 := bb.trans b2
      go_wp2
      go_roundw
      case rel => exact ⟨(j : Int) - 1, a2, l + 1, d2, _, by omega, by omega, by go_num, rfl, hd2, O2, B2⟩
      case measure => simp [intOf]; try omega
    · obtain rfl : z = -1 := by omega
      have e0 : done = beN k 8 := by
        have := hd.out
        simpa [beN] using this
      subst e0
      have hl8 : l = 8 := by rw [← O.len, beN_len]
      subst hl8
      have hf1 : wr.frozen? ⟨g, 1, none⟩ = false := (HA.out.kept bb).arr.frozen 1
      have hn := HN.out
      have SE := src_end (j := nx k) (HA.out.kept bb) bb
      obtain ⟨V, hV⟩ : ∃ V, Hid (V = wr.setCell ⟨g, 1, none⟩ (.int .u64 ((nx k : Nat) : Int))) := ⟨_, rfl⟩
      have hVs : V.heap.size = wr.heap.size := by rw [hV.out]; simp [World.setCell]
      have gV : wr.grownBy V (some g) := by rw [hV.out]; exact grown_set ⟨rfl, rfl, rfl, Nat.le_refl _, fun _ _ _ => rfl⟩ 1 _
      have O2 : Own 5 .u8 w.heap.size V a 8 d (beN k 8) := O.grownBy gV hgl.out
      have hne := (HA.out).apart hT0
      have T2 : KTab 0 V := (hT0.below bb).grown gV hne
      rw [← hV.out] at SE
      have HSE := Lib.hid SE.1
      have HG := Lib.hid SE.2
      have hc0 : wr.cell? ⟨g, 0, none⟩ = some (.string S) := (HA.out.kept bb).arr.cell 0
      have HO2 := Lib.hid O2
      have HT2 := Lib.hid T2
      clear SE gV O O2 T2 hne hVs
      go_wp2_with (first | ((with_reducible refine wpList_conv (p := .tmp 34) ?e1 HS.out ?_); (case e1 => rfl); intro W2 g2 c2 L2 b2 h2))
      rw [← hV.out] at b2
      clear hc0 hc1 hf1 hn
      have P3 := parts2 W2 _ _ _ _ _ _ _ _ L2 (fun e => by cases e) (HO2.out.kept b2).lst (HO2.out.kept b2).nilcap
      have b3 : Below W2.heap.size W2 (W2.alloc (.cells #[.slice (some ⟨g2, 0, none⟩) S.size c2, .slice a 8 d] 48)) := (Below.refl _ _).alloc (Nat.le_refl _) _
      have b4 := b2.trans (b3.mono b2.size)
      refine (HO.out _ _ _ _ P3 (HT2.out.below b4)).mono ?_
      rintro e W4 ⟨rfl, b5⟩
      have B5 := Lib.hid (b4.trans (b5.mono b4.size))
      clear L2 P3 b2 b3 b4 b5
      have HA5 : Hid (Arr (W4.alloc (.cells #[.int .u8 0, .int .u8 0, .int .u8 0, .int .u8 0, .int .u8 0, .int .u8 0, .int .u8 0, .int .u8 0, .int .u8 0, .int .u8 0, .int .u8 0, .int .u8 0, .int .u8 0, .int .u8 0, .int .u8 0, .int .u8 0, .int .u8 0, .int .u8 0, .int .u8 0, .int .u8 0, .int .u8 0, .int .u8 0, .int .u8 0, .int .u8 0, .int .u8 0, .int .u8 0, .int .u8 0, .int .u8 0, .int .u8 0, .int .u8 0, .int .u8 0, .int .u8 0] 46)) W4.heap.size 46 (bcells [])) := Arr.new W4 46 (bcells [])
      have b6 : Below W4.heap.size W4 (W4.alloc (.cells #[.int .u8 0, .int .u8 0, .int .u8 0, .int .u8 0, .int .u8 0, .int .u8 0, .int .u8 0, .int .u8 0, .int .u8 0, .int .u8 0, .int .u8 0, .int .u8 0, .int .u8 0, .int .u8 0, .int .u8 0, .int .u8 0, .int .u8 0, .int .u8 0, .int .u8 0, .int .u8 0, .int .u8 0, .int .u8 0, .int .u8 0, .int .u8 0, .int .u8 0, .int .u8 0, .int .u8 0, .int .u8 0, .int .u8 0, .int .u8 0, .int .u8 0, .int .u8 0] 46)) := (Below.refl _ _).alloc (Nat.le_refl _) _
      have B6 := Lib.hid (B5.out.trans (b6.mono B5.out.size))
      clear b6
      go_wp2_with (((with_reducible refine wpList_store_arr (x := .tmp 5) (y := .tmp 38) (cs := bcells F) arr25 HA5.out ?e1 ?e2 ?e3 ?e4 ?e5 ?_); (case e1 => rfl); (case e2 => rfl); (case e3 => exact bcells_len (Nat.zero_le _)); (case e4 => exact bcells_len (Nat.le_of_eq HFL.out)); (case e5 => exact bcells_one F); intro W7 A7 O7))
      have B7 := Lib.hid (O7.below B6.out B6.out.size B5.out.size)
      have HA7 := Lib.hid A7
      have HHs := Lib.hid B5.out.size
      clear A7 O7 HA5 B6
      go_loop [6, 7] (fun v i => ∃ (j x : Nat), j ≤ 8 ∧ i = .int .i64 j ∧ v = .int .u64 (x : Int) ∧ Hid (x = fromN F j)) (fun _ i => 8 - (intOf i).toNat)
      case atStart => exact ⟨0, 0, by omega, rfl, rfl, rfl⟩
      case round =>
        obtain ⟨j, x, hj, rfl, rfl, hx⟩ := hrel
        by_cases hlt : j < 8
        · have hlt' : (j : Int) < 8 := by omega
          have hlt2 : (j : Int) < 32 := by omega
          obtain ⟨b, hb, hb1⟩ := HFD.out.at j (by omega)
          have hc : W7.cell? ⟨W4.heap.size, j, none⟩ = some (.int .u8 (b : Int)) := by
            rw [HA7.out.cell j, bcells_at (by rw [HFL.out]; omega), hb.out]
          have hxl : x < 72057594037927936 := by rw [hx.out]; exact HFB.out j (by omega)
          have hor := or_step x b hxl hb1
          have hw : IntKind.u64.wrap (b : Int) = (b : Int) := by rw [IntKind.wrap_u64]; omega
          have hnx : Hid (x * 256 + b = fromN F (j + 1)) := by show _ = _; rw [fromN, hb.out, hx.out]; rfl
          go_wp2
          go_round
          case rel => exact ⟨j + 1, x * 256 + b, by omega, by go_num, by go_num, hnx⟩
          case measure => simp [intOf]; omega
        · obtain rfl : j = 8 := by omega
          go_wp2
          go_ret
          refine ⟨ret_u64 (by rw [hx.out]), HSE.out.kept B7.out, ?_⟩
          exact grown_trans HG.out (grown_of_below B7.out _)
end Go.Proofs.YtgomconcfjllcaaDoor
