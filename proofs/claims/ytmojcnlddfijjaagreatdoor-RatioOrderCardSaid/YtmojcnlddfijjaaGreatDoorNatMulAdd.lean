/-
  nat.mulAdd.
-/
import Derived.Test.YtmojcnlddfijjaaGreatDoorNatNorm
namespace Go.Proofs.YtmojcnlddfijjaaGreatDoor
open Go.RowKit NatMath

set_option maxHeartbeats 1600000 in
set_option maxRecDepth 100000 in
theorem mulAdd_c (B : Nat) (ao : Option Addr) (n c v f ad : Nat) (w : World) (h : Own 66 .u32 B w ao n c (limbs v)) (hB : B ≤ w.heap.size) (hn : n ≤ 1073741824) (hf0 : 0 < f) (hf : f ≤ 4294967295) (ha : ad ≤ 4294967295) :
    Calls Tryz.prog 70 #[.slice ao n c, .int .u32 f, .int .u32 ad] w fun e w' => ∃ ao' n' c', n' ≤ n + 1 ∧ e = .returned (.slice ao' n' c') ∧ Own 66 .u32 B w' ao' n' c' (limbs (v * f + ad)) ∧ Below B w w' := by
  obtain ⟨i0, hi, hz0, hz1, hz2⟩ := info_parts info60
  have hst := MulInv.start h.lst.ok f ha
  have hlen := Lib.hid h.len
  have hroom := h.lst.room
  have hcap := h.lst.cap
  have H := h
  go_enter Tryz.func70, Tryz.ntmps70
  go_wp2_with fail
  go_loopw [7, 14] (fun s7 i wr => ∃ (j cy : Nat) (D : List Int), j ≤ n ∧ i = .int .i64 j ∧ s7 = .int .u64 cy ∧ MulInv (limbs v) D f ad cy j ∧ Own 66 .u32 B wr ao n c D ∧ Below B w wr)
    (fun _ i _ => n - (intOf i).toNat)
  case atStart => exact ⟨0, ad, limbs v, Nat.zero_le _, rfl, rfl, hst, H, Below.refl _ _⟩
  case round =>
    obtain ⟨j, cy, D, hj, rfl, rfl, hinv, ho, hb⟩ := hrel
    have hcy := hinv.cy1
    by_cases hlt : j < n
    · have hia := ix ho.lst j hlt
      obtain ⟨x, HX, hx0, hx1, hcx⟩ := ho.lst.at j hlt
      obtain ⟨X, rfl⟩ := Int.eq_ofNat_of_zero_le hx0
      have hfz := ho.frozen hlt
      have hmb := mul_bound (show X ≤ 4294967295 by omega) hf hcy
      have hp0 : (0 : Int) ≤ (X : Int) * (f : Int) := by rw [← Int.natCast_mul]; omega
      have hp1 : (X : Int) * (f : Int) ≤ 18446744065119617025 := by rw [← Int.natCast_mul]; omega
      have eM : (((cy + X * f) % 4294967296 : Nat) : Int) = ((cy : Int) + (X : Int) * (f : Int)) % 4294967296 := by simp
      have eD : (((cy + X * f) / 4294967296 : Nat) : Int) = ((cy : Int) + (X : Int) * (f : Int)) / 4294967296 := by simp
      have hs := hinv.step (by rw [hlen.out]; exact hlt) HX.out hf
      have hwf : (Lit.int .u32 (((cy + X * f) % 4294967296 : Nat) : Int)).wf = true := wf_u32 (by omega) (by omega)
      have hbase := ho.base hlt
      have r2 := ho.set hlt hwf
      have r4 := hb.setCell hbase (.int .u32 (((cy + X * f) % 4294967296 : Nat) : Int))
      rw [eM] at hs r2 r4
      have R1 := Lib.hid hs; have R2 := Lib.hid r2; have R4 := Lib.hid r4; have ED := Lib.hid eD
      clear hmb eM eD hs hwf hbase r2 r4 hst H h
      go_wp2_with fail
      go_roundw
      case rel => exact ⟨j + 1, (cy + X * f) / 4294967296, _, by omega, by go_num, by rw [ED.out], R1.out, R2.out, R4.out⟩
      case measure => simp [intOf]; omega
    · obtain rfl : j = n := by omega
      rw [← hlen.out] at hinv
      by_cases hc0 : cy = 0
      · subst hc0
        have hfin := hinv.fin0 hf0
        have HF := Lib.hid hfin; clear hfin hst H h
        go_wp2_with fail
        go_ret
        exact ⟨ao, j, c, by omega, rfl, by rw [HF.out]; exact ho, hb⟩
      · have hfin := hinv.fin1 hc0
        have HF := Lib.hid hfin
        have hcb : ((cy : Int) == 0) = false := by simp; omega
        have HC := Lib.hid (World.ownsRow.alloc ho.1 (.cells #[Value.int .u32 cy] 66))
        have HO := Lib.hid ho
        have hsz := hb.size
        have HB := Lib.hid hb
        clear hfin hst H h hinv ho hb
        go_wp2_with (at_builtin; refine wpList_append_own _ rfl _ _ 23 rfl B 66 i0 (.int .u32 0) 1 4 Tryz.underlying23 hi hz0 hz1 hz2 rfl (by decide) _ _ _ rfl HC.out ⟨wr.heap.size, 0, none⟩ 1 1 [.int .u32 cy] rfl rfl ?c1 ?c2 ?c3 ?c4 ?c5 ?_)
        case c1 =>
          intro t u ht
          match t, ht with
          | 0, ht => simp at ht; subst ht; simp [Addr.add]
        case c2 => intro u hu; simp at hu; subst hu; rfl
        case c3 => unfold maxLen; omega
        case c4 => omega
        case c5 => simp; omega
        intro v2 w1 hown hgr _
        have hv2 : ∃ ao' c', v2 = .slice ao' (j + 1) c' := by
          rcases hown.2 with ⟨_, h0⟩ | ⟨g, cap, _, hv, _⟩
          · omega
          · exact ⟨_, cap, hv⟩
        obtain ⟨ao', c', rfl⟩ := hv2
        have o1 : Own 66 .u32 B w1 ao' (j + 1) c' (limbs (v * f + ad)) := by
          rw [HF.out]
          refine ⟨?_, fun y hy => ?_⟩
          · rw [List.map_append]
            exact hown
          · rcases List.mem_append.1 hy with hy | hy
            · exact HO.out.2 y hy
            · simp at hy
              subst hy
              exact wf_u32 (by omega) (by omega)
        have b1 := (HB.out.alloc (by omega) (.cells #[Value.int .u32 cy] 66)).grown hgr (by simp; omega) (fun g hg => (HO.out.1.lt g hg).1)
        clear hown hgr HC
        go_wp2_with fail
        go_ret
        exact ⟨ao', j + 1, c', by omega, rfl, o1, b1⟩

end Go.Proofs.YtmojcnlddfijjaaGreatDoor
