/-
  The bytes of the result: digest.output.
-/
import Derived.Test.YtfmpccfoemgiiaaDoorDigCompress
namespace Go.Proofs.YtfmpccfoemgiiaaDoor
open Go.RowKit Dig

theorem run_index_arr {t e : TypeId} {n : Nat} (ht : ArrT t e n) (he : (Tryd.prog.info? e).map (·.size) = some 1) (hagg : ∀ W, (isAgg e).run Tryd.prog W = .ok false W) {cs : List Value} (i : Nat) (z : Int) (hz : z = i) (v : Value) (hv : cs[i]? = some v) (hn : cs.length = n) (W : World) :
    (Instr.index t (.agg cs.toArray) (.int .i64 z)).run Tryd.prog W = .ok v W := by
  subst hz
  have hi : i < n := by rw [← hn]; exact (List.getElem?_eq_some_iff.1 hv).1
  obtain ⟨inf, hinf, hs⟩ := Option.map_eq_some_iff.1 he
  have h1 : (0 : Int) ≤ (i : Int) ∧ (i : Int) < (n : Int) := by omega
  simp [Instr.index, run_underlying ht.under, asIntOf, sizeOf, typeInfo, hinf, hs, hi, part, hagg, hv]
theorem agg_u32 (W : World) : (isAgg 42).run Tryd.prog W = .ok false W := by simp [isAgg, run_underlying Tryd.underlying42]
theorem agg_u8 (W : World) : (isAgg 5).run Tryd.prog W = .ok false W := by simp [isAgg, run_underlying Tryd.underlying5]
theorem size42 : (Tryd.prog.info? 42).map (·.size) = some 1 := by kernel_rfl

/-- The bytes so far, zeros behind them. -/
def bcells (l : List Int) : List Value := l.map (Value.int .u8) ++ List.replicate (32 - l.length) (.int .u8 0)
theorem bcells_len {l : List Int} (h : l.length ≤ 32) : (bcells l).length = 32 := by simp [bcells]; omega
theorem bcells_all {l : List Int} (h : l.length = 32) : bcells l = l.map (Value.int .u8) := by simp [bcells, h]
theorem bcells_new {l : List Int} {t : Nat} (h : l.length = t) (ht : t < 32) : (bcells l)[t]? = some (.int .u8 0) := by
  subst h
  rw [bcells, List.getElem?_append_right (by simp), List.length_map, Nat.sub_self, List.getElem?_replicate, if_pos (by omega)]
theorem bcells_set {l : List Int} {t : Nat} {x : Int} (h : l.length = t) (ht : t < 32) : (bcells l).set t (.int .u8 x) = bcells (l ++ [x]) := by
  subst h
  have e : 32 - l.length = (32 - (l ++ [x]).length) + 1 := by simp; omega
  unfold bcells
  rw [List.set_append_right _ _ (by simp), List.length_map, Nat.sub_self, e, List.replicate_succ, List.set_cons_zero]
  simp
theorem bcells_one (l : List Int) : ∀ v ∈ bcells l, v.oneCell' = true := by
  intro v hv
  rcases List.mem_append.1 hv with h | h
  · obtain ⟨_, _, rfl⟩ := List.mem_map.1 h
    rfl
  · rw [List.eq_of_mem_replicate h]; rfl
namespace Dig
theorem outL_at (s : St) (i : Nat) (hi : i < 8) : (outL s).getD (4 * i) 0 = ((s.l.getD i 0 / 16777216 % 256 : Nat) : Int) ∧ (outL s).getD (4 * i + 1) 0 = ((s.l.getD i 0 / 65536 % 256 : Nat) : Int) ∧ (outL s).getD (4 * i + 2) 0 = ((s.l.getD i 0 / 256 % 256 : Nat) : Int) ∧ (outL s).getD (4 * i + 3) 0 = ((s.l.getD i 0 / 1 % 256 : Nat) : Int) := by
  match i, hi with
  | 0, _ => exact ⟨rfl, rfl, rfl, rfl⟩ | 1, _ => exact ⟨rfl, rfl, rfl, rfl⟩ | 2, _ => exact ⟨rfl, rfl, rfl, rfl⟩ | 3, _ => exact ⟨rfl, rfl, rfl, rfl⟩
  | 4, _ => exact ⟨rfl, rfl, rfl, rfl⟩ | 5, _ => exact ⟨rfl, rfl, rfl, rfl⟩ | 6, _ => exact ⟨rfl, rfl, rfl, rfl⟩ | 7, _ => exact ⟨rfl, rfl, rfl, rfl⟩
theorem take_next (l : List Int) (t : Nat) (ht : t < l.length) : l.take (t + 1) = l.take t ++ [l.getD t 0] := by
  rw [List.take_succ_eq_append_getElem ht]
  simp [List.getD, ht]
/-- Byte j of a word, as the walk spells it. -/
theorem byte_eq (x : Nat) (q : Nat) : ((x : Int) / (q : Int)) % 256 = ((x / q % 256 : Nat) : Int) := by simp
end Dig

set_option maxHeartbeats 1600000 in
set_option maxRecDepth 100000 in
theorem output_c (s : St) (hs : s.Ok) (w : World) :
    Calls Tryd.prog 24 #[.agg (stv s).toArray] w fun e w' => e = .returned (.agg (bcells (outL s)).toArray) ∧ Below w.heap.size w w' := by
  obtain ⟨O, hO⟩ : ∃ O, Hid (O = outL s) := ⟨_, rfl⟩
  rw [← hO.out]
  show Calls Tryd.prog 24 #[.agg #[.int .u32 (s.a : Int), .int .u32 (s.b : Int), .int .u32 (s.c : Int), .int .u32 (s.d : Int), .int .u32 (s.e : Int), .int .u32 (s.f : Int), .int .u32 (s.g : Int), .int .u32 (s.h : Int)]] w _
  go_enter Tryd.func24, Tryd.ntmps24
  go_wp2
  have hOl : Hid (O.length = 32) := by show _ = _; rw [hO.out]; rfl
  have B0 : Below w.heap.size w (w.alloc (.cells #[.int .u32 (s.a : Int), .int .u32 (s.b : Int), .int .u32 (s.c : Int), .int .u32 (s.d : Int), .int .u32 (s.e : Int), .int .u32 (s.f : Int), .int .u32 (s.g : Int), .int .u32 (s.h : Int)] 43)) := (Below.refl _ _).alloc (Nat.le_refl _) _
  have B00 : Below w.heap.size w ((w.alloc (.cells #[.int .u32 (s.a : Int), .int .u32 (s.b : Int), .int .u32 (s.c : Int), .int .u32 (s.d : Int), .int .u32 (s.e : Int), .int .u32 (s.f : Int), .int .u32 (s.g : Int), .int .u32 (s.h : Int)] 43)).alloc (.cells (List.replicate 32 (Value.int .u8 0)).toArray 25)) := B0.alloc B0.size _
  have B1 : Below w.heap.size w (((w.alloc (.cells #[.int .u32 (s.a : Int), .int .u32 (s.b : Int), .int .u32 (s.c : Int), .int .u32 (s.d : Int), .int .u32 (s.e : Int), .int .u32 (s.f : Int), .int .u32 (s.g : Int), .int .u32 (s.h : Int)] 43)).alloc (.cells (List.replicate 32 (Value.int .u8 0)).toArray 25)).alloc (.cells (List.replicate 32 (Value.int .u8 0)).toArray 25)) := B00.alloc B00.size _
  have A1 : Arr (((w.alloc (.cells #[.int .u32 (s.a : Int), .int .u32 (s.b : Int), .int .u32 (s.c : Int), .int .u32 (s.d : Int), .int .u32 (s.e : Int), .int .u32 (s.f : Int), .int .u32 (s.g : Int), .int .u32 (s.h : Int)] 43)).alloc (.cells (List.replicate 32 (Value.int .u8 0)).toArray 25)).alloc (.cells (List.replicate 32 (Value.int .u8 0)).toArray 25)) (w.heap.size + 1 + 1) 25 (bcells (O.take (4 * 0))) := by
    have := Arr.new ((w.alloc (.cells #[.int .u32 (s.a : Int), .int .u32 (s.b : Int), .int .u32 (s.c : Int), .int .u32 (s.d : Int), .int .u32 (s.e : Int), .int .u32 (s.f : Int), .int .u32 (s.g : Int), .int .u32 (s.h : Int)] 43)).alloc (.cells (List.replicate 32 (Value.int .u8 0)).toArray 25)) 25 (List.replicate 32 (Value.int .u8 0))
    rw [show ((w.alloc (.cells #[.int .u32 (s.a : Int), .int .u32 (s.b : Int), .int .u32 (s.c : Int), .int .u32 (s.d : Int), .int .u32 (s.e : Int), .int .u32 (s.f : Int), .int .u32 (s.g : Int), .int .u32 (s.h : Int)] 43)).alloc (.cells (List.replicate 32 (Value.int .u8 0)).toArray 25)).heap.size = w.heap.size + 1 + 1 by simp] at this
    exact this
  have R1 : Arr (((w.alloc (.cells #[.int .u32 (s.a : Int), .int .u32 (s.b : Int), .int .u32 (s.c : Int), .int .u32 (s.d : Int), .int .u32 (s.e : Int), .int .u32 (s.f : Int), .int .u32 (s.g : Int), .int .u32 (s.h : Int)] 43)).alloc (.cells (List.replicate 32 (Value.int .u8 0)).toArray 25)).alloc (.cells (List.replicate 32 (Value.int .u8 0)).toArray 25)) (w.heap.size + 1) 25 (bcells []) := by
    have := (Arr.new (w.alloc (.cells #[.int .u32 (s.a : Int), .int .u32 (s.b : Int), .int .u32 (s.c : Int), .int .u32 (s.d : Int), .int .u32 (s.e : Int), .int .u32 (s.f : Int), .int .u32 (s.g : Int), .int .u32 (s.h : Int)] 43)) 25 (List.replicate 32 (Value.int .u8 0))).alloc (.cells (List.replicate 32 (Value.int .u8 0)).toArray 25)
    rw [show (w.alloc (.cells #[.int .u32 (s.a : Int), .int .u32 (s.b : Int), .int .u32 (s.c : Int), .int .u32 (s.d : Int), .int .u32 (s.e : Int), .int .u32 (s.f : Int), .int .u32 (s.g : Int), .int .u32 (s.h : Int)] 43)).heap.size = w.heap.size + 1 by simp] at this
    exact this
  clear B0 B00
  go_loopw [8] (fun v wr => ∃ i : Nat, i ≤ 8 ∧ v = .int .i64 i ∧ Arr wr (w.heap.size + 1 + 1) 25 (bcells (O.take (4 * i))) ∧ Arr wr (w.heap.size + 1) 25 (bcells []) ∧ Below w.heap.size w wr)
    (fun v _ => 8 - (intOf v).toNat)
  case atStart => exact ⟨0, by omega, rfl, A1, R1, B1⟩
  case round =>
    clear A1 R1 B1
    obtain ⟨i, hi, rfl, A, Rr, B⟩ := hrel
    by_cases hi8 : i < 8
    · obtain ⟨x, hx⟩ : ∃ x, Hid (s.l.getD i 0 = x) := ⟨_, rfl⟩
      have lx : x ≤ 4294967295 := by rw [← hx.out]; exact l_lt hs i
      have q8 : (i : Int) < 8 := by omega
      have hix : ∀ W, (Instr.index 43 (.agg #[.int .u32 (s.a : Int), .int .u32 (s.b : Int), .int .u32 (s.c : Int), .int .u32 (s.d : Int), .int .u32 (s.e : Int), .int .u32 (s.f : Int), .int .u32 (s.g : Int), .int .u32 (s.h : Int)]) (.int .i64 (i : Int))).run Tryd.prog W = .ok (.int .u32 (x : Int)) W :=
        run_index_arr arr43 size42 agg_u32 (cs := stv s) i (i : Int) rfl _ ((u32s_at (ws := s.l) (by simpa [St.l] using hi8)).trans (by rw [hx.out])) rfl
      go_wp2
      clear hix
      go_loopw [12] (fun v wr => ∃ j : Nat, j ≤ 4 ∧ v = .int .i64 j ∧ Arr wr (w.heap.size + 1 + 1) 25 (bcells (O.take (4 * i + j))) ∧ Arr wr (w.heap.size + 1) 25 (bcells []) ∧ Below w.heap.size w wr)
        (fun v _ => 4 - (intOf v).toNat)
      case atStart => exact ⟨0, by omega, rfl, A, Rr, B⟩
      case round =>
        clear A Rr B
        obtain ⟨j, hj, rfl, A, Rr, B⟩ := hrel
        by_cases hj4 : j < 4
        · rcases (show j = 0 ∨ j = 1 ∨ j = 2 ∨ j = 3 by omega) with h0 | h0 | h0 | h0
          · -- byte 0
            obtain rfl : j = 0 := by omega
            obtain ⟨b, hbb⟩ : ∃ b : Nat, Hid (b = x / 16777216 % 256) := ⟨_, rfl⟩
            have hb := outL_at s i hi8
            rw [← hO.out, hx.out] at hb
            have e1 : ((x : Int) / 16777216) % 256 = (b : Int) := by rw [hbb.out]; omega
            have e2 : IntKind.u8.wrap ((x : Int) / 16777216) = (b : Int) := by rw [IntKind.wrap_u8', hbb.out]; omega
            have hA : Hid (Arr (wr.setCell ⟨w.heap.size + 1 + 1, 4 * i, none⟩ (.int .u8 (b : Int))) (w.heap.size + 1 + 1) 25 (bcells (O.take (4 * i + (0 + 1))))) := by
              have := A.set (4 * i) (.int .u8 (b : Int))
              rw [bcells_set (by simp [hOl.out]; omega) (by omega)] at this
              rw [show 4 * i + (0 + 1) = (4 * i) + 1 from rfl, take_next _ _ (by rw [hOl.out]; omega), hb.1, ← hbb.out]
              exact this
            have hR := Lib.hid (Rr.far (p := ⟨w.heap.size + 1 + 1, 4 * i, none⟩) (by simp) (.int .u8 (b : Int)))
            have hB := Lib.hid (B.setCell (p := ⟨w.heap.size + 1 + 1, 4 * i, none⟩) (by simp; omega) (.int .u8 (b : Int)))
            have hf := A.frozen (4 * i)
            have hc : wr.cell? ⟨w.heap.size + 1 + 1, 4 * i, none⟩ = some (.int .u8 0) := by rw [A.cell]; exact bcells_new (by simp [hOl.out]; omega) (by omega)
            have ht : (4 * (i : Int)).toNat = 4 * i := by omega
            have q1 : 4 * (i : Int) < 32 := by omega
            have q0 : 0 ≤ 4 * (i : Int) := by omega
            rw [show ((0 : Nat) : Int) = 0 from rfl]
            clear A Rr B hb
            go_wp2
            go_roundw
            case rel => exact ⟨1, by omega, by go_num, hA.out, hR.out, hB.out⟩
            case measure => simp [intOf]
          · -- byte 1
            obtain rfl : j = 1 := by omega
            obtain ⟨b, hbb⟩ : ∃ b : Nat, Hid (b = x / 65536 % 256) := ⟨_, rfl⟩
            have hb := outL_at s i hi8
            rw [← hO.out, hx.out] at hb
            have e1 : ((x : Int) / 65536) % 256 = (b : Int) := by rw [hbb.out]; omega
            have e2 : IntKind.u8.wrap ((x : Int) / 65536) = (b : Int) := by rw [IntKind.wrap_u8', hbb.out]; omega
            have hA : Hid (Arr (wr.setCell ⟨w.heap.size + 1 + 1, 4 * i + 1, none⟩ (.int .u8 (b : Int))) (w.heap.size + 1 + 1) 25 (bcells (O.take (4 * i + (1 + 1))))) := by
              have := A.set (4 * i + 1) (.int .u8 (b : Int))
              rw [bcells_set (by simp [hOl.out]; omega) (by omega)] at this
              rw [show 4 * i + (1 + 1) = (4 * i + 1) + 1 from rfl, take_next _ _ (by rw [hOl.out]; omega), hb.2.1, ← hbb.out]
              exact this
            have hR := Lib.hid (Rr.far (p := ⟨w.heap.size + 1 + 1, 4 * i + 1, none⟩) (by simp) (.int .u8 (b : Int)))
            have hB := Lib.hid (B.setCell (p := ⟨w.heap.size + 1 + 1, 4 * i + 1, none⟩) (by simp; omega) (.int .u8 (b : Int)))
            have hf := A.frozen (4 * i + 1)
            have hc : wr.cell? ⟨w.heap.size + 1 + 1, 4 * i + 1, none⟩ = some (.int .u8 0) := by rw [A.cell]; exact bcells_new (by simp [hOl.out]; omega) (by omega)
            have ht : (4 * (i : Int) + 1).toNat = 4 * i + 1 := by omega
            have q1 : 4 * (i : Int) + 1 < 32 := by omega
            have q0 : 0 ≤ 4 * (i : Int) + 1 := by omega
            rw [show ((1 : Nat) : Int) = 1 from rfl]
            clear A Rr B hb
            go_wp2
            go_roundw
            case rel => exact ⟨2, by omega, by go_num, hA.out, hR.out, hB.out⟩
            case measure => simp [intOf]
          · -- byte 2
            obtain rfl : j = 2 := by omega
            obtain ⟨b, hbb⟩ : ∃ b : Nat, Hid (b = x / 256 % 256) := ⟨_, rfl⟩
            have hb := outL_at s i hi8
            rw [← hO.out, hx.out] at hb
            have e1 : ((x : Int) / 256) % 256 = (b : Int) := by rw [hbb.out]; omega
            have e2 : IntKind.u8.wrap ((x : Int) / 256) = (b : Int) := by rw [IntKind.wrap_u8', hbb.out]; omega
            have hA : Hid (Arr (wr.setCell ⟨w.heap.size + 1 + 1, 4 * i + 2, none⟩ (.int .u8 (b : Int))) (w.heap.size + 1 + 1) 25 (bcells (O.take (4 * i + (2 + 1))))) := by
              have := A.set (4 * i + 2) (.int .u8 (b : Int))
              rw [bcells_set (by simp [hOl.out]; omega) (by omega)] at this
              rw [show 4 * i + (2 + 1) = (4 * i + 2) + 1 from rfl, take_next _ _ (by rw [hOl.out]; omega), hb.2.2.1, ← hbb.out]
              exact this
            have hR := Lib.hid (Rr.far (p := ⟨w.heap.size + 1 + 1, 4 * i + 2, none⟩) (by simp) (.int .u8 (b : Int)))
            have hB := Lib.hid (B.setCell (p := ⟨w.heap.size + 1 + 1, 4 * i + 2, none⟩) (by simp; omega) (.int .u8 (b : Int)))
            have hf := A.frozen (4 * i + 2)
            have hc : wr.cell? ⟨w.heap.size + 1 + 1, 4 * i + 2, none⟩ = some (.int .u8 0) := by rw [A.cell]; exact bcells_new (by simp [hOl.out]; omega) (by omega)
            have ht : (4 * (i : Int) + 2).toNat = 4 * i + 2 := by omega
            have q1 : 4 * (i : Int) + 2 < 32 := by omega
            have q0 : 0 ≤ 4 * (i : Int) + 2 := by omega
            rw [show ((2 : Nat) : Int) = 2 from rfl]
            clear A Rr B hb
            go_wp2
            go_roundw
            case rel => exact ⟨3, by omega, by go_num, hA.out, hR.out, hB.out⟩
            case measure => simp [intOf]
          · -- byte 3
            obtain rfl : j = 3 := by omega
            obtain ⟨b, hbb⟩ : ∃ b : Nat, Hid (b = x / 1 % 256) := ⟨_, rfl⟩
            have hb := outL_at s i hi8
            rw [← hO.out, hx.out] at hb
            have e1 : ((x : Int)) % 256 = (b : Int) := by rw [hbb.out]; omega
            have e2 : IntKind.u8.wrap ((x : Int)) = (b : Int) := by rw [IntKind.wrap_u8', hbb.out]; omega
            have hA : Hid (Arr (wr.setCell ⟨w.heap.size + 1 + 1, 4 * i + 3, none⟩ (.int .u8 (b : Int))) (w.heap.size + 1 + 1) 25 (bcells (O.take (4 * i + (3 + 1))))) := by
              have := A.set (4 * i + 3) (.int .u8 (b : Int))
              rw [bcells_set (by simp [hOl.out]; omega) (by omega)] at this
              rw [show 4 * i + (3 + 1) = (4 * i + 3) + 1 from rfl, take_next _ _ (by rw [hOl.out]; omega), hb.2.2.2, ← hbb.out]
              exact this
            have hR := Lib.hid (Rr.far (p := ⟨w.heap.size + 1 + 1, 4 * i + 3, none⟩) (by simp) (.int .u8 (b : Int)))
            have hB := Lib.hid (B.setCell (p := ⟨w.heap.size + 1 + 1, 4 * i + 3, none⟩) (by simp; omega) (.int .u8 (b : Int)))
            have hf := A.frozen (4 * i + 3)
            have hc : wr.cell? ⟨w.heap.size + 1 + 1, 4 * i + 3, none⟩ = some (.int .u8 0) := by rw [A.cell]; exact bcells_new (by simp [hOl.out]; omega) (by omega)
            have ht : (4 * (i : Int) + 3).toNat = 4 * i + 3 := by omega
            have q1 : 4 * (i : Int) + 3 < 32 := by omega
            have q0 : 0 ≤ 4 * (i : Int) + 3 := by omega
            rw [show ((3 : Nat) : Int) = 3 from rfl]
            clear A Rr B hb
            go_wp2
            go_roundw
            case rel => exact ⟨4, by omega, by go_num, hA.out, hR.out, hB.out⟩
            case measure => simp [intOf]
        · obtain rfl : j = 4 := by omega
          rw [show ((4 : Nat) : Int) = 4 from rfl]
          go_wp2
          go_roundw
          case rel => exact ⟨i + 1, by omega, by go_num, by rw [show 4 * (i + 1) = 4 * i + 4 by omega]; exact A, Rr, B⟩
          case measure => simp [intOf]; omega
    · obtain rfl : i = 8 := by omega
      rw [show 4 * 8 = 32 from rfl, List.take_of_length_le (by rw [hOl.out]; omega)] at A
      rw [show ((8 : Nat) : Int) = 8 from rfl]
      have HA := Lib.hid A
      have HR := Lib.hid Rr
      have hsz := Rr.lt
      clear A Rr
      go_wp2_with (first
        | ((with_reducible refine wpList_load_arr (d := some 28) arr25 HA.out ?e1 ?e2 ?_); (case e1 => rfl); (case e2 => exact bcells_len (Nat.le_of_eq hOl.out)))
        | ((with_reducible refine wpList_store_arr (x := .tmp 2) (y := .tmp 28) (cs := bcells O) arr25 HR.out ?e1 ?e2 ?e3 ?e4 ?e5 ?_); (case e1 => rfl); (case e2 => rfl); (case e3 => exact bcells_len (Nat.zero_le _)); (case e4 => exact bcells_len (Nat.le_of_eq hOl.out)); (case e5 => exact bcells_one O); intro w9 hA9 hO9))
      refine bodyPost_ret (results_arr arr25 rfl _ rfl hA9 (bcells_len (Nat.le_of_eq hOl.out))) rfl ⟨rfl, hO9.below B (by omega) (by omega)⟩
end Go.Proofs.YtfmpccfoemgiiaaDoor
