/-
  The rounds of a block: digest.mix.
-/
import Derived.Test.YtgomconcfjllcaaDoorDigSched
namespace Go.Proofs.YtgomconcfjllcaaDoor
open Go.RowKit Dig

/-- The table of the round constants lies in variable g. -/
def KTab (g : Nat) (w : World) : Prop := ∀ i, i < 64 → w.cell? ⟨g, i, none⟩ = some (.int .u32 ((kTab.getD i 0 : Nat) : Int))
theorem KTab.below {g : Nat} {w w' : World} (h : KTab g w) (hb : Below w.heap.size w w') : KTab g w' := fun i hi => (hb.cell (World.block_lt_of_cell? w _ (h i hi))).trans (h i hi)
theorem KTab.belowOf {g B : Nat} {w w' : World} (h : KTab g w) (hb : Below B w w') (hg : g < B) : KTab g w' := fun i hi => (hb.cell hg).trans (h i hi)
theorem KTab.only {g b : Nat} {w w' : World} (h : KTab g w) (hO : Only b w w') (hne : g ≠ b) : KTab g w' := fun i hi =>
  (World.cell?_of_block (a := ⟨g, i, none⟩) (hO.grown.block _ (World.block_lt_of_cell? w _ (h i hi)) (fun e => hne (by injection e)))).trans (h i hi)
theorem KTab.lt {g : Nat} {w : World} (h : KTab g w) : g < w.heap.size := World.block_lt_of_cell? w _ (h 0 (by omega))
theorem kTab_lt (i : Nat) : kTab.getD i 0 ≤ 4294967295 := by
  by_cases hi : i < 64
  · have h : ∀ j : Fin 64, kTab.getD j.val 0 ≤ 4294967295 := by decide
    exact h ⟨i, hi⟩
  · rw [List.getD_eq_getElem?_getD, List.getElem?_eq_none (by simpa [kTab] using hi)]
    exact Nat.zero_le _

abbrev stv (s : St) : List Value := [.int .u32 (s.a : Int), .int .u32 (s.b : Int), .int .u32 (s.c : Int), .int .u32 (s.d : Int), .int .u32 (s.e : Int), .int .u32 (s.f : Int), .int .u32 (s.g : Int), .int .u32 (s.h : Int)]

namespace Dig
theorem mod_le (x : Nat) : x % 4294967296 ≤ 4294967295 := by omega
theorem rnd_ok {s : St} (h : s.Ok) (k w : Nat) : (rnd s k w).Ok := ⟨mod_le _, h.a, h.b, h.c, mod_le _, h.e, h.f, h.g⟩
theorem rnds_ok {s : St} (h : s.Ok) (ws : List Nat) (t : Nat) : (rnds ws s t).Ok := by
  induction t with
  | zero => exact h
  | succ t ih => exact rnd_ok ih _ _
theorem t1_sum (a b c d e : Nat) : IntKind.u32.wrap (IntKind.u32.wrap (IntKind.u32.wrap (IntKind.u32.wrap ((a : Int) + (b : Int)) + (c : Int)) + (d : Int)) + (e : Int)) = (((a + b + c + d + e) % 4294967296 : Nat) : Int) := by
  rw [IntKind.wrap_u32', IntKind.wrap_u32', IntKind.wrap_u32', IntKind.wrap_u32']
  omega
theorem sum2 (a b : Nat) : ((a : Int) + (b : Int)) % 4294967296 = (((a + b) % 4294967296 : Nat) : Int) := by omega
theorem sum2w (a b : Nat) : IntKind.u32.wrap ((a : Int) + (b : Int)) = (((a + b) % 4294967296 : Nat) : Int) := by rw [IntKind.wrap_u32']; omega
end Dig

set_option maxHeartbeats 1600000 in
set_option maxRecDepth 100000 in
theorem mix_c (s : St) (hs : s.Ok) (g : Nat) (ws : List Nat) (w : World) (hl : ws.length = 64) (hlt : ∀ i, ws.getD i 0 < 4294967296) (hA : Arr w g 67 (wcells ws)) (hK : KTab 1 w) :
    Calls Tryd.prog 40 #[.agg (stv s).toArray, .pointer (some ⟨g, 0, none⟩)] w fun e w' => e = .returned (.agg (stv (rnds ws s 64)).toArray) ∧ Below w.heap.size w w' := by
  have HL := Lib.hid hl
  have HLT := Lib.hid hlt
  have hgl := hA.lt
  clear hl hlt
  obtain ⟨R, hR⟩ : ∃ R, Hid (R = rnds ws s 64) := ⟨_, rfl⟩
  rw [← hR.out]
  obtain ⟨a, b, c, d, e, f, g', h⟩ := s
  show Calls Tryd.prog 40 #[.agg #[.int .u32 (a : Int), .int .u32 (b : Int), .int .u32 (c : Int), .int .u32 (d : Int), .int .u32 (e : Int), .int .u32 (f : Int), .int .u32 (g' : Int), .int .u32 (h : Int)], .pointer (some ⟨g, 0, none⟩)] w _
  go_enter Tryd.func40, Tryd.ntmps40
  go_wp2
  obtain ⟨w1, hw1⟩ : ∃ w1, Hid (w1 = (w.alloc (.cells #[.int .u32 (a : Int), .int .u32 (b : Int), .int .u32 (c : Int), .int .u32 (d : Int), .int .u32 (e : Int), .int .u32 (f : Int), .int .u32 (g' : Int), .int .u32 (h : Int)] 59)).alloc (.cells #[.int .u32 0, .int .u32 0, .int .u32 0, .int .u32 0, .int .u32 0, .int .u32 0, .int .u32 0, .int .u32 0] 59)) := ⟨_, rfl⟩
  rw [← hw1.out]
  have B0 : Below w.heap.size w (w.alloc (.cells #[.int .u32 (a : Int), .int .u32 (b : Int), .int .u32 (c : Int), .int .u32 (d : Int), .int .u32 (e : Int), .int .u32 (f : Int), .int .u32 (g' : Int), .int .u32 (h : Int)] 59)) := (Below.refl _ _).alloc (Nat.le_refl _) _
  have B1 : Below w.heap.size w w1 := by rw [hw1.out]; exact B0.alloc B0.size _
  have A0 : Arr w1 w.heap.size 59 [.int .u32 (a : Int), .int .u32 (b : Int), .int .u32 (c : Int), .int .u32 (d : Int), .int .u32 (e : Int), .int .u32 (f : Int), .int .u32 (g' : Int), .int .u32 (h : Int)] := by rw [hw1.out]; exact (Arr.new w _ _).alloc _
  have A1 : Arr w1 (w.heap.size + 1) 59 (List.replicate 8 (.int .u32 0)) := by
    have := Arr.new (w.alloc (.cells #[.int .u32 (a : Int), .int .u32 (b : Int), .int .u32 (c : Int), .int .u32 (d : Int), .int .u32 (e : Int), .int .u32 (f : Int), .int .u32 (g' : Int), .int .u32 (h : Int)] 59)) 59 (List.replicate 8 (.int .u32 0))
    rw [show (w.alloc (.cells #[.int .u32 (a : Int), .int .u32 (b : Int), .int .u32 (c : Int), .int .u32 (d : Int), .int .u32 (e : Int), .int .u32 (f : Int), .int .u32 (g' : Int), .int .u32 (h : Int)] 59)).heap.size = w.heap.size + 1 by simp] at this
    rw [hw1.out]; exact this
  have AW := hA.kept B1
  have KW := hK.below B1
  have c0 : w1.cell? ⟨w.heap.size, 0, none⟩ = some (.int .u32 (a : Int)) := A0.cell 0
  have c1 : w1.cell? ⟨w.heap.size, 1, none⟩ = some (.int .u32 (b : Int)) := A0.cell 1
  have c2 : w1.cell? ⟨w.heap.size, 2, none⟩ = some (.int .u32 (c : Int)) := A0.cell 2
  have c3 : w1.cell? ⟨w.heap.size, 3, none⟩ = some (.int .u32 (d : Int)) := A0.cell 3
  have c4 : w1.cell? ⟨w.heap.size, 4, none⟩ = some (.int .u32 (e : Int)) := A0.cell 4
  have c5 : w1.cell? ⟨w.heap.size, 5, none⟩ = some (.int .u32 (f : Int)) := A0.cell 5
  have c6 : w1.cell? ⟨w.heap.size, 6, none⟩ = some (.int .u32 (g' : Int)) := A0.cell 6
  have c7 : w1.cell? ⟨w.heap.size, 7, none⟩ = some (.int .u32 (h : Int)) := A0.cell 7
  clear hw1 B0 A0 hA hK
  refine wp_region_still_lit (by kernel_rfl) (by kernel_rfl) ?_
  repeat still_step
  refine wpStill_nil ?_
  clear c0 c1 c2 c3 c4 c5 c6 c7
  obtain ⟨w2, hw2⟩ : ∃ w2, Hid (w2 = w1.drew) := ⟨_, rfl⟩
  rw [show ({ w1 with drawn := w1.drawn + 1 } : World) = w1.drew from rfl, ← hw2.out]
  replace B1 : Below w.heap.size w w2 := by rw [hw2.out]; exact below_drew B1
  replace A1 : Arr w2 (w.heap.size + 1) 59 (List.replicate 8 (.int .u32 0)) := by rw [hw2.out]; exact A1.drew
  replace AW : Arr w2 g 67 (wcells ws) := by rw [hw2.out]; exact AW.drew
  replace KW : KTab 1 w2 := by rw [hw2.out]; exact KW
  clear hw2
  go_wp2
  go_loopw [5, 6, 7, 8, 9, 10, 11, 12, 32] (fun u5 u6 u7 u8 u9 u10 u11 u12 i wr => ∃ (t : Nat) (s : St), t ≤ 64 ∧ i = .int .i64 t ∧ s.Ok ∧ Hid (s = rnds ws ⟨a, b, c, d, e, f, g', h⟩ t) ∧ u5 = .int .u32 (s.a : Int) ∧ u6 = .int .u32 (s.b : Int) ∧ u7 = .int .u32 (s.c : Int) ∧ u8 = .int .u32 (s.d : Int) ∧ u9 = .int .u32 (s.e : Int) ∧ u10 = .int .u32 (s.f : Int) ∧ u11 = .int .u32 (s.g : Int) ∧ u12 = .int .u32 (s.h : Int) ∧ Arr wr (w.heap.size + 1) 59 (List.replicate 8 (.int .u32 0)) ∧ Arr wr g 67 (wcells ws) ∧ KTab 1 wr ∧ Below w.heap.size w wr)
    (fun u5 u6 u7 u8 u9 u10 u11 u12 i _ => 64 - (intOf i).toNat)
  case atStart => exact ⟨0, ⟨a, b, c, d, e, f, g', h⟩, by omega, rfl, hs, rfl, rfl, rfl, rfl, rfl, rfl, rfl, rfl, rfl, A1, AW, KW, B1⟩
  case round =>
    clear A1 AW KW B1
    obtain ⟨t, s, ht, rfl, hok, hst, rfl, rfl, rfl, rfl, rfl, rfl, rfl, rfl, A1, AW, KW, B1⟩ := hrel
    by_cases hlt : t < 64
    · obtain ⟨k, hk⟩ : ∃ k, Hid (k = kTab.getD t 0) := ⟨_, rfl⟩
      obtain ⟨x, hx⟩ : ∃ x, Hid (x = ws.getD t 0) := ⟨_, rfl⟩
      have ck := KW t hlt
      rw [← hk.out] at ck
      have cx := (AW.cell t).trans (wcells_at (by rw [HL.out]; omega))
      rw [← hx.out] at cx
      have lk : k ≤ 4294967295 := by rw [hk.out]; exact kTab_lt t
      have lx : x ≤ 4294967295 := by rw [hx.out]; have := HLT.out t; omega
      have q64 : (t : Int) < 64 := by omega
      have ba := hok.a
      have bb := hok.b
      have bc := hok.c
      have bd := hok.d
      have be := hok.e
      have bf := hok.f
      have bg := hok.g
      have bh := hok.h
      have s1 := t1_sum s.h (bs1 s.e) (chN s.e s.f s.g) k x
      obtain ⟨T1, hT1⟩ : ∃ T, Hid (T = tmp1 s k x) := ⟨_, rfl⟩
      rw [show (s.h + bs1 s.e + chN s.e s.f s.g + k + x) % 4294967296 = T1 from hT1.out.symm] at s1
      obtain ⟨T2, hT2⟩ : ∃ T, Hid (T = tmp2 s) := ⟨_, rfl⟩
      have s2 := sum2 (bs0 s.a) (majN s.a s.b s.c)
      rw [show (bs0 s.a + majN s.a s.b s.c) % 4294967296 = T2 from hT2.out.symm] at s2
      have l1 : T1 ≤ 4294967295 := by rw [hT1.out]; exact mod_le _
      have l2 : T2 ≤ 4294967295 := by rw [hT2.out]; exact mod_le _
      have m1 := bs0_lt (x := s.a) (by omega)
      have m2 := majN_lt (x := s.a) (y := s.b) (z := s.c) (by omega) (by omega)
      clear ck cx
      have ck : wr.cell? ⟨1, t, none⟩ = some (.int .u32 (k : Int)) := by rw [hk.out]; exact KW t hlt
      have cx : wr.cell? ⟨g, t, none⟩ = some (.int .u32 (x : Int)) := by rw [hx.out]; exact (AW.cell t).trans (wcells_at (by rw [HL.out]; omega))
      have hA1 := Lib.hid A1.drew
      have hAW := Lib.hid AW.drew
      have hKW : Hid (KTab 1 wr.drew) := KW
      have hB1 := Lib.hid (below_drew B1)
      have hnew : Hid ((⟨(T1 + T2) % 4294967296, s.a, s.b, s.c, (s.d + T1) % 4294967296, s.e, s.f, s.g⟩ : St) = rnds ws ⟨a, b, c, d, e, f, g', h⟩ (t + 1)) := by
        show _ = _
        rw [rnds, ← hst.out, ← hk.out, ← hx.out, rnd, ← hT1.out, ← hT2.out]
      clear A1 AW KW B1
      go_wp2
      refine wp_region_still_lit (by kernel_rfl) (by kernel_rfl) ?_
      repeat still_step
      still_call (still_of (bs1_c s.e _ be))
      repeat still_step
      still_call (still_of (choose_c s.e s.f s.g _ be bf bg))
      repeat still_step
      refine wpStill_nil ?_
      rw [show ({ wr with drawn := wr.drawn + 1 } : World) = wr.drew from rfl]
      go_wp2_with (first | (go_at_call 45; refine (bs0_c s.a _ ba).mono ?_; rintro e w' ⟨rfl, rfl⟩) | (go_at_call 46; refine (majority_c s.a s.b s.c _ ba bb bc).mono ?_; rintro e w' ⟨rfl, rfl⟩))
      go_roundw
      case rel => exact ⟨t + 1, ⟨(T1 + T2) % 4294967296, s.a, s.b, s.c, (s.d + T1) % 4294967296, s.e, s.f, s.g⟩, by omega, by go_num, ⟨mod_le _, ba, bb, bc, mod_le _, be, bf, bg⟩, hnew, by go_num, rfl, rfl, rfl, by go_num, rfl, rfl, rfl, hA1.out, hAW.out, hKW.out, hB1.out⟩
      case measure => simp [intOf]; omega
    · obtain rfl : t = 64 := by omega
      have hst' : R = s := by rw [hR.out, hst.out]
      subst hst'
      clear hst AW KW
      have hsz := A1.lt
      go_wp2_with (first | ((with_reducible refine wpList_store_arr (x := .tmp 4) (y := .tmp 82) (cs := stv R) arr43 A1 ?e1 ?e2 ?e3 ?e4 ?e5 ?_); (case e1 => rfl); (case e2 => rfl); (case e3 => rfl); (case e4 => rfl); (case e5 => intro v hv; simp only [stv, List.mem_cons, List.not_mem_nil, or_false] at hv; rcases hv with rfl | rfl | rfl | rfl | rfl | rfl | rfl | rfl <;> rfl); intro w9 hA9 hO9))
      refine bodyPost_ret (results_arr arr43 rfl _ rfl hA9 rfl) rfl ⟨rfl, hO9.below B1 (by omega) (by omega)⟩
end Go.Proofs.YtgomconcfjllcaaDoor
