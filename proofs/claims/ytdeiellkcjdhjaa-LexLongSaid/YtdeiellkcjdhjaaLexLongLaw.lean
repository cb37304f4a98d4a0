/-
  The walk of LexLong.
-/
import Derived.Test.YtdeiellkcjdhjaaLexAwake
namespace Go.Proofs.Ytdeiellkcjdhjaa
open Go.RowKit Lx

namespace Lx
theorem rem20 (z : Int) : ∃ N : Nat, N < 20 ∧ (wrap64 (z.tmod 20 + 20)).tmod 20 = (N : Int) := by
  have h1 : -20 < z.tmod 20 ∧ z.tmod 20 < 20 := by
    have := Int.tmod_lt_of_pos z (show (0 : Int) < 20 by omega)
    have := Int.lt_tmod_of_pos z (show (0 : Int) < 20 by omega)
    omega
  have hw : wrap64 (z.tmod 20 + 20) = z.tmod 20 + 20 := by unfold wrap64; omega
  rw [hw]
  refine ⟨((z.tmod 20 + 20).tmod 20).toNat, ?_, ?_⟩
  · rw [Int.tmod_eq_emod_of_nonneg (by omega)]; omega
  · rw [Int.tmod_eq_emod_of_nonneg (by omega)]; omega
/-- The first j cells hold blanks. -/
def spc (n j : Nat) : List Int := List.replicate j 32 ++ List.replicate (n - j) 0
theorem spc_zero (n : Nat) : spc n 0 = List.replicate n 0 := by simp [spc]
theorem spc_set (n j : Nat) (h : j < n) : (spc n j).set j 32 = spc n (j + 1) := by
  unfold spc
  rw [List.set_append_right _ _ (by simp), List.length_replicate, Nat.sub_self, show n - j = (n - (j + 1)) + 1 by omega, List.replicate_succ, List.set_cons_zero, List.replicate_succ', List.append_assoc]
  rfl
theorem spc_str (n : Nat) : strOf (spc n n) = stg (List.replicate n 32) := by
  unfold spc strOf stg
  rw [Nat.sub_self, List.replicate_zero, List.append_nil, List.map_replicate]
  rfl
theorem spc_all (n : Nat) (h : n ≤ 20000) : allS (stg (List.replicate n 32)) = some (.ok [] 1) := by
  show (if _ then _ else _) = _
  have hs : (stg (List.replicate n 32)).size = n := by rw [← bys_len, bys_stg, List.length_replicate]
  rw [if_neg (by omega), bys_stg, lexS_spaces]
theorem spc_big (n : Nat) (h : 20000 < n) : allS (stg (List.replicate n 32)) = none := by
  show (if _ then _ else _) = _
  have hs : (stg (List.replicate n 32)).size = n := by rw [← bys_len, bys_stg, List.length_replicate]
  rw [if_pos (by omega)]
theorem spc_size (n : Nat) : (stg (List.replicate n 32)).size = n := by rw [← bys_len, bys_stg, List.length_replicate]
end Lx

theorem Own.madeS {e : TypeId} {k : IntKind} {B : Nat} {w : World} {ao : Option Addr} {n c : Nat} (h0 : (Lit.int k 0).wf = true) (hown : w.ownsRow B e 1 (.slice ao n c) n (madeCells #[Value.int k 0] n).toList) : Own e k B w ao n c (List.replicate n 0) := by
  have ez : (madeCells #[Value.int k 0] n).toList = (List.replicate n (0 : Int)).map (Value.int k) := by
    apply List.ext_getElem
    · simp [madeCells]
    · intro i h1 h2
      simp [madeCells, Nat.mod_one]
  rw [ez] at hown
  exact ⟨hown, fun x hx => by rw [List.eq_of_mem_replicate hx]; exact h0⟩

set_option maxHeartbeats 3200000 in
set_option maxRecDepth 100000 in
theorem longLaw_c (z : Int) (w : World) :
    Calls Try.prog 8 #[.int .i64 z] w fun e w' => e = .returned (.bool true) ∧ Below w.heap.size w w' := by
  obtain ⟨i0, hi, hz0, hz1, hz2⟩ := info_parts info5
  obtain ⟨N, hN, hrem⟩ := rem20 z
  obtain ⟨n, hn⟩ : ∃ n : Nat, Hid (n = 19990 + N) := ⟨_, rfl⟩
  have hn1 : 19990 ≤ n := by rw [hn.out]; omega
  have hn2 : n < 20010 := by rw [hn.out]; omega
  have hadd : IntKind.i64.wrap (19990 + (N : Int)) = (n : Int) := by rw [IntWalk.i64_in _ (by omega), hn.out]; omega
  have hadd2 : wrap64 (19990 + (N : Int)) = (n : Int) := by unfold wrap64; rw [hn.out]; omega
  go_enter Try.func8, Try.ntmps8
  go_wp2_with (at_make; refine wpList_make_full _ rfl _ _ 36 rfl w.heap.size 5 i0 (.int .u8 0) 1 Try.underlying36 hi hz0 hz1 _ _ _ _ n rfl rfl (by omega) (by omega) ?b2 ?b3 (Nat.le_refl _) ?_)
  case b2 => first | omega | (rw [hz2]; omega)
  case b3 => unfold maxLen; omega
  intro w1 hown hgr
  have O1 : Hid (Own 5 .u8 w.heap.size w1 (some ⟨w.heap.size, 0, none⟩) n n (spc n 0)) := by
    show Own _ _ _ _ _ _ _ _
    rw [spc_zero]
    exact Own.madeS (wf_u8 (by omega) (by omega)) hown
  have B1 : Hid (Below w.heap.size w w1) := (Below.refl _ _).grown hgr (Nat.le_refl _) (fun k hk => by cases hk)
  clear hown hgr hrem hadd hadd2
  go_wp2_with fail
  go_loopw [16] (fun i wr => ∃ j : Nat, j ≤ n ∧ i = .int .i64 j ∧ Own 5 .u8 w.heap.size wr (some ⟨w.heap.size, 0, none⟩) n n (spc n j) ∧ Below w.heap.size w wr)
    (fun i _ => n - (intOf i).toNat)
  case atStart => exact ⟨0, by omega, rfl, O1.out, B1.out⟩
  case round =>
    clear O1 B1
    obtain ⟨j, hj, rfl, O, B⟩ := hrel
    by_cases hlt : j < n
    · have hlt' : (j : Int) < n := by omega
      have hix := ix8 O.lst j j rfl hlt
      have hfz := O.frozen hlt
      have hc := O.lst.cell j hlt
      have hbase := O.base hlt
      have O2 := O.set hlt (wf_u8 (x := 32) (by omega) (by omega))
      rw [spc_set n j hlt] at O2
      have HO2 := Lib.hid O2
      have HB2 := Lib.hid (B.setCell hbase (.int .u8 32))
      clear O2 O
      go_wp2_with fail
      go_roundw
      case rel => exact ⟨j + 1, by omega, by go_num, HO2.out, HB2.out⟩
      case measure => simp [intOf]; omega
    · obtain rfl : j = n := by omega
      have hcv := own_string O
      rw [spc_str] at hcv
      have hsz := spc_size j
      have hall := spc_all j
      have hbig := spc_big j
      obtain ⟨Q, hQ⟩ : ∃ Q : ByteArray, Hid (stg (List.replicate j 32) = Q) := ⟨stg (List.replicate j 32), Lib.hid rfl⟩
      rw [hQ.out] at hcv hsz hall hbig
      have H1 := Lib.hid (all_c Q wr (by omega))
      have HB := Lib.hid B
      have hall := Lib.hid hall
      have hbig := Lib.hid hbig
      clear O B hsz
      go_wp2_with fail
      refine H1.out.mono ?_
      rintro e w2 ⟨hO, b2⟩
      have BB2 := HB.out.trans (b2.mono HB.out.size)
      by_cases hb : 20000 < j
      · have hb' : (j : Int) > 20000 := by omega
        rw [hbig.out hb] at hO
        obtain rfl := hO.big
        obtain ⟨W3, hW3⟩ : ∃ W, Hid (W = w2.alloc (.cells #[.int .i64 7, .int .i64 0] 26)) := ⟨_, rfl⟩
        have b4 : Below w2.heap.size w2 W3 := by rw [hW3.out]; exact (Below.refl _ _).alloc (Nat.le_refl _) _
        have A4 : Arr W3 w2.heap.size 26 [.int .i64 7, .int .i64 0] := by rw [hW3.out]; exact Arr.new w2 _ _
        have B4 := Lib.hid (BB2.trans (b4.mono BB2.size))
        have HA := Lib.hid (awake_c W3)
        have A4 := Lib.hid A4
        clear hO b2 b4 BB2 H1 hall hbig hb
        go_wp2_with fail
        rw [← hW3.out]
        refine HA.out.mono ?_
        rintro e w5 ⟨rfl, b5⟩
        have A5 := A4.out.kept b5
        have q0 := A5.cell 0
        have q1 := A5.cell 1
        have B5 := Lib.hid (B4.out.trans (b5.mono B4.out.size))
        clear HA A5 b5
        go_wp2_with fail
        go_ret
        exact ⟨rfl, B5.out⟩
      · have hb' : ¬ (j : Int) > 20000 := by omega
        rw [hall.out (by omega)] at hO
        obtain ⟨ao, c, rfl, O⟩ := hO.ok
        obtain ⟨W3, hW3⟩ : ∃ W, Hid (W = w2.alloc (.cells #[.int .i64 0, .int .i64 0] 26)) := ⟨_, rfl⟩
        have b4 : Below w2.heap.size w2 W3 := by rw [hW3.out]; exact (Below.refl _ _).alloc (Nat.le_refl _) _
        have A4 : Arr W3 w2.heap.size 26 [.int .i64 0, .int .i64 0] := by rw [hW3.out]; exact Arr.new w2 _ _
        have B4 := Lib.hid (BB2.trans (b4.mono BB2.size))
        have HA := Lib.hid (awake_c W3)
        have A4 := Lib.hid A4
        have hlen : (([] : List Tok).length + 1 : Nat) = 1 := rfl
        rw [hlen]
        clear hO O b2 b4 BB2 H1 hall hbig hb hlen
        go_wp2_with fail
        rw [← hW3.out]
        refine HA.out.mono ?_
        rintro e w5 ⟨rfl, b5⟩
        have A5 := A4.out.kept b5
        have q0 := A5.cell 0
        have q1 := A5.cell 1
        have B5 := Lib.hid (B4.out.trans (b5.mono B4.out.size))
        clear HA A5 b5
        go_wp2_with fail
        go_ret
        exact ⟨rfl, B5.out⟩
end Go.Proofs.Ytdeiellkcjdhjaa
