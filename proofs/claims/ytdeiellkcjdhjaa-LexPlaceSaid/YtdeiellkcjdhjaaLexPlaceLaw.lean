/-
  The walk of LexPlace.
-/
import Derived.Test.YtdeiellkcjdhjaaLexAwake
import Derived.Deep.RegionHeld3
namespace Go.Proofs.Ytdeiellkcjdhjaa
open Go.RowKit Lx

namespace Lx
theorem low3 (z : Int) : ∃ K : Nat, K < 8 ∧ bits .and .i64 z 7 = (K : Int) := by
  have h7 : (BitVec.ofInt 64 7).toNat = 2 ^ 3 - 1 := by decide
  have key : (BitVec.ofInt 64 z &&& BitVec.ofInt 64 7).toNat = (z % ((2 ^ 64 : Nat) : Int)).toNat % 2 ^ 3 := by
    rw [BitVec.toNat_and, BitVec.toNat_ofInt, h7, Nat.and_two_pow_sub_one_eq_mod]
  refine ⟨(z % 8).toNat, by omega, ?_⟩
  show IntKind.i64.wrap ((BitVec.ofInt 64 z &&& BitVec.ofInt 64 7).toNat : Nat) = _
  rw [key, IntKind.wrap_i64]
  omega
theorem lexS_line : ∀ (l : List UInt8) (ln : Nat) (ts : List Tok) (m : Nat), lexS l ln = .ok ts m → m ≤ ln + l.length := by
  intro l
  induction hk : l.length using Nat.strongRecOn generalizing l with
  | _ k ih =>
    intro ln ts m h
    cases l with
    | nil => rw [lexS_nil] at h; injection h with _ h; omega
    | cons c r =>
      have hr : r.length < k := by rw [← hk]; simp
      have hk' : k = r.length + 1 := by rw [← hk]; simp
      rw [lexS_cons] at h
      split at h
      · have hd := drop_while_len notNl r
        have := ih _ (Nat.lt_of_le_of_lt hd hr) _ rfl _ _ _ h
        omega
      · split at h
        · have := ih _ hr _ rfl _ _ _ h
          have : lineOf c ln ≤ ln + 1 := by unfold lineOf; split <;> omega
          omega
        · cases hx : oneS (c :: r) with
          | none => rw [hx] at h; cases h
          | some x =>
            rw [hx] at h
            simp only at h
            have hd : (r.drop (x.2.2 - 1)).length ≤ r.length := by rw [List.length_drop]; omega
            cases hy : lexS (r.drop (x.2.2 - 1)) ln with
            | err e => rw [hy] at h; cases h
            | ok us e =>
              rw [hy] at h
              injection h with _ h
              have := ih _ (Nat.lt_of_le_of_lt hd hr) _ rfl _ _ _ hy
              omega
theorem place_text {T X : ByteArray} {k : Nat} {b : UInt8} (h : bys X = bys T ++ List.replicate k 10) : bys (X ++ ⟨#[32]⟩ ++ stg [b] ++ ⟨#[32, 120]⟩) = bys T ++ (List.replicate k 10 ++ 32 :: b :: [32, 120]) := by
  rw [bys_append, bys_append, bys_append, h, bys_stg]
  show bys T ++ List.replicate k 10 ++ [32] ++ [b] ++ [32, 120] = _
  simp
end Lx
theorem below_drew1 {B : Nat} {w w' : World} (h : Below B w w') : Below B w w'.drew := ⟨h.os, h.tape, h.output, h.size, h.block⟩
/-- One byte in a slice that has just been made, as a string. -/
theorem one_str_conv (w : World) (b : UInt8) : (convert 36 9 (.slice (some ⟨w.heap.size, 0, none⟩) 1 1)).run Try.prog (w.alloc (.cells #[.int .u8 ((b.toNat : Nat) : Int)] 5)) = .ok (.string (stg [b])) (w.alloc (.cells #[.int .u8 ((b.toNat : Nat) : Int)] 5)) := by
  have hb := UInt8.toNat_lt b
  have o : Own 5 .u8 w.heap.size (w.alloc (.cells #[.int .u8 ((b.toNat : Nat) : Int)] 5)) (some ⟨w.heap.size, 0, none⟩) 1 1 [((b.toNat : Nat) : Int)] := by
    refine ⟨World.ownsRow_lit w #[.int .u8 ((b.toNat : Nat) : Int)] 1 (Nat.le_refl _) (by unfold maxLen; omega) rfl, ?_⟩
    intro y hy
    simp at hy
    subst hy
    exact wf_u8 (by omega) (by omega)
  have := own_string o
  rwa [show strOf [((b.toNat : Nat) : Int)] = stg [b] from strOf_ints [b]] at this

set_option maxHeartbeats 6400000 in
set_option maxRecDepth 100000 in
theorem placeLaw_c (S : ByteArray) (z y : Int) (w : World) (_ : S.size ≤ maxLen) (hy0 : 0 ≤ y) (hy1 : y ≤ 255) :
    Calls Try.prog 7 #[.string S, .int .i64 z, .int .u8 y] w fun e w' => e = .returned (.bool true) ∧ Below w.heap.size w w' := by
  have HC := Lib.hid (short_c S 100 w)
  obtain ⟨K, hK, hand⟩ := low3 z
  obtain ⟨b, hb⟩ : ∃ b : UInt8, Hid (((b.toNat : Nat) : Int) = y) := ⟨UInt8.ofNat y.toNat, by show _ = _; rw [UInt8.toNat_ofNat_of_lt' (by show y.toNat < 256; omega)]; omega⟩
  obtain ⟨n, hn⟩ : ∃ n : Nat, Hid (b.toNat = n) := ⟨_, rfl⟩
  have hyn : y = (n : Int) := by rw [← hb.out, hn.out]
  subst hyn
  have hcv := one_str_conv
  clear hb
  go_enter Try.func7, Try.ntmps7
  go_wp2_with fail
  refine HC.out.mono ?_
  rintro e w1 ⟨T, rfl, hT, rfl⟩
  have HA := Lib.hid (awake_c w)
  clear HC
  go_wp2_with fail
  go_loop [7] (fun i => ∃ j : Nat, j ≤ T.size ∧ i = .int .i64 j ∧ Hid (∀ x ∈ (bys T).take j, x.toNat ≠ 34 ∧ x.toNat ≠ 35)) (fun i => T.size - (intOf i).toNat)
  case atStart => exact ⟨0, Nat.zero_le _, rfl, fun x hx => by cases hx⟩
  case round =>
    obtain ⟨j, hj, rfl, hI⟩ := hrel
    by_cases hlt : j < T.size
    · have hlt' : (j : Int) < (T.size : Int) := by omega
      obtain ⟨d, hd, x1⟩ := at_s T j hlt
      obtain ⟨m, hm⟩ : ∃ n : Nat, Hid (d.toNat = n) := ⟨_, rfl⟩
      rw [hm.out] at x1
      by_cases h35 : m = 35
      · have k35 : ((m : Int) == 35) = true := by simp; omega
        clear h35 hI
        go_wp2_with fail
        refine HA.out.mono ?_
        rintro e w2 ⟨rfl, b2⟩
        go_wp2_with fail
        go_ret
        exact ⟨rfl, b2⟩
      · have k35 : ((m : Int) == 35) = false := by rw [beq_eq_false_iff_ne]; omega
        by_cases h34 : m = 34
        · have k34 : ((m : Int) == 34) = true := by simp; omega
          clear h35 h34 hI
          go_wp2_with fail
          refine HA.out.mono ?_
          rintro e w2 ⟨rfl, b2⟩
          go_wp2_with fail
          go_ret
          exact ⟨rfl, b2⟩
        · have k34 : ((m : Int) == 34) = false := by rw [beq_eq_false_iff_ne]; omega
          have hN : Hid (∀ x ∈ (bys T).take (j + 1), x.toNat ≠ 34 ∧ x.toNat ≠ 35) := by
            intro x hx
            rw [List.take_add, hd.out] at hx
            rcases List.mem_append.1 hx with hx | hx
            · exact hI.out x hx
            · have : x = d := by simpa using hx
              rw [this, hm.out]
              exact ⟨h34, h35⟩
          clear h35 h34 hI
          go_wp2_with fail
          go_round
          case rel => exact ⟨j + 1, by omega, by go_num, hN⟩
          case measure => simp [intOf]; omega
    · obtain rfl : j = T.size := by omega
      have hT0 : Hid (∀ x ∈ bys T, x.toNat ≠ 34 ∧ x.toNat ≠ 35) := by
        intro x hx
        refine hI.out x ?_
        rw [List.take_of_length_le (by rw [bys_len]; exact Nat.le_refl _)]
        exact hx
      clear hI
      by_cases hgood : n ≠ 65 ∧ n ≠ 0 ∧ n ≠ 95 ∧ n < 128
      · have k1 : ((n : Int) != 65) = true := by simp; omega
        have k2 : ((n : Int) != 0) = true := by simp; omega
        have k3 : ((n : Int) != 95) = true := by simp; omega
        have k4 : (n : Int) < 128 := by omega
        clear hgood
        go_wp2_with fail
        refine HA.out.mono ?_
        rintro e w2 ⟨rfl, b2⟩
        go_wp2_with fail
        go_ret
        exact ⟨rfl, b2⟩
      · have hbad : Hid (badB b = true) := by
          show _ = _
          have : n = 65 ∨ n = 0 ∨ n = 95 ∨ 128 ≤ n := by omega
          unfold badB blankB tailB letB digB markB
          rw [hn.out]
          simp only [Bool.and_eq_true, Bool.not_eq_true', Bool.or_eq_false_iff, decide_eq_false_iff_not, Bool.and_eq_false_iff]
          omega
        have H1 := Lib.hid (all_c T w (by omega))
        have hTs : Hid (T.size ≤ 20000) := by show _ ≤ _; omega
        rcases (show n = 65 ∨ (n ≠ 65 ∧ n = 0) ∨ (n ≠ 65 ∧ n ≠ 0 ∧ n = 95) ∨ (n ≠ 65 ∧ n ≠ 0 ∧ n ≠ 95 ∧ 128 ≤ n) by omega) with h | h | h | h
        · have k1 : ((n : Int) != 65) = false := by simp; omega
          clear h hgood
          go_wp2_with fail
          refine H1.out.mono ?_
          rintro e w2 ⟨hO, b2⟩
          have hall : allS T = some (lexS (bys T) 1) := if_neg (by have := hTs.out; omega)
          rw [hall] at hO
          cases hres : lexS (bys T) 1 with
          | err l =>
            rw [hres] at hO
            obtain rfl := hO.err
            obtain ⟨W3, hW3⟩ : ∃ W, Hid (W = w2.alloc (.cells #[.int .i64 1, .int .i64 (l : Int)] 26)) := ⟨_, rfl⟩
            have b4 : Below w2.heap.size w2 W3 := by rw [hW3.out]; exact (Below.refl _ _).alloc (Nat.le_refl _) _
            have B4 := Lib.hid (b2.trans (b4.mono b2.size))
            have HA3 := Lib.hid (awake_c W3)
            clear hO b2 b4 H1 hall hres hcv
            go_wp2_with fail
            rw [← hW3.out]
            refine HA3.out.mono ?_
            rintro e w5 ⟨rfl, b5⟩
            have B5 := Lib.hid (B4.out.trans (b5.mono B4.out.size))
            clear HA3 b5
            go_wp2_with fail
            go_ret
            exact ⟨rfl, B5.out⟩
          | ok ts l =>
            rw [hres] at hO
            obtain ⟨ao, c, rfl, O⟩ := hO.ok
            obtain ⟨M, hM⟩ : ∃ M, Hid (ts.length + 1 = M) := ⟨_, rfl⟩
            rw [hM.out] at O ⊢
            have hM0 : ((M : Int) == 0) = false := by rw [beq_eq_false_iff_ne, ← hM.out]; omega
            obtain ⟨W3, hW3⟩ : ∃ W, Hid (W = w2.alloc (.cells #[.int .i64 0, .int .i64 0] 26)) := ⟨_, rfl⟩
            have b4 : Below w2.heap.size w2 W3 := by rw [hW3.out]; exact (Below.refl _ _).alloc (Nat.le_refl _) _
            have B4 := Lib.hid (b2.trans (b4.mono b2.size))
            have O4 := Lib.hid (O.keep b4)
            have hcv1 := hcv W3 b
            rw [hn.out] at hcv1
            have hres := Lib.hid hres
            clear hO O b2 b4 H1 hall hcv
            go_wp2_with fail
            rw [← hW3.out]
            go_loop [10, 11] (fun sv i => ∃ (j : Nat) (X : ByteArray), j ≤ K ∧ i = .int .i64 j ∧ sv = .string X ∧ X.size = T.size + j ∧ Hid (bys X = bys T ++ List.replicate j 10)) (fun _ i => K - (intOf i).toNat)
            case atStart => exact ⟨0, T, Nat.zero_le _, rfl, rfl, rfl, by show _ = _; simp⟩
            case round =>
              obtain ⟨j, X, hj, rfl, rfl, hXs, hX⟩ := hrel
              by_cases hlt : j < K
              · have hlt' : (j : Int) < (K : Int) := by omega
                have m1 : (⟨#[10]⟩ : ByteArray).size = 1 := rfl
                have hX2 : Hid (bys (X ++ ⟨#[10]⟩) = bys T ++ List.replicate (j + 1) 10) := by
                  show _ = _
                  rw [bys_append, hX.out, List.replicate_succ', List.append_assoc]; rfl
                have hXs2 : (X ++ ⟨#[10]⟩).size = T.size + (j + 1) := by rw [ByteArray.size_append, hXs, m1]; omega
                have HXs := Lib.hid hXs2
                have hXle : X.size ≤ 200 := by omega
                clear hX hXs hXs2
                go_wp2_with fail
                go_round
                case rel => exact ⟨j + 1, _, by omega, by go_num, rfl, HXs.out, hX2⟩
                case measure => simp [intOf]; omega
              · obtain rfl : j = K := by omega
                obtain ⟨Q, hQ⟩ : ∃ Q : ByteArray, Hid (X ++ ⟨#[32]⟩ ++ stg [b] ++ ⟨#[32, 120]⟩ = Q) := ⟨X ++ ⟨#[32]⟩ ++ stg [b] ++ ⟨#[32, 120]⟩, Lib.hid rfl⟩
                have m1 : (⟨#[32]⟩ : ByteArray).size = 1 := rfl
                have m2 : (⟨#[32, 120]⟩ : ByteArray).size = 2 := rfl
                have m3 : (stg [b]).size = 1 := rfl
                have hQs : Q.size ≤ 20000 := by
                  rw [← hQ.out, ByteArray.size_append, ByteArray.size_append, ByteArray.size_append, m1, m2, m3]; omega
                have hallQ : Hid (allS Q = some (.err (l + j))) := by
                  show (if _ then _ else _) = _
                  rw [if_neg (by omega), ← hQ.out, place_text hX.out, lexS_place hT0.out hres.out hbad.out]
                have H2 : Hid (∀ W, Calls Try.prog 10 #[.string Q] W fun e w' => AllOut W.heap.size (allS Q) w' e ∧ Below W.heap.size W w') := fun W => all_c Q W (by omega)
                have hXle : X.size ≤ 200 := by omega
                have hQe := hQ.out
                clear hX hXs hQs
                go_wp2_with fail
                refine (H2.out _).mono ?_
                rintro e w5 ⟨hO2, b5⟩
                rw [hallQ.out] at hO2
                obtain rfl := hO2.err
                obtain ⟨F, hF⟩ : ∃ F, Hid (l + j = F) := ⟨_, rfl⟩
                rw [hF.out]
                obtain ⟨P, hP⟩ : ∃ P, Hid (ts.length = P) := ⟨_, rfl⟩
                have hMP : M = P + 1 := by rw [← hM.out, hP.out]
                have hlb : Hid (l ≤ 101) := by
                  have := lexS_line (bys T) 1 _ _ hres.out
                  rw [bys_len] at this
                  show l ≤ 101
                  omega
                have hF1 : F ≤ 200 := by have := hlb.out; rw [← hF.out]; omega
                have hl1 : l ≤ 200 := by have := hlb.out; omega
                have bW : Below W3.heap.size W3 (W3.alloc (.cells #[.int .u8 (n : Int)] 5)) := (Below.refl _ _).alloc (Nat.le_refl _) _
                have bW5 := bW.trans (b5.mono bW.size)
                have O5 := O4.out.keep bW5
                have B5 := B4.out.trans (bW5.mono B4.out.size)
                obtain ⟨W6, hW6⟩ : ∃ W, Hid (W = w5.alloc (.cells #[.int .i64 1, .int .i64 (F : Int)] 26)) := ⟨_, rfl⟩
                have b6 : Below w5.heap.size w5 W6 := by rw [hW6.out]; exact (Below.refl _ _).alloc (Nat.le_refl _) _
                have A6 : Hid (Arr W6.drew w5.heap.size 26 [.int .i64 1, .int .i64 (F : Int)]) := by show Arr _ _ _ _; rw [hW6.out]; exact Arr.new w5 _ _
                have B6 : Hid (Below w.heap.size w W6.drew) := below_drew1 (B5.trans (b6.mono B5.size))
                have O6 : Hid (TokOwn w.heap.size W6.drew ao M c (ts ++ [⟨5, [], l⟩])) := (O5.keep (below_drew1 b6))
                obtain ⟨gf, hgf⟩ : ∃ g, Hid (w5.heap.size = g) := ⟨_, rfl⟩
                rw [hgf.out] at A6
                obtain ⟨g, q, hg, x1, _, _, y3⟩ := O6.out.at P (by omega) ⟨5, [], l⟩ (by rw [← hP.out]; simp)
                have HA6 := Lib.hid (awake_c W6.drew)
                have hMb : M ≤ 9223372036854775807 := by
                  rcases O6.out.cases with ⟨_, h0, _⟩ | ⟨_, _, _, _, h3, h4⟩
                  · omega
                  · unfold maxLen at h4; omega
                have hsub : IntKind.i64.wrap ((M : Int) - 1) = (P : Int) := by rw [IntWalk.i64_in _ (by omega)]; omega
                have hadd : IntKind.i64.wrap ((l : Int) + (j : Int)) = (F : Int) := by rw [IntWalk.i64_in _ (by have := hF.out; omega), ← hF.out]; omega
                have y3' : W6.drew.cell? ⟨g, q + 2, none⟩ = some (.int .i64 (l : Int)) := y3
                have HY3 := Lib.hid y3'
                have hlo := Lib.hid (World.block_lt_of_cell? W6.drew _ y3')
                have hFF : ((F : Int) == (F : Int)) = true := beq_self_eq_true _
                have HgO := Lib.hid hg
                have hq0 : W6.drew.cell? ⟨gf, 0, none⟩ = some (.int .i64 1) := A6.out.cell 0
                have hq1 : W6.drew.cell? ⟨gf, 1, none⟩ = some (.int .i64 (F : Int)) := A6.out.cell 1
                clear hO2 b5 bW bW5 O5 B5 b6 hMP hg y3
                go_wp2_with fail
                rw [← hW6.out, hgf.out]
                go_region_held3 (fun w' => w'.cell? ⟨gf, 0, none⟩ = some (.int .i64 1) ∧ w'.cell? ⟨gf, 1, none⟩ = some (.int .i64 (F : Int)) ∧ w'.cell? ⟨g, q + 2, none⟩ = some (.int .i64 (l : Int))) (go_keep) (first
                  | (go_at_call 12; refine HA6.out.mono ?_; rintro e v1 ⟨rfl, B1⟩; have E6 := A6.out.kept B1; have z0 : v1.cell? ⟨gf, 0, none⟩ = some (.int .i64 1) := E6.cell 0; have z1 : v1.cell? ⟨gf, 1, none⟩ = some (.int .i64 (F : Int)) := E6.cell 1; have z2 := (B1.cell hlo.out).trans HY3.out; have B7 := Lib.hid (B6.out.trans (B1.mono B6.out.size)); clear B1 E6 hq0 hq1 y3'))
                all_goals
                  go_wp2_with fail
                  go_ret
                  exact ⟨rfl, B7.out⟩
        · have k1 : ((n : Int) != 65) = true := by simp; omega
          have k2 : ((n : Int) != 0) = false := by simp; omega
          clear h hgood
          go_wp2_with fail
          refine H1.out.mono ?_
          rintro e w2 ⟨hO, b2⟩
          have hall : allS T = some (lexS (bys T) 1) := if_neg (by have := hTs.out; omega)
          rw [hall] at hO
          cases hres : lexS (bys T) 1 with
          | err l =>
            rw [hres] at hO
            obtain rfl := hO.err
            obtain ⟨W3, hW3⟩ : ∃ W, Hid (W = w2.alloc (.cells #[.int .i64 1, .int .i64 (l : Int)] 26)) := ⟨_, rfl⟩
            have b4 : Below w2.heap.size w2 W3 := by rw [hW3.out]; exact (Below.refl _ _).alloc (Nat.le_refl _) _
            have B4 := Lib.hid (b2.trans (b4.mono b2.size))
            have HA3 := Lib.hid (awake_c W3)
            clear hO b2 b4 H1 hall hres hcv
            go_wp2_with fail
            rw [← hW3.out]
            refine HA3.out.mono ?_
            rintro e w5 ⟨rfl, b5⟩
            have B5 := Lib.hid (B4.out.trans (b5.mono B4.out.size))
            clear HA3 b5
            go_wp2_with fail
            go_ret
            exact ⟨rfl, B5.out⟩
          | ok ts l =>
            rw [hres] at hO
            obtain ⟨ao, c, rfl, O⟩ := hO.ok
            obtain ⟨M, hM⟩ : ∃ M, Hid (ts.length + 1 = M) := ⟨_, rfl⟩
            rw [hM.out] at O ⊢
            have hM0 : ((M : Int) == 0) = false := by rw [beq_eq_false_iff_ne, ← hM.out]; omega
            obtain ⟨W3, hW3⟩ : ∃ W, Hid (W = w2.alloc (.cells #[.int .i64 0, .int .i64 0] 26)) := ⟨_, rfl⟩
            have b4 : Below w2.heap.size w2 W3 := by rw [hW3.out]; exact (Below.refl _ _).alloc (Nat.le_refl _) _
            have B4 := Lib.hid (b2.trans (b4.mono b2.size))
            have O4 := Lib.hid (O.keep b4)
            have hcv1 := hcv W3 b
            rw [hn.out] at hcv1
            have hres := Lib.hid hres
            clear hO O b2 b4 H1 hall hcv
            go_wp2_with fail
            rw [← hW3.out]
            go_loop [10, 11] (fun sv i => ∃ (j : Nat) (X : ByteArray), j ≤ K ∧ i = .int .i64 j ∧ sv = .string X ∧ X.size = T.size + j ∧ Hid (bys X = bys T ++ List.replicate j 10)) (fun _ i => K - (intOf i).toNat)
            case atStart => exact ⟨0, T, Nat.zero_le _, rfl, rfl, rfl, by show _ = _; simp⟩
            case round =>
              obtain ⟨j, X, hj, rfl, rfl, hXs, hX⟩ := hrel
              by_cases hlt : j < K
              · have hlt' : (j : Int) < (K : Int) := by omega
                have m1 : (⟨#[10]⟩ : ByteArray).size = 1 := rfl
                have hX2 : Hid (bys (X ++ ⟨#[10]⟩) = bys T ++ List.replicate (j + 1) 10) := by
                  show _ = _
                  rw [bys_append, hX.out, List.replicate_succ', List.append_assoc]; rfl
                have hXs2 : (X ++ ⟨#[10]⟩).size = T.size + (j + 1) := by rw [ByteArray.size_append, hXs, m1]; omega
                have HXs := Lib.hid hXs2
                have hXle : X.size ≤ 200 := by omega
                clear hX hXs hXs2
                go_wp2_with fail
                go_round
                case rel => exact ⟨j + 1, _, by omega, by go_num, rfl, HXs.out, hX2⟩
                case measure => simp [intOf]; omega
              · obtain rfl : j = K := by omega
                obtain ⟨Q, hQ⟩ : ∃ Q : ByteArray, Hid (X ++ ⟨#[32]⟩ ++ stg [b] ++ ⟨#[32, 120]⟩ = Q) := ⟨X ++ ⟨#[32]⟩ ++ stg [b] ++ ⟨#[32, 120]⟩, Lib.hid rfl⟩
                have m1 : (⟨#[32]⟩ : ByteArray).size = 1 := rfl
                have m2 : (⟨#[32, 120]⟩ : ByteArray).size = 2 := rfl
                have m3 : (stg [b]).size = 1 := rfl
                have hQs : Q.size ≤ 20000 := by
                  rw [← hQ.out, ByteArray.size_append, ByteArray.size_append, ByteArray.size_append, m1, m2, m3]; omega
                have hallQ : Hid (allS Q = some (.err (l + j))) := by
                  show (if _ then _ else _) = _
                  rw [if_neg (by omega), ← hQ.out, place_text hX.out, lexS_place hT0.out hres.out hbad.out]
                have H2 : Hid (∀ W, Calls Try.prog 10 #[.string Q] W fun e w' => AllOut W.heap.size (allS Q) w' e ∧ Below W.heap.size W w') := fun W => all_c Q W (by omega)
                have hXle : X.size ≤ 200 := by omega
                have hQe := hQ.out
                clear hX hXs hQs
                go_wp2_with fail
                refine (H2.out _).mono ?_
                rintro e w5 ⟨hO2, b5⟩
                rw [hallQ.out] at hO2
                obtain rfl := hO2.err
                obtain ⟨F, hF⟩ : ∃ F, Hid (l + j = F) := ⟨_, rfl⟩
                rw [hF.out]
                obtain ⟨P, hP⟩ : ∃ P, Hid (ts.length = P) := ⟨_, rfl⟩
                have hMP : M = P + 1 := by rw [← hM.out, hP.out]
                have hlb : Hid (l ≤ 101) := by
                  have := lexS_line (bys T) 1 _ _ hres.out
                  rw [bys_len] at this
                  show l ≤ 101
                  omega
                have hF1 : F ≤ 200 := by have := hlb.out; rw [← hF.out]; omega
                have hl1 : l ≤ 200 := by have := hlb.out; omega
                have bW : Below W3.heap.size W3 (W3.alloc (.cells #[.int .u8 (n : Int)] 5)) := (Below.refl _ _).alloc (Nat.le_refl _) _
                have bW5 := bW.trans (b5.mono bW.size)
                have O5 := O4.out.keep bW5
                have B5 := B4.out.trans (bW5.mono B4.out.size)
                obtain ⟨W6, hW6⟩ : ∃ W, Hid (W = w5.alloc (.cells #[.int .i64 1, .int .i64 (F : Int)] 26)) := ⟨_, rfl⟩
                have b6 : Below w5.heap.size w5 W6 := by rw [hW6.out]; exact (Below.refl _ _).alloc (Nat.le_refl _) _
                have A6 : Hid (Arr W6.drew w5.heap.size 26 [.int .i64 1, .int .i64 (F : Int)]) := by show Arr _ _ _ _; rw [hW6.out]; exact Arr.new w5 _ _
                have B6 : Hid (Below w.heap.size w W6.drew) := below_drew1 (B5.trans (b6.mono B5.size))
                have O6 : Hid (TokOwn w.heap.size W6.drew ao M c (ts ++ [⟨5, [], l⟩])) := (O5.keep (below_drew1 b6))
                obtain ⟨gf, hgf⟩ : ∃ g, Hid (w5.heap.size = g) := ⟨_, rfl⟩
                rw [hgf.out] at A6
                obtain ⟨g, q, hg, x1, _, _, y3⟩ := O6.out.at P (by omega) ⟨5, [], l⟩ (by rw [← hP.out]; simp)
                have HA6 := Lib.hid (awake_c W6.drew)
                have hMb : M ≤ 9223372036854775807 := by
                  rcases O6.out.cases with ⟨_, h0, _⟩ | ⟨_, _, _, _, h3, h4⟩
                  · omega
                  · unfold maxLen at h4; omega
                have hsub : IntKind.i64.wrap ((M : Int) - 1) = (P : Int) := by rw [IntWalk.i64_in _ (by omega)]; omega
                have hadd : IntKind.i64.wrap ((l : Int) + (j : Int)) = (F : Int) := by rw [IntWalk.i64_in _ (by have := hF.out; omega), ← hF.out]; omega
                have y3' : W6.drew.cell? ⟨g, q + 2, none⟩ = some (.int .i64 (l : Int)) := y3
                have HY3 := Lib.hid y3'
                have hlo := Lib.hid (World.block_lt_of_cell? W6.drew _ y3')
                have hFF : ((F : Int) == (F : Int)) = true := beq_self_eq_true _
                have HgO := Lib.hid hg
                have hq0 : W6.drew.cell? ⟨gf, 0, none⟩ = some (.int .i64 1) := A6.out.cell 0
                have hq1 : W6.drew.cell? ⟨gf, 1, none⟩ = some (.int .i64 (F : Int)) := A6.out.cell 1
                clear hO2 b5 bW bW5 O5 B5 b6 hMP hg y3
                go_wp2_with fail
                rw [← hW6.out, hgf.out]
                go_region_held3 (fun w' => w'.cell? ⟨gf, 0, none⟩ = some (.int .i64 1) ∧ w'.cell? ⟨gf, 1, none⟩ = some (.int .i64 (F : Int)) ∧ w'.cell? ⟨g, q + 2, none⟩ = some (.int .i64 (l : Int))) (go_keep) (first
                  | (go_at_call 12; refine HA6.out.mono ?_; rintro e v1 ⟨rfl, B1⟩; have E6 := A6.out.kept B1; have z0 : v1.cell? ⟨gf, 0, none⟩ = some (.int .i64 1) := E6.cell 0; have z1 : v1.cell? ⟨gf, 1, none⟩ = some (.int .i64 (F : Int)) := E6.cell 1; have z2 := (B1.cell hlo.out).trans HY3.out; have B7 := Lib.hid (B6.out.trans (B1.mono B6.out.size)); clear B1 E6 hq0 hq1 y3'))
                all_goals
                  go_wp2_with fail
                  go_ret
                  exact ⟨rfl, B7.out⟩
        · have k1 : ((n : Int) != 65) = true := by simp; omega
          have k2 : ((n : Int) != 0) = true := by simp; omega
          have k3 : ((n : Int) != 95) = false := by simp; omega
          clear h hgood
          go_wp2_with fail
          refine H1.out.mono ?_
          rintro e w2 ⟨hO, b2⟩
          have hall : allS T = some (lexS (bys T) 1) := if_neg (by have := hTs.out; omega)
          rw [hall] at hO
          cases hres : lexS (bys T) 1 with
          | err l =>
            rw [hres] at hO
            obtain rfl := hO.err
            obtain ⟨W3, hW3⟩ : ∃ W, Hid (W = w2.alloc (.cells #[.int .i64 1, .int .i64 (l : Int)] 26)) := ⟨_, rfl⟩
            have b4 : Below w2.heap.size w2 W3 := by rw [hW3.out]; exact (Below.refl _ _).alloc (Nat.le_refl _) _
            have B4 := Lib.hid (b2.trans (b4.mono b2.size))
            have HA3 := Lib.hid (awake_c W3)
            clear hO b2 b4 H1 hall hres hcv
            go_wp2_with fail
            rw [← hW3.out]
            refine HA3.out.mono ?_
            rintro e w5 ⟨rfl, b5⟩
            have B5 := Lib.hid (B4.out.trans (b5.mono B4.out.size))
            clear HA3 b5
            go_wp2_with fail
            go_ret
            exact ⟨rfl, B5.out⟩
          | ok ts l =>
            rw [hres] at hO
            obtain ⟨ao, c, rfl, O⟩ := hO.ok
            obtain ⟨M, hM⟩ : ∃ M, Hid (ts.length + 1 = M) := ⟨_, rfl⟩
            rw [hM.out] at O ⊢
            have hM0 : ((M : Int) == 0) = false := by rw [beq_eq_false_iff_ne, ← hM.out]; omega
            obtain ⟨W3, hW3⟩ : ∃ W, Hid (W = w2.alloc (.cells #[.int .i64 0, .int .i64 0] 26)) := ⟨_, rfl⟩
            have b4 : Below w2.heap.size w2 W3 := by rw [hW3.out]; exact (Below.refl _ _).alloc (Nat.le_refl _) _
            have B4 := Lib.hid (b2.trans (b4.mono b2.size))
            have O4 := Lib.hid (O.keep b4)
            have hcv1 := hcv W3 b
            rw [hn.out] at hcv1
            have hres := Lib.hid hres
            clear hO O b2 b4 H1 hall hcv
            go_wp2_with fail
            rw [← hW3.out]
            go_loop [10, 11] (fun sv i => ∃ (j : Nat) (X : ByteArray), j ≤ K ∧ i = .int .i64 j ∧ sv = .string X ∧ X.size = T.size + j ∧ Hid (bys X = bys T ++ List.replicate j 10)) (fun _ i => K - (intOf i).toNat)
            case atStart => exact ⟨0, T, Nat.zero_le _, rfl, rfl, rfl, by show _ = _; simp⟩
            case round =>
              obtain ⟨j, X, hj, rfl, rfl, hXs, hX⟩ := hrel
              by_cases hlt : j < K
              · have hlt' : (j : Int) < (K : Int) := by omega
                have m1 : (⟨#[10]⟩ : ByteArray).size = 1 := rfl
                have hX2 : Hid (bys (X ++ ⟨#[10]⟩) = bys T ++ List.replicate (j + 1) 10) := by
                  show _ = _
                  rw [bys_append, hX.out, List.replicate_succ', List.append_assoc]; rfl
                have hXs2 : (X ++ ⟨#[10]⟩).size = T.size + (j + 1) := by rw [ByteArray.size_append, hXs, m1]; omega
                have HXs := Lib.hid hXs2
                have hXle : X.size ≤ 200 := by omega
                clear hX hXs hXs2
                go_wp2_with fail
                go_round
                case rel => exact ⟨j + 1, _, by omega, by go_num, rfl, HXs.out, hX2⟩
                case measure => simp [intOf]; omega
              · obtain rfl : j = K := by omega
                obtain ⟨Q, hQ⟩ : ∃ Q : ByteArray, Hid (X ++ ⟨#[32]⟩ ++ stg [b] ++ ⟨#[32, 120]⟩ = Q) := ⟨X ++ ⟨#[32]⟩ ++ stg [b] ++ ⟨#[32, 120]⟩, Lib.hid rfl⟩
                have m1 : (⟨#[32]⟩ : ByteArray).size = 1 := rfl
                have m2 : (⟨#[32, 120]⟩ : ByteArray).size = 2 := rfl
                have m3 : (stg [b]).size = 1 := rfl
                have hQs : Q.size ≤ 20000 := by
                  rw [← hQ.out, ByteArray.size_append, ByteArray.size_append, ByteArray.size_append, m1, m2, m3]; omega
                have hallQ : Hid (allS Q = some (.err (l + j))) := by
                  show (if _ then _ else _) = _
                  rw [if_neg (by omega), ← hQ.out, place_text hX.out, lexS_place hT0.out hres.out hbad.out]
                have H2 : Hid (∀ W, Calls Try.prog 10 #[.string Q] W fun e w' => AllOut W.heap.size (allS Q) w' e ∧ Below W.heap.size W w') := fun W => all_c Q W (by omega)
                have hXle : X.size ≤ 200 := by omega
                have hQe := hQ.out
                clear hX hXs hQs
                go_wp2_with fail
                refine (H2.out _).mono ?_
                rintro e w5 ⟨hO2, b5⟩
                rw [hallQ.out] at hO2
                obtain rfl := hO2.err
                obtain ⟨F, hF⟩ : ∃ F, Hid (l + j = F) := ⟨_, rfl⟩
                rw [hF.out]
                obtain ⟨P, hP⟩ : ∃ P, Hid (ts.length = P) := ⟨_, rfl⟩
                have hMP : M = P + 1 := by rw [← hM.out, hP.out]
                have hlb : Hid (l ≤ 101) := by
                  have := lexS_line (bys T) 1 _ _ hres.out
                  rw [bys_len] at this
                  show l ≤ 101
                  omega
                have hF1 : F ≤ 200 := by have := hlb.out; rw [← hF.out]; omega
                have hl1 : l ≤ 200 := by have := hlb.out; omega
                have bW : Below W3.heap.size W3 (W3.alloc (.cells #[.int .u8 (n : Int)] 5)) := (Below.refl _ _).alloc (Nat.le_refl _) _
                have bW5 := bW.trans (b5.mono bW.size)
                have O5 := O4.out.keep bW5
                have B5 := B4.out.trans (bW5.mono B4.out.size)
                obtain ⟨W6, hW6⟩ : ∃ W, Hid (W = w5.alloc (.cells #[.int .i64 1, .int .i64 (F : Int)] 26)) := ⟨_, rfl⟩
                have b6 : Below w5.heap.size w5 W6 := by rw [hW6.out]; exact (Below.refl _ _).alloc (Nat.le_refl _) _
                have A6 : Hid (Arr W6.drew w5.heap.size 26 [.int .i64 1, .int .i64 (F : Int)]) := by show Arr _ _ _ _; rw [hW6.out]; exact Arr.new w5 _ _
                have B6 : Hid (Below w.heap.size w W6.drew) := below_drew1 (B5.trans (b6.mono B5.size))
                have O6 : Hid (TokOwn w.heap.size W6.drew ao M c (ts ++ [⟨5, [], l⟩])) := (O5.keep (below_drew1 b6))
                obtain ⟨gf, hgf⟩ : ∃ g, Hid (w5.heap.size = g) := ⟨_, rfl⟩
                rw [hgf.out] at A6
                obtain ⟨g, q, hg, x1, _, _, y3⟩ := O6.out.at P (by omega) ⟨5, [], l⟩ (by rw [← hP.out]; simp)
                have HA6 := Lib.hid (awake_c W6.drew)
                have hMb : M ≤ 9223372036854775807 := by
                  rcases O6.out.cases with ⟨_, h0, _⟩ | ⟨_, _, _, _, h3, h4⟩
                  · omega
                  · unfold maxLen at h4; omega
                have hsub : IntKind.i64.wrap ((M : Int) - 1) = (P : Int) := by rw [IntWalk.i64_in _ (by omega)]; omega
                have hadd : IntKind.i64.wrap ((l : Int) + (j : Int)) = (F : Int) := by rw [IntWalk.i64_in _ (by have := hF.out; omega), ← hF.out]; omega
                have y3' : W6.drew.cell? ⟨g, q + 2, none⟩ = some (.int .i64 (l : Int)) := y3
                have HY3 := Lib.hid y3'
                have hlo := Lib.hid (World.block_lt_of_cell? W6.drew _ y3')
                have hFF : ((F : Int) == (F : Int)) = true := beq_self_eq_true _
                have HgO := Lib.hid hg
                have hq0 : W6.drew.cell? ⟨gf, 0, none⟩ = some (.int .i64 1) := A6.out.cell 0
                have hq1 : W6.drew.cell? ⟨gf, 1, none⟩ = some (.int .i64 (F : Int)) := A6.out.cell 1
                clear hO2 b5 bW bW5 O5 B5 b6 hMP hg y3
                go_wp2_with fail
                rw [← hW6.out, hgf.out]
                go_region_held3 (fun w' => w'.cell? ⟨gf, 0, none⟩ = some (.int .i64 1) ∧ w'.cell? ⟨gf, 1, none⟩ = some (.int .i64 (F : Int)) ∧ w'.cell? ⟨g, q + 2, none⟩ = some (.int .i64 (l : Int))) (go_keep) (first
                  | (go_at_call 12; refine HA6.out.mono ?_; rintro e v1 ⟨rfl, B1⟩; have E6 := A6.out.kept B1; have z0 : v1.cell? ⟨gf, 0, none⟩ = some (.int .i64 1) := E6.cell 0; have z1 : v1.cell? ⟨gf, 1, none⟩ = some (.int .i64 (F : Int)) := E6.cell 1; have z2 := (B1.cell hlo.out).trans HY3.out; have B7 := Lib.hid (B6.out.trans (B1.mono B6.out.size)); clear B1 E6 hq0 hq1 y3'))
                all_goals
                  go_wp2_with fail
                  go_ret
                  exact ⟨rfl, B7.out⟩
        · have k1 : ((n : Int) != 65) = true := by simp; omega
          have k2 : ((n : Int) != 0) = true := by simp; omega
          have k3 : ((n : Int) != 95) = true := by simp; omega
          have k4 : ¬ (n : Int) < 128 := by omega
          clear h hgood
          go_wp2_with fail
          refine H1.out.mono ?_
          rintro e w2 ⟨hO, b2⟩
          have hall : allS T = some (lexS (bys T) 1) := if_neg (by have := hTs.out; omega)
          rw [hall] at hO
          cases hres : lexS (bys T) 1 with
          | err l =>
            rw [hres] at hO
            obtain rfl := hO.err
            obtain ⟨W3, hW3⟩ : ∃ W, Hid (W = w2.alloc (.cells #[.int .i64 1, .int .i64 (l : Int)] 26)) := ⟨_, rfl⟩
            have b4 : Below w2.heap.size w2 W3 := by rw [hW3.out]; exact (Below.refl _ _).alloc (Nat.le_refl _) _
            have B4 := Lib.hid (b2.trans (b4.mono b2.size))
            have HA3 := Lib.hid (awake_c W3)
            clear hO b2 b4 H1 hall hres hcv
            go_wp2_with fail
            rw [← hW3.out]
            refine HA3.out.mono ?_
            rintro e w5 ⟨rfl, b5⟩
            have B5 := Lib.hid (B4.out.trans (b5.mono B4.out.size))
            clear HA3 b5
            go_wp2_with fail
            go_ret
            exact ⟨rfl, B5.out⟩
          | ok ts l =>
            rw [hres] at hO
            obtain ⟨ao, c, rfl, O⟩ := hO.ok
            obtain ⟨M, hM⟩ : ∃ M, Hid (ts.length + 1 = M) := ⟨_, rfl⟩
            rw [hM.out] at O ⊢
            have hM0 : ((M : Int) == 0) = false := by rw [beq_eq_false_iff_ne, ← hM.out]; omega
            obtain ⟨W3, hW3⟩ : ∃ W, Hid (W = w2.alloc (.cells #[.int .i64 0, .int .i64 0] 26)) := ⟨_, rfl⟩
            have b4 : Below w2.heap.size w2 W3 := by rw [hW3.out]; exact (Below.refl _ _).alloc (Nat.le_refl _) _
            have B4 := Lib.hid (b2.trans (b4.mono b2.size))
            have O4 := Lib.hid (O.keep b4)
            have hcv1 := hcv W3 b
            rw [hn.out] at hcv1
            have hres := Lib.hid hres
            clear hO O b2 b4 H1 hall hcv
            go_wp2_with fail
            rw [← hW3.out]
            go_loop [10, 11] (fun sv i => ∃ (j : Nat) (X : ByteArray), j ≤ K ∧ i = .int .i64 j ∧ sv = .string X ∧ X.size = T.size + j ∧ Hid (bys X = bys T ++ List.replicate j 10)) (fun _ i => K - (intOf i).toNat)
            case atStart => exact ⟨0, T, Nat.zero_le _, rfl, rfl, rfl, by show _ = _; simp⟩
            case round =>
              obtain ⟨j, X, hj, rfl, rfl, hXs, hX⟩ := hrel
              by_cases hlt : j < K
              · have hlt' : (j : Int) < (K : Int) := by omega
                have m1 : (⟨#[10]⟩ : ByteArray).size = 1 := rfl
                have hX2 : Hid (bys (X ++ ⟨#[10]⟩) = bys T ++ List.replicate (j + 1) 10) := by
                  show _ = _
                  rw [bys_append, hX.out, List.replicate_succ', List.append_assoc]; rfl
                have hXs2 : (X ++ ⟨#[10]⟩).size = T.size + (j + 1) := by rw [ByteArray.size_append, hXs, m1]; omega
                have HXs := Lib.hid hXs2
                have hXle : X.size ≤ 200 := by omega
                clear hX hXs hXs2
                go_wp2_with fail
                go_round
                case rel => exact ⟨j + 1, _, by omega, by go_num, rfl, HXs.out, hX2⟩
                case measure => simp [intOf]; omega
              · obtain rfl : j = K := by omega
                obtain ⟨Q, hQ⟩ : ∃ Q : ByteArray, Hid (X ++ ⟨#[32]⟩ ++ stg [b] ++ ⟨#[32, 120]⟩ = Q) := ⟨X ++ ⟨#[32]⟩ ++ stg [b] ++ ⟨#[32, 120]⟩, Lib.hid rfl⟩
                have m1 : (⟨#[32]⟩ : ByteArray).size = 1 := rfl
                have m2 : (⟨#[32, 120]⟩ : ByteArray).size = 2 := rfl
                have m3 : (stg [b]).size = 1 := rfl
                have hQs : Q.size ≤ 20000 := by
                  rw [← hQ.out, ByteArray.size_append, ByteArray.size_append, ByteArray.size_append, m1, m2, m3]; omega
                have hallQ : Hid (allS Q = some (.err (l + j))) := by
                  show (if _ then _ else _) = _
                  rw [if_neg (by omega), ← hQ.out, place_text hX.out, lexS_place hT0.out hres.out hbad.out]
                have H2 : Hid (∀ W, Calls Try.prog 10 #[.string Q] W fun e w' => AllOut W.heap.size (allS Q) w' e ∧ Below W.heap.size W w') := fun W => all_c Q W (by omega)
                have hXle : X.size ≤ 200 := by omega
                have hQe := hQ.out
                clear hX hXs hQs
                go_wp2_with fail
                refine (H2.out _).mono ?_
                rintro e w5 ⟨hO2, b5⟩
                rw [hallQ.out] at hO2
                obtain rfl := hO2.err
                obtain ⟨F, hF⟩ : ∃ F, Hid (l + j = F) := ⟨_, rfl⟩
                rw [hF.out]
                obtain ⟨P, hP⟩ : ∃ P, Hid (ts.length = P) := ⟨_, rfl⟩
                have hMP : M = P + 1 := by rw [← hM.out, hP.out]
                have hlb : Hid (l ≤ 101) := by
                  have := lexS_line (bys T) 1 _ _ hres.out
                  rw [bys_len] at this
                  show l ≤ 101
                  omega
                have hF1 : F ≤ 200 := by have := hlb.out; rw [← hF.out]; omega
                have hl1 : l ≤ 200 := by have := hlb.out; omega
                have bW : Below W3.heap.size W3 (W3.alloc (.cells #[.int .u8 (n : Int)] 5)) := (Below.refl _ _).alloc (Nat.le_refl _) _
                have bW5 := bW.trans (b5.mono bW.size)
                have O5 := O4.out.keep bW5
                have B5 := B4.out.trans (bW5.mono B4.out.size)
                obtain ⟨W6, hW6⟩ : ∃ W, Hid (W = w5.alloc (.cells #[.int .i64 1, .int .i64 (F : Int)] 26)) := ⟨_, rfl⟩
                have b6 : Below w5.heap.size w5 W6 := by rw [hW6.out]; exact (Below.refl _ _).alloc (Nat.le_refl _) _
                have A6 : Hid (Arr W6.drew w5.heap.size 26 [.int .i64 1, .int .i64 (F : Int)]) := by show Arr _ _ _ _; rw [hW6.out]; exact Arr.new w5 _ _
                have B6 : Hid (Below w.heap.size w W6.drew) := below_drew1 (B5.trans (b6.mono B5.size))
                have O6 : Hid (TokOwn w.heap.size W6.drew ao M c (ts ++ [⟨5, [], l⟩])) := (O5.keep (below_drew1 b6))
                obtain ⟨gf, hgf⟩ : ∃ g, Hid (w5.heap.size = g) := ⟨_, rfl⟩
                rw [hgf.out] at A6
                obtain ⟨g, q, hg, x1, _, _, y3⟩ := O6.out.at P (by omega) ⟨5, [], l⟩ (by rw [← hP.out]; simp)
                have HA6 := Lib.hid (awake_c W6.drew)
                have hMb : M ≤ 9223372036854775807 := by
                  rcases O6.out.cases with ⟨_, h0, _⟩ | ⟨_, _, _, _, h3, h4⟩
                  · omega
                  · unfold maxLen at h4; omega
                have hsub : IntKind.i64.wrap ((M : Int) - 1) = (P : Int) := by rw [IntWalk.i64_in _ (by omega)]; omega
                have hadd : IntKind.i64.wrap ((l : Int) + (j : Int)) = (F : Int) := by rw [IntWalk.i64_in _ (by have := hF.out; omega), ← hF.out]; omega
                have y3' : W6.drew.cell? ⟨g, q + 2, none⟩ = some (.int .i64 (l : Int)) := y3
                have HY3 := Lib.hid y3'
                have hlo := Lib.hid (World.block_lt_of_cell? W6.drew _ y3')
                have hFF : ((F : Int) == (F : Int)) = true := beq_self_eq_true _
                have HgO := Lib.hid hg
                have hq0 : W6.drew.cell? ⟨gf, 0, none⟩ = some (.int .i64 1) := A6.out.cell 0
                have hq1 : W6.drew.cell? ⟨gf, 1, none⟩ = some (.int .i64 (F : Int)) := A6.out.cell 1
                clear hO2 b5 bW bW5 O5 B5 b6 hMP hg y3
                go_wp2_with fail
                rw [← hW6.out, hgf.out]
                go_region_held3 (fun w' => w'.cell? ⟨gf, 0, none⟩ = some (.int .i64 1) ∧ w'.cell? ⟨gf, 1, none⟩ = some (.int .i64 (F : Int)) ∧ w'.cell? ⟨g, q + 2, none⟩ = some (.int .i64 (l : Int))) (go_keep) (first
                  | (go_at_call 12; refine HA6.out.mono ?_; rintro e v1 ⟨rfl, B1⟩; have E6 := A6.out.kept B1; have z0 : v1.cell? ⟨gf, 0, none⟩ = some (.int .i64 1) := E6.cell 0; have z1 : v1.cell? ⟨gf, 1, none⟩ = some (.int .i64 (F : Int)) := E6.cell 1; have z2 := (B1.cell hlo.out).trans HY3.out; have B7 := Lib.hid (B6.out.trans (B1.mono B6.out.size)); clear B1 E6 hq0 hq1 y3'))
                all_goals
                  go_wp2_with fail
                  go_ret
                  exact ⟨rfl, B7.out⟩
end Go.Proofs.Ytdeiellkcjdhjaa
