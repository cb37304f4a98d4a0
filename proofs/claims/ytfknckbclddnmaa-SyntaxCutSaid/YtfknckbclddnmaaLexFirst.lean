/-
  One token: lex.first, electionref06.one.
-/
import Derived.Test.YtfknckbclddnmaaLexUnq
namespace Go.Proofs.Ytfknckbclddnmaa
open Go.RowKit Lx

namespace Lx
/-- What a reader of one token hands back: the length 0 where there is none. -/
def OneOut (r : Option (Nat × List UInt8 × Nat)) (e : Ending) : Prop := ∃ (k : Nat) (t : ByteArray) (n : Nat), e = .returned (.tuple #[.int .i64 (k : Int), .string t, .int .i64 (n : Int)]) ∧
  match r with
  | none => n = 0
  | some x => k = x.1 ∧ t = stg x.2.1 ∧ n = x.2.2
theorem OneOut.some {x : Nat × List UInt8 × Nat} {r : Option (Nat × List UInt8 × Nat)} {k n : Nat} {t : ByteArray} {z y : Int} (h : r = Option.some x) (hk : z = (k : Int)) (hn : y = (n : Int)) (h1 : k = x.1) (h2 : t = stg x.2.1) (h3 : n = x.2.2) : OneOut r (.returned (.tuple #[.int .i64 z, .string t, .int .i64 y])) := by
  subst h hk hn
  exact ⟨k, t, n, rfl, h1, h2, h3⟩
theorem OneOut.none {r : Option (Nat × List UInt8 × Nat)} {k : Nat} {t : ByteArray} {z : Int} (h : r = Option.none) (hk : z = (k : Int)) : OneOut r (.returned (.tuple #[.int .i64 z, .string t, .int .i64 0])) := by
  subst h hk
  exact ⟨k, t, 0, rfl, rfl⟩
theorem pre_run (s : ByteArray) : bys (s.extract 0 (wrdN (bys s))) = (bys s).takeWhile tailB := by rw [bys_pre, run_take]
theorem pre_run_s (s : ByteArray) : s.extract 0 (wrdN (bys s)) = stg ((bys s).takeWhile tailB) := by rw [← pre_run, stg_bys]
theorem one_word {l : List UInt8} (h : wordB (l.takeWhile tailB) = true) : oneS l = Option.some (1, l.takeWhile tailB, wrdN l) := by unfold oneS; rw [if_pos h]; rfl
theorem one_num {l : List UInt8} (h0 : wordB (l.takeWhile tailB) = false) (h : numB (l.takeWhile tailB) = true) : oneS l = Option.some (2, l.takeWhile tailB, wrdN l) := by unfold oneS; rw [h0, if_neg (by decide), if_pos h]; rfl
theorem one_mark {c : UInt8} {r : List UInt8} (h0 : wordB ((c :: r).takeWhile tailB) = false) (h1 : numB ((c :: r).takeWhile tailB) = false) (h : markB c = true) : oneS (c :: r) = Option.some (4, [c], 1) := by
  unfold oneS; rw [h0, if_neg (by decide), h1, if_neg (by decide)]; simp [h]
theorem one_str {c : UInt8} {r : List UInt8} (h0 : wordB ((c :: r).takeWhile tailB) = false) (h1 : numB ((c :: r).takeWhile tailB) = false) (h : c.toNat = 34) : oneS (c :: r) = (strS r).map fun x => (3, x.1, x.2 + 1) := by
  unfold oneS; rw [h0, if_neg (by decide), h1, if_neg (by decide)]; simp [h, markB]
theorem one_none {c : UInt8} {r : List UInt8} (h0 : wordB ((c :: r).takeWhile tailB) = false) (h1 : numB ((c :: r).takeWhile tailB) = false) (h2 : markB c = false) (h : ¬ c.toNat = 34) : oneS (c :: r) = Option.none := by
  unfold oneS; rw [h0, if_neg (by decide), h1, if_neg (by decide)]; simp [h, h2]
theorem mark_not {c : UInt8} (h : c.toNat = 34) : markB c = false := by simp [markB, h]
theorem one_byte (s : ByteArray) {c : UInt8} {r : List UInt8} (h : bys s = c :: r) : s.extract 0 1 = stg [c] := by
  apply bys_inj
  rw [bys_pre, h]; rfl
theorem one_byte_s {c : UInt8} {s : ByteArray} (h : s = stg [c]) : s.size = 1 := by rw [h]; rfl
end Lx

set_option maxHeartbeats 3200000 in
set_option maxRecDepth 100000 in
theorem first_c (s : ByteArray) (w : World) (hs : s.size ≤ 1000000) (hpos : 0 < s.size) :
    Calls Try.prog 32 #[.string s] w fun e w' => OneOut (oneS (bys s)) e ∧ Below w.heap.size w w' := by
  obtain ⟨c, hc, x1, hne⟩ := at_0 s hpos
  obtain ⟨R, hR⟩ : ∃ R, Hid (oneS (bys s) = R) := ⟨_, rfl⟩
  have HR := Lib.hid (runLength_c s w hs)
  have hk0 := wrdN_le (bys s)
  rw [bys_len] at hk0
  obtain ⟨k, hk⟩ : ∃ k, Hid (wrdN (bys s) = k) := ⟨_, rfl⟩
  obtain ⟨T, hT⟩ : ∃ T, Hid (s.extract 0 k = T) := ⟨_, rfl⟩
  have hTs : T.size = k := by rw [← hT.out, ByteArray.size_extract, ← hk.out]; omega
  have HTP : Hid (bys T = (bys s).takeWhile tailB) := by show _ = _; rw [← hT.out, ← hk.out]; exact pre_run s
  have HTS : Hid (T = stg ((bys s).takeWhile tailB)) := by show _ = _; rw [← hT.out, ← hk.out]; exact pre_run_s s
  have HW := isWord_c T w (by have := hk.out; omega)
  have HN := isNumber_c T w (by have := hk.out; omega)
  obtain ⟨wb, hwb⟩ : ∃ b, Hid (wordB ((bys s).takeWhile tailB) = b) := ⟨_, rfl⟩
  obtain ⟨nb, hnb⟩ : ∃ b, Hid (numB ((bys s).takeWhile tailB) = b) := ⟨_, rfl⟩
  rw [HTP.out, hwb.out] at HW
  rw [HTP.out, hnb.out] at HN
  have HW := Lib.hid HW
  have HN := Lib.hid HN
  rw [hk.out] at HR hk0
  have c1 : (0 : Int) ≤ (k : Int) := by omega
  have c2 : (k : Int) ≤ (s.size : Int) := by omega
  have hTe := hT.out
  have hc0 := hc.out
  rw [hR.out]
  cases wb with
  | true =>
    have hO : Hid (R = some (1, (bys s).takeWhile tailB, k)) := by show _ = _; rw [← hR.out, one_word hwb.out, hk.out]
    clear hc0
    go_enter Try.func32, Try.ntmps32
    go_wp2_with fail
    refine HR.out.mono ?_
    rintro e w' ⟨rfl, rfl⟩
    go_wp2_with fail
    refine HW.out.mono ?_
    rintro e w' ⟨rfl, rfl⟩
    go_wp2_with fail
    go_ret3
    exact ⟨OneOut.some (k := 1) (n := k) hO.out rfl (by omega) rfl HTS.out rfl, Below.refl _ _⟩
  | false =>
    cases nb with
    | true =>
      have hO : Hid (R = some (2, (bys s).takeWhile tailB, k)) := by show _ = _; rw [← hR.out, one_num hwb.out hnb.out, hk.out]
      clear hc0
      go_enter Try.func32, Try.ntmps32
      go_wp2_with fail
      refine HR.out.mono ?_
      rintro e w' ⟨rfl, rfl⟩
      go_wp2_with fail
      refine HW.out.mono ?_
      rintro e w' ⟨rfl, rfl⟩
      go_wp2_with fail
      refine HN.out.mono ?_
      rintro e w' ⟨rfl, rfl⟩
      go_wp2_with fail
      go_ret3
      exact ⟨OneOut.some (k := 2) (n := k) hO.out rfl (by omega) rfl HTS.out rfl, Below.refl _ _⟩
    | false =>
      have hwb' := hwb.out
      have hnb' := hnb.out
      have hR' := hR.out
      rw [hc.out] at hwb' hnb' hR'
      have hwb' := Lib.hid hwb'
      have hnb' := Lib.hid hnb'
      have hR' := Lib.hid hR'
      have HM := indexByte_c ⟨#[123, 125, 59, 44, 47]⟩ c w
      have hm := ix_marks c
      rw [show bys ⟨#[123, 125, 59, 44, 47]⟩ = [123, 125, 59, 44, 47] from rfl] at HM
      obtain ⟨z, hz⟩ : ∃ z, Hid (Lib.indexByte [123, 125, 59, 44, 47] c = z) := ⟨_, rfl⟩
      rw [hz.out] at hm HM
      have HM := Lib.hid HM
      obtain ⟨n, hn⟩ : ∃ n : Nat, Hid (c.toNat = n) := ⟨_, rfl⟩
      rw [hn.out] at x1 HM
      obtain ⟨mb, hmb⟩ : ∃ b, Hid (markB c = b) := ⟨_, rfl⟩
      rw [hmb.out] at hm
      have HX := Lib.hid (unquote_c s w hs hpos)
      clear hc0
      cases mb with
      | true =>
        have hm' : z ≥ 0 := of_decide_eq_true hm
        have hO : Hid (R = some (4, [c], 1)) := by show _ = _; rw [← hR'.out]; exact one_mark hwb'.out hnb'.out hmb.out
        have hB1 : Hid (s.extract 0 1 = stg [c]) := one_byte s hc.out
        have d1 : (1 : Int) ≤ (s.size : Int) := by omega
        clear hm
        go_enter Try.func32, Try.ntmps32
        go_wp2_with fail
        refine HR.out.mono ?_
        rintro e w' ⟨rfl, rfl⟩
        go_wp2_with fail
        refine HW.out.mono ?_
        rintro e w' ⟨rfl, rfl⟩
        go_wp2_with fail
        refine HN.out.mono ?_
        rintro e w' ⟨rfl, rfl⟩
        go_wp2_with fail
        refine HM.out.mono ?_
        rintro e w' ⟨rfl, rfl⟩
        go_wp2_with fail
        go_quiet (fail)
        go_wp2_with fail
        go_ret3
        exact ⟨OneOut.some (k := 4) (n := 1) hO.out rfl rfl rfl hB1.out rfl, below_drewN (Below.refl _ _) _⟩
      | false =>
        have hm' : ¬ z ≥ 0 := of_decide_eq_false hm
        clear hm
        by_cases h34 : n = 34
        · have k34 : ((n : Int) == 34) = true := by simp; omega
          have hO0 : Hid (R = (strS ((bys s).drop 1)).map fun x => (3, x.1, x.2 + 1)) := by show _ = _; rw [← hR'.out]; exact one_str hwb'.out hnb'.out (by rw [hn.out]; exact h34)
          obtain ⟨S, hS⟩ : ∃ S, Hid (strS ((bys s).drop 1) = S) := ⟨_, rfl⟩
          have hO : Hid (R = S.map fun x => (3, x.1, x.2 + 1)) := by show _ = _; rw [hO0.out, hS.out]
          rw [hS.out] at HX
          clear h34 hO0
          cases S with
          | none =>
            have hU : unqS none = (⟨#[]⟩, 0) := rfl
            rw [hU] at HX
            go_enter Try.func32, Try.ntmps32
            go_wp2_with fail
            refine HR.out.mono ?_
            rintro e w' ⟨rfl, rfl⟩
            go_wp2_with fail
            refine HW.out.mono ?_
            rintro e w' ⟨rfl, rfl⟩
            go_wp2_with fail
            refine HN.out.mono ?_
            rintro e w' ⟨rfl, rfl⟩
            go_wp2_with fail
            refine HM.out.mono ?_
            rintro e w' ⟨rfl, rfl⟩
            go_wp2_with fail
            refine HX.out.mono ?_
            rintro e w' ⟨rfl, B⟩
            go_wp2_with fail
            go_ret3
            exact ⟨OneOut.none (k := 3) hO.out rfl, B⟩
          | some x =>
            obtain ⟨u, m⟩ := x
            have hU : unqS (some (u, m)) = (stg u, m + 1) := rfl
            rw [hU] at HX
            go_enter Try.func32, Try.ntmps32
            go_wp2_with fail
            refine HR.out.mono ?_
            rintro e w' ⟨rfl, rfl⟩
            go_wp2_with fail
            refine HW.out.mono ?_
            rintro e w' ⟨rfl, rfl⟩
            go_wp2_with fail
            refine HN.out.mono ?_
            rintro e w' ⟨rfl, rfl⟩
            go_wp2_with fail
            refine HM.out.mono ?_
            rintro e w' ⟨rfl, rfl⟩
            go_wp2_with fail
            refine HX.out.mono ?_
            rintro e w' ⟨rfl, B⟩
            go_wp2_with fail
            go_ret3
            exact ⟨OneOut.some (k := 3) (n := m + 1) hO.out rfl rfl rfl rfl rfl, B⟩
        · have k34 : ((n : Int) == 34) = false := by rw [beq_eq_false_iff_ne]; omega
          have hO : Hid (R = none) := by show _ = _; rw [← hR'.out]; exact one_none hwb'.out hnb'.out hmb.out (by rw [hn.out]; exact h34)
          clear h34
          go_enter Try.func32, Try.ntmps32
          go_wp2_with fail
          refine HR.out.mono ?_
          rintro e w' ⟨rfl, rfl⟩
          go_wp2_with fail
          refine HW.out.mono ?_
          rintro e w' ⟨rfl, rfl⟩
          go_wp2_with fail
          refine HN.out.mono ?_
          rintro e w' ⟨rfl, rfl⟩
          go_wp2_with fail
          refine HM.out.mono ?_
          rintro e w' ⟨rfl, rfl⟩
          go_wp2_with fail
          go_ret3
          exact ⟨OneOut.none (k := 0) hO.out rfl, Below.refl _ _⟩

set_option maxHeartbeats 3200000 in
set_option maxRecDepth 100000 in
theorem one_c (s : ByteArray) (w : World) (hs : s.size ≤ 1000000) (hpos : 0 < s.size) :
    Calls Try.prog 29 #[.string s] w fun e w' => OneOut (oneS (bys s)) e ∧ Below w.heap.size w w' := by
  obtain ⟨c, hc, x1, hne⟩ := at_0 s hpos
  obtain ⟨R, hR⟩ : ∃ R, Hid (oneS (bys s) = R) := ⟨_, rfl⟩
  have HR := Lib.hid (refrun_c s w hs)
  have hk0 := wrdN_le (bys s)
  rw [bys_len] at hk0
  obtain ⟨k, hk⟩ : ∃ k, Hid (wrdN (bys s) = k) := ⟨_, rfl⟩
  obtain ⟨T, hT⟩ : ∃ T, Hid (s.extract 0 k = T) := ⟨_, rfl⟩
  have hTs : T.size = k := by rw [← hT.out, ByteArray.size_extract, ← hk.out]; omega
  have HTP : Hid (bys T = (bys s).takeWhile tailB) := by show _ = _; rw [← hT.out, ← hk.out]; exact pre_run s
  have HTS : Hid (T = stg ((bys s).takeWhile tailB)) := by show _ = _; rw [← hT.out, ← hk.out]; exact pre_run_s s
  have HW := refWord_c T w (by have := hk.out; omega)
  have HN := refNumber_c T w (by have := hk.out; omega)
  obtain ⟨wb, hwb⟩ : ∃ b, Hid (wordB ((bys s).takeWhile tailB) = b) := ⟨_, rfl⟩
  obtain ⟨nb, hnb⟩ : ∃ b, Hid (numB ((bys s).takeWhile tailB) = b) := ⟨_, rfl⟩
  rw [HTP.out, hwb.out] at HW
  rw [HTP.out, hnb.out] at HN
  have HW := Lib.hid HW
  have HN := Lib.hid HN
  rw [hk.out] at HR hk0
  have c1 : (0 : Int) ≤ (k : Int) := by omega
  have c2 : (k : Int) ≤ (s.size : Int) := by omega
  have hTe := hT.out
  have hc0 := hc.out
  rw [hR.out]
  cases wb with
  | true =>
    have hO : Hid (R = some (1, (bys s).takeWhile tailB, k)) := by show _ = _; rw [← hR.out, one_word hwb.out, hk.out]
    clear hc0
    go_enter Try.func29, Try.ntmps29
    go_wp2_with fail
    refine HR.out.mono ?_
    rintro e w' ⟨rfl, rfl⟩
    go_wp2_with fail
    refine HW.out.mono ?_
    rintro e w' ⟨rfl, rfl⟩
    go_wp2_with fail
    go_quiet (fail)
    go_wp2_with fail
    go_ret3
    exact ⟨OneOut.some (k := 1) (n := k) hO.out rfl (by omega) rfl HTS.out rfl, below_drewN (Below.refl _ _) _⟩
  | false =>
    cases nb with
    | true =>
      have hO : Hid (R = some (2, (bys s).takeWhile tailB, k)) := by show _ = _; rw [← hR.out, one_num hwb.out hnb.out, hk.out]
      clear hc0
      go_enter Try.func29, Try.ntmps29
      go_wp2_with fail
      refine HR.out.mono ?_
      rintro e w' ⟨rfl, rfl⟩
      go_wp2_with fail
      refine HW.out.mono ?_
      rintro e w' ⟨rfl, rfl⟩
      go_wp2_with fail
      refine HN.out.mono ?_
      rintro e w' ⟨rfl, rfl⟩
      go_wp2_with fail
      go_quiet (fail)
      go_wp2_with fail
      go_ret3
      exact ⟨OneOut.some (k := 2) (n := k) hO.out rfl (by omega) rfl HTS.out rfl, below_drewN (Below.refl _ _) _⟩
    | false =>
      have hwb' := hwb.out
      have hnb' := hnb.out
      have hR' := hR.out
      rw [hc.out] at hwb' hnb' hR'
      have hwb' := Lib.hid hwb'
      have hnb' := Lib.hid hnb'
      have hR' := Lib.hid hR'
      have HM := in_c c ⟨#[123, 125, 59, 44, 47]⟩ w (by decide)
      rw [show bys ⟨#[123, 125, 59, 44, 47]⟩ = [123, 125, 59, 44, 47] from rfl, in_marks] at HM
      obtain ⟨n, hn⟩ : ∃ n : Nat, Hid (c.toNat = n) := ⟨_, rfl⟩
      obtain ⟨mb, hmb⟩ : ∃ b, Hid (markB c = b) := ⟨_, rfl⟩
      rw [hmb.out, hn.out] at HM
      rw [hn.out] at x1
      have HM := Lib.hid HM
      have HX := refstr_c (s.extract 1 s.size) w (by rw [ByteArray.size_extract]; omega)
      rw [bys_sub] at HX
      have d1 : (1 : Int) ≤ (s.size : Int) := by omega
      clear hc0
      cases mb with
      | true =>
        have hO : Hid (R = some (4, [c], 1)) := by show _ = _; rw [← hR'.out]; exact one_mark hwb'.out hnb'.out hmb.out
        have hB1 : Hid (s.extract 0 1 = stg [c]) := one_byte s hc.out
        clear HX
        go_enter Try.func29, Try.ntmps29
        go_wp2_with fail
        refine HR.out.mono ?_
        rintro e w' ⟨rfl, rfl⟩
        go_wp2_with fail
        refine HW.out.mono ?_
        rintro e w' ⟨rfl, rfl⟩
        go_wp2_with fail
        refine HN.out.mono ?_
        rintro e w' ⟨rfl, rfl⟩
        go_wp2_with fail
        refine HM.out.mono ?_
        rintro e w' ⟨rfl, rfl⟩
        go_wp2_with fail
        go_quiet (fail)
        go_wp2_with fail
        go_ret3
        exact ⟨OneOut.some (k := 4) (n := 1) hO.out rfl rfl rfl hB1.out rfl, below_drewN (Below.refl _ _) _⟩
      | false =>
        by_cases h34 : n = 34
        · have k34 : ((n : Int) == 34) = true := by simp; omega
          have hO0 : Hid (R = (strS ((bys s).drop 1)).map fun x => (3, x.1, x.2 + 1)) := by show _ = _; rw [← hR'.out]; exact one_str hwb'.out hnb'.out (by rw [hn.out]; exact h34)
          obtain ⟨S, hS⟩ : ∃ S, Hid (strS ((bys s).drop 1) = S) := ⟨_, rfl⟩
          have hO : Hid (R = S.map fun x => (3, x.1, x.2 + 1)) := by show _ = _; rw [hO0.out, hS.out]
          have hSp := strS_pos ((bys s).drop 1)
          have hSl := strS_len ((bys s).drop 1)
          rw [List.length_drop, bys_len] at hSl
          rw [hS.out] at HX hSp hSl
          clear h34 hO0
          cases S with
          | none =>
            have hU : resS none = (⟨#[]⟩, 0) := rfl
            rw [hU] at HX
            have HX := Lib.hid HX
            clear hSp hSl
            go_enter Try.func29, Try.ntmps29
            go_wp2_with fail
            refine HR.out.mono ?_
            rintro e w' ⟨rfl, rfl⟩
            go_wp2_with fail
            refine HW.out.mono ?_
            rintro e w' ⟨rfl, rfl⟩
            go_wp2_with fail
            refine HN.out.mono ?_
            rintro e w' ⟨rfl, rfl⟩
            go_wp2_with fail
            refine HM.out.mono ?_
            rintro e w' ⟨rfl, rfl⟩
            go_wp2_with fail
            refine HX.out.mono ?_
            rintro e w' ⟨rfl, rfl⟩
            go_wp2_with fail
            go_ret3
            exact ⟨OneOut.none (k := 0) hO.out rfl, Below.refl _ _⟩
          | some x =>
            obtain ⟨u, m⟩ := x
            have hU : resS (some (u, m)) = (stg u, m) := rfl
            rw [hU] at HX
            have HX := Lib.hid HX
            have hm1 : 1 ≤ m := hSp _ rfl
            have hm2 : m ≤ s.size - 1 := hSl _ rfl
            have hm3 : (m : Int) > 0 := by omega
            have hm4 : IntKind.i64.wrap ((m : Int) + 1) = (m : Int) + 1 := IntWalk.i64_in _ (by omega)
            clear hSp hSl
            go_enter Try.func29, Try.ntmps29
            go_wp2_with fail
            refine HR.out.mono ?_
            rintro e w' ⟨rfl, rfl⟩
            go_wp2_with fail
            refine HW.out.mono ?_
            rintro e w' ⟨rfl, rfl⟩
            go_wp2_with fail
            refine HN.out.mono ?_
            rintro e w' ⟨rfl, rfl⟩
            go_wp2_with fail
            refine HM.out.mono ?_
            rintro e w' ⟨rfl, rfl⟩
            go_wp2_with fail
            refine HX.out.mono ?_
            rintro e w' ⟨rfl, rfl⟩
            go_wp2_with fail
            go_ret3
            exact ⟨OneOut.some (k := 3) (n := m + 1) hO.out rfl (by omega) rfl rfl rfl, Below.refl _ _⟩
        · have k34 : ((n : Int) == 34) = false := by rw [beq_eq_false_iff_ne]; omega
          have hO : Hid (R = none) := by show _ = _; rw [← hR'.out]; exact one_none hwb'.out hnb'.out hmb.out (by rw [hn.out]; exact h34)
          clear h34 HX
          go_enter Try.func29, Try.ntmps29
          go_wp2_with fail
          refine HR.out.mono ?_
          rintro e w' ⟨rfl, rfl⟩
          go_wp2_with fail
          refine HW.out.mono ?_
          rintro e w' ⟨rfl, rfl⟩
          go_wp2_with fail
          refine HN.out.mono ?_
          rintro e w' ⟨rfl, rfl⟩
          go_wp2_with fail
          refine HM.out.mono ?_
          rintro e w' ⟨rfl, rfl⟩
          go_wp2_with fail
          go_ret3
          exact ⟨OneOut.none (k := 0) hO.out rfl, Below.refl _ _⟩
end Go.Proofs.Ytfknckbclddnmaa
