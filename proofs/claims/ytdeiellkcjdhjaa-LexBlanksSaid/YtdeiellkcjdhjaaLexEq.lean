/-
  electionref06.Eq of lists with the same tokens; electionlaw06.short.
-/
import Derived.Test.YtdeiellkcjdhjaaLexAllR
namespace Go.Proofs.Ytdeiellkcjdhjaa
open Go.RowKit Lx

theorem run_indexT {g n c : Nat} (i : Nat) (hi : i < n) (W : World) :
    (Instr.indexAt 23 (.slice (some ⟨g, 0, none⟩) n c) (.int .i64 (i : Int))).run Try.prog W = .ok (.pointer (some ⟨g, 3 * i, none⟩)) W := by
  obtain ⟨inf, hinf, hs⟩ := Option.map_eq_some_iff.1 sizeT
  have h1 : (0 : Int) ≤ (i : Int) ∧ (i : Int) < (n : Int) := by omega
  have e : i * 3 = 3 * i := Nat.mul_comm _ _
  simp [Instr.indexAt, run_underlying Try.underlying23, asIntOf, sizeOf, typeInfo, hinf, hs, hi, Addr.add, e]
  intro h
  omega
theorem TokOwn.cases {B : Nat} {w : World} {ao : Option Addr} {n c : Nat} {ts : List Tok} (h : TokOwn B w ao n c ts) : (ao = none ∧ n = 0 ∧ c = 0 ∧ ts = []) ∨ ∃ g, ao = some ⟨g, 0, none⟩ ∧ B ≤ g ∧ g < w.heap.size ∧ n ≤ c ∧ c ≤ maxLen := by
  have hl := h.len
  rcases h.2 with ⟨hv, hn⟩ | ⟨g, cap, cur, hv, hg, hh, hn, hc, _⟩
  · injection hv with h1 h2 h3
    exact Or.inl ⟨h1, hn, h3, List.eq_nil_of_length_eq_zero (by omega)⟩
  · injection hv with h1 h2 h3
    subst h3
    exact Or.inr ⟨g, h1, hg, (Array.getElem?_eq_some_iff.1 hh).1, hn, hc⟩
/-- Token i of a list, as the walk asks for it. -/
theorem TokOwn.at {B : Nat} {w : World} {ao : Option Addr} {n c : Nat} {ts : List Tok} (h : TokOwn B w ao n c ts) (i : Nat) (hi : i < n) (t : Tok) (ht : ts[i]? = some t) :
    ∃ g q, ao = some ⟨g, 0, none⟩ ∧ (∀ W, (Instr.indexAt 23 (.slice ao n c) (.int .i64 (i : Int))).run Try.prog W = .ok (.pointer (some ⟨g, q, none⟩)) W) ∧ w.cell? ⟨g, q, none⟩ = some (.int .i64 (t.kind : Int)) ∧ w.cell? ⟨g, q + 1, none⟩ = some (.string (stg t.text)) ∧ w.cell? ⟨g, q + 2, none⟩ = some (.int .i64 (t.line : Int)) := by
  rcases h.cases with ⟨_, h0, _⟩ | ⟨g, rfl, _⟩
  · omega
  · have hc := cellsT_at ts i t ht
    refine ⟨g, 3 * i, rfl, fun W => run_indexT i hi W, ?_, ?_, ?_⟩
    · rw [World.ownsRow.cellAt h (3 * i) (by omega)]; exact hc.1
    · rw [World.ownsRow.cellAt h (3 * i + 1) (by omega)]; exact hc.2.1
    · rw [World.ownsRow.cellAt h (3 * i + 2) (by omega)]; exact hc.2.2
/-- The same, the place as a number of cells. -/
theorem TokOwn.at3 {B : Nat} {w : World} {ao : Option Addr} {n c : Nat} {ts : List Tok} (h : TokOwn B w ao n c ts) (i : Nat) (hi : i < n) (t : Tok) (ht : ts[i]? = some t) (k0 k1 k2 : Nat) (h0 : k0 = 3 * i) (h1 : k1 = 3 * i + 1) (h2 : k2 = 3 * i + 2) :
    ∃ g, ao = some ⟨g, 0, none⟩ ∧ B ≤ g ∧ w.cell? ⟨g, k0, none⟩ = some (.int .i64 (t.kind : Int)) ∧ w.cell? ⟨g, k1, none⟩ = some (.string (stg t.text)) ∧ w.cell? ⟨g, k2, none⟩ = some (.int .i64 (t.line : Int)) := by
  subst h0 h1 h2
  rcases h.cases with ⟨_, h0, _⟩ | ⟨g, rfl, hg, _⟩
  · omega
  · have hc := cellsT_at ts i t ht
    refine ⟨g, rfl, hg, ?_, ?_, ?_⟩
    · rw [World.ownsRow.cellAt h (3 * i) (by omega)]; exact hc.1
    · rw [World.ownsRow.cellAt h (3 * i + 1) (by omega)]; exact hc.2.1
    · rw [World.ownsRow.cellAt h (3 * i + 2) (by omega)]; exact hc.2.2
/-- The same tokens, their lines aside where they are not looked at. -/
def SameT (lines : Bool) (ts us : List Tok) : Prop := ts.length = us.length ∧ ∀ (i : Nat) (t u : Tok), ts[i]? = some t → us[i]? = some u → t.kind = u.kind ∧ t.text = u.text ∧ (lines = true → t.line = u.line)
theorem SameT.refl (ts : List Tok) : SameT true ts ts := ⟨rfl, fun i t u h1 h2 => by rw [h1] at h2; injection h2 with h2; subst h2; exact ⟨rfl, rfl, fun _ => rfl⟩⟩

set_option maxHeartbeats 3200000 in
set_option maxRecDepth 100000 in
theorem eq_c (lines : Bool) (B1 B2 : Nat) (ao bo : Option Addr) (n m c d : Nat) (ts us : List Tok) (w : World) (h1 : TokOwn B1 w ao n c ts) (h2 : TokOwn B2 w bo m d us) (hS : SameT lines ts us) :
    Calls Try.prog 13 #[.slice ao n c, .slice bo m d, .bool lines] w fun e w' => e = .returned (.bool true) ∧ Below w.heap.size w w' := by
  obtain rfl : n = m := by rw [← h1.len, ← h2.len]; exact hS.1
  have hn : n ≤ 9223372036854775807 := by
    rcases h1.cases with ⟨_, h0, _⟩ | ⟨_, _, _, _, h3, h4⟩
    · omega
    · unfold maxLen at h4; omega
  have HH := Lib.hid h1
  have HH2 := Lib.hid h2
  have HS := Lib.hid hS
  have hl1 := Lib.hid h1.len
  have hl2 := Lib.hid h2.len
  have hnn : ((n : Int) != (n : Int)) = false := by simp
  clear h1 h2 hS
  go_enter Try.func13, Try.ntmps13
  go_wp2_with fail
  go_loopw [7] (fun i wr => ∃ j : Nat, j ≤ n ∧ i = .int .i64 j ∧ Below w.heap.size w wr) (fun i _ => n - (intOf i).toNat)
  case atStart => exact ⟨0, by omega, rfl, Below.refl _ _⟩
  case round =>
    obtain ⟨j, hj, rfl, B⟩ := hrel
    by_cases hlt : j < n
    · have hlt' : (j : Int) < (n : Int) := by omega
      obtain ⟨t, ht⟩ : ∃ t, ts[j]? = some t := ⟨_, List.getElem?_eq_getElem (by rw [hl1.out]; exact hlt)⟩
      obtain ⟨u, hu⟩ : ∃ u, us[j]? = some u := ⟨_, List.getElem?_eq_getElem (by rw [hl2.out]; exact hlt)⟩
      obtain ⟨g1, q1, e1, x1, a1, a2, a3⟩ := (HH.out.keep B).at j hlt t ht
      obtain ⟨g2, q2, e2, x2, b1, b2, b3⟩ := (HH2.out.keep B).at j hlt u hu
      obtain ⟨s1, s2, s3⟩ := HS.out.2 j t u ht hu
      rw [← s1] at b1
      rw [← s2] at b2
      obtain ⟨k, hk⟩ : ∃ k, Hid (t.kind = k) := ⟨_, rfl⟩
      obtain ⟨T, hT⟩ : ∃ T, Hid (stg t.text = T) := ⟨_, rfl⟩
      obtain ⟨l1, hl1'⟩ : ∃ l, Hid (t.line = l) := ⟨_, rfl⟩
      obtain ⟨l2, hl2'⟩ : ∃ l, Hid (u.line = l) := ⟨_, rfl⟩
      rw [hk.out] at a1 b1
      rw [hT.out] at a2 b2
      rw [hl1'.out] at a3 s3
      rw [hl2'.out] at b3 s3
      have f1 : ((k : Int) != (k : Int)) = false := by simp
      have f2 : (T.toList != T.toList) = false := by simp
      have HB := Lib.hid B
      clear s1 s2 ht hu e1 e2 B
      cases lines with
      | true =>
        have s3' := s3 rfl
        rw [← s3'] at b3
        have f3 : ((l1 : Int) != (l1 : Int)) = false := by simp
        clear s3 s3'
        go_wp2_with fail
        go_quiet (fail)
        go_wp2_with fail
        go_roundw
        case rel => exact ⟨j + 1, by omega, by go_num, below_drewN HB.out _⟩
        case measure => simp [intOf]; omega
      | false =>
        clear s3
        go_wp2_with fail
        go_quiet (fail)
        go_wp2_with fail
        go_roundw
        case rel => exact ⟨j + 1, by omega, by go_num, below_drewN HB.out _⟩
        case measure => simp [intOf]; omega
    · obtain rfl : j = n := by omega
      go_wp2_with fail
      go_ret
      exact ⟨rfl, B⟩

set_option maxHeartbeats 1600000 in
set_option maxRecDepth 100000 in
/-- What short leaves of a text. -/
theorem short_c (S : ByteArray) (k : Nat) (w : World) :
    Calls Try.prog 9 #[.string S, .int .i64 (k : Int)] w fun e w' => ∃ T : ByteArray, e = .returned (.string T) ∧ T.size ≤ k ∧ w = w' := by
  by_cases h : S.size ≤ k
  · have hmn : min (S.size : Int) (k : Int) = (S.size : Int) := by omega
    go_enter Try.func9, Try.ntmps9
    go_wp2_with fail
    go_ret
    first | exact ⟨S, rfl, h, rfl⟩ | exact ⟨_, rfl, by rw [ByteArray.size_extract]; omega, rfl⟩
  · have hmn : min (S.size : Int) (k : Int) = (k : Int) := by omega
    have hz : (S.extract 0 k).size ≤ k := by rw [ByteArray.size_extract]; omega
    have c1 : (0 : Int) ≤ (k : Int) := by omega
    have c2 : (k : Int) ≤ (S.size : Int) := by omega
    go_enter Try.func9, Try.ntmps9
    go_wp2_with fail
    all_goals
      go_ret
      first | exact ⟨S.extract 0 k, rfl, hz, rfl⟩ | exact ⟨_, rfl, hz, rfl⟩
end Go.Proofs.Ytdeiellkcjdhjaa
