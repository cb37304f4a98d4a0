/-
  The walk of LexBlanks.
-/
import Derived.Test.YtdeiellkcjdhjaaLexAwake
import Derived.Deep.RegionHeld3
namespace Go.Proofs.Ytdeiellkcjdhjaa
open Go.RowKit Lx

namespace Lx
/-- What short leaves of a text. -/
def cutT (S : ByteArray) (k : Nat) : ByteArray := if S.size ≤ k then S else S.extract 0 k
theorem cutT_size (S : ByteArray) (k : Nat) : (cutT S k).size ≤ k := by
  unfold cutT
  split
  · assumption
  · rw [ByteArray.size_extract]; omega
theorem lexS_count : ∀ (l : List UInt8) (ln : Nat) (ts : List Tok) (m : Nat), lexS l ln = .ok ts m → ts.length ≤ l.length := by
  intro l
  induction hk : l.length using Nat.strongRecOn generalizing l with
  | _ k ih =>
    intro ln ts m h
    cases l with
    | nil => rw [lexS_nil] at h; injection h with h _; rw [← h]; exact Nat.zero_le _
    | cons c r =>
      have hr : r.length < k := by rw [← hk]; simp
      rw [lexS_cons] at h
      split at h
      · have hd := drop_while_len notNl r
        have := ih _ (Nat.lt_of_le_of_lt hd hr) _ rfl _ _ _ h
        omega
      · split at h
        · have := ih _ hr _ rfl _ _ _ h
          omega
        · cases hx : oneS (c :: r) with
          | none => rw [hx] at h; cases h
          | some x =>
            rw [hx] at h
            simp only at h
            have hd : (r.drop (x.2.2 - 1)).length ≤ r.length := by rw [List.length_drop]; omega
            cases hy : lexS (r.drop (x.2.2 - 1)) ln with
            | err e => rw [hy] at h; cases h
            | ok us e =>
              rw [hy] at h
              injection h with h _
              have := ih _ (Nat.lt_of_le_of_lt hd hr) _ rfl _ _ _ hy
              rw [← h, List.length_cons]
              omega
/-- What LexBlanks reads. -/
def gapT (TA G TN TB : ByteArray) : ByteArray := TA ++ (⟨#[10]⟩ : ByteArray) ++ G ++ (⟨#[35]⟩ : ByteArray) ++ TN ++ (⟨#[10]⟩ : ByteArray) ++ G ++ TB
theorem gap_text {TA TB TN G : ByteArray} : bys (gapT TA G TN TB) = bys TA ++ 10 :: (bys G ++ 35 :: (bys TN ++ 10 :: (bys G ++ bys TB))) := by
  unfold gapT
  rw [bys_append, bys_append, bys_append, bys_append, bys_append, bys_append, bys_append]
  show bys TA ++ [10] ++ bys G ++ [35] ++ bys TN ++ [10] ++ bys G ++ bys TB = _
  simp
theorem gapT_size (TA G TN TB : ByteArray) : (gapT TA G TN TB).size = TA.size + 1 + G.size + 1 + TN.size + 1 + G.size + TB.size := by
  unfold gapT
  simp only [ByteArray.size_append]
  rfl
theorem nl_text (TA : ByteArray) : bys (TA ++ ⟨#[10]⟩) = bys TA ++ [10] := by rw [bys_append]; rfl
theorem same_up (x y : List Tok) (k e2 : Nat) : ∀ (i : Nat) (t u : Tok), (x ++ y.map (Tok.up k) ++ [(⟨5, [], e2 + k⟩ : Tok)])[i]? = some t → (x ++ (y ++ [(⟨5, [], e2⟩ : Tok)]))[i]? = some u → t.kind = u.kind ∧ t.text = u.text := by
  intro i t u ht hu
  rw [List.append_assoc] at ht
  rcases Nat.lt_or_ge i x.length with h | h
  · rw [List.getElem?_append_left h] at ht hu
    rw [ht] at hu
    injection hu with hu
    subst hu
    exact ⟨rfl, rfl⟩
  · rw [List.getElem?_append_right h] at ht hu
    have e : y.map (Tok.up k) ++ [(⟨5, [], e2 + k⟩ : Tok)] = (y ++ [(⟨5, [], e2⟩ : Tok)]).map (Tok.up k) := by rw [List.map_append]; rfl
    rw [e, List.getElem?_map, hu] at ht
    injection ht with ht
    subst ht
    exact ⟨rfl, rfl⟩
theorem and3 (x : Nat) (h : x ≤ 255) : ∃ K : Nat, K < 4 ∧ bits .and .u8 (x : Int) 3 = (K : Int) := by
  refine ⟨x % 4, by omega, ?_⟩
  rw [show (3 : Int) = ((3 : Nat) : Int) from rfl, u8_and_nat x 3 (by omega) (by omega), show (3 : Nat) = 2 ^ 2 - 1 from rfl, Nat.and_two_pow_sub_one_eq_mod]
end Lx

/-- The cells of tokens at the head of block g. -/
def TokAt (w : World) (g : Nat) (us : List Tok) : Prop := ∀ j u, (cellsT us)[j]? = some u → w.cell? ⟨g, j, none⟩ = some u
theorem TokOwn.tokAt {B : Nat} {w : World} {g n c : Nat} {ts : List Tok} (h : TokOwn B w (some ⟨g, 0, none⟩) n c ts) : TokAt w g ts := by
  intro j u hu
  have hl := h.len
  have hj : j < n * 3 := by
    have := (List.getElem?_eq_some_iff.1 hu).1
    rw [cellsT_len] at this
    omega
  rw [World.ownsRow.cellAt h j hj]
  exact hu
theorem TokAt.head {w : World} {g : Nat} {ts us : List Tok} (h : TokAt w g (ts ++ us)) : TokAt w g ts := by
  intro j u hu
  refine h j u ?_
  rw [cellsT_append, List.getElem?_append_left (List.getElem?_eq_some_iff.1 hu).1]
  exact hu
section
variable {w : World} {ops : Array Oper} {rest : List Oper} {a : Act} {Q : Exit → Act → World → Prop} {d : Option Tmp} {p q : Operand} {ty : TypeId} {pos : String} {after : Array Edge}
/-- A list of tokens is appended. -/
theorem wp_appTs {K : Act → World → Prop} {gd : Option (Nat × Bool)} {B : Nat} {ao : Option Addr} {n c g m e : Nat} {ts us : List Tok} (hO : TokOwn B w ao n c ts) (hR : TokAt w g us) (hl : us.length = m) (hB : B ≤ w.heap.size) (hn : n ≤ 1048576) (hm : m ≤ 1048576)
    (hp : a.eval p = .slice ao n c) (hq : a.eval q = .slice (some ⟨g, 0, none⟩) m e)
    (h : ∀ ao' c' w', TokOwn B w' ao' (n + m) c' (ts ++ us) → Below B w w' → K (a.put d (.slice ao' (n + m) c')) w') :
    Oper.wp Try.prog ⟨d, .call { callee := .builtin .append, args := #[p, q], argTypes := #[23, 23] }, ty, pos, after, gd⟩ a w K Q := by
  obtain ⟨i0, hi, hz0, hz1, hz2⟩ := info_parts infoT
  refine wp_append_own w p q 23 rfl B 35 i0 _ 3 32 Try.underlying23 hi hz0 hz1 hz2 rfl (by decide) _ n _ hp hO ⟨g, 0, none⟩ m e (cellsT us) hq (by rw [cellsT_len, hl]) ?_ (cellsT_one us) (by unfold maxLen; omega) (by omega) hB ?_
  · intro j u hj
    have e := pt_own g j
    simp only [pt, Option.getD_some] at e
    rw [e]
    exact hR j u hj
  · intro v' w' ho' hg _
    obtain ⟨av, cv, hv⟩ : ∃ ao c, v' = .slice ao (n + m) c := by
      rcases ho'.2 with ⟨hv, h0⟩ | ⟨g, cap, _, hv, _⟩
      · exact ⟨none, 0, by rw [hv, h0]⟩
      · exact ⟨_, cap, hv⟩
    subst hv
    exact h av cv w' (by unfold TokOwn; rw [cellsT_append]; exact ho') ((Below.refl _ _).grown hg hB (fun k hk => (World.ownsRow.lt hO k hk).1))
theorem wpList_appTs {gd : Option (Nat × Bool)} {B : Nat} {ao : Option Addr} {n c g m e : Nat} {ts us : List Tok} (hO : TokOwn B w ao n c ts) (hR : TokAt w g us) (hl : us.length = m) (hB : B ≤ w.heap.size) (hn : n ≤ 1048576) (hm : m ≤ 1048576)
    (hw : Region.wanted ⟨d, .call { callee := .builtin .append, args := #[p, q], argTypes := #[23, 23] }, ty, pos, after, gd⟩ (yielded ops a.tmps) = true)
    (hp : a.eval p = .slice ao n c) (hq : a.eval q = .slice (some ⟨g, 0, none⟩) m e)
    (h : ∀ ao' c' w', TokOwn B w' ao' (n + m) c' (ts ++ us) → Below B w w' → wpList Try.prog ops Q rest (a.put d (.slice ao' (n + m) c')) w') :
    wpList Try.prog ops Q (⟨d, .call { callee := .builtin .append, args := #[p, q], argTypes := #[23, 23] }, ty, pos, after, gd⟩ :: rest) a w := by
  rw [wpList, if_pos hw]
  exact Or.inl (wp_appTs hO hR hl hB hn hm hp hq h)
theorem TokAt.keep {w' : World} {g : Nat} {us : List Tok} (h : TokAt w g us) (hb : Below w.heap.size w w') : TokAt w' g us := by
  intro j u hu
  have hc := h j u hu
  exact (hb.cell (World.block_lt_of_cell? w _ hc)).trans hc
end

set_option maxHeartbeats 1600000 in
set_option maxRecDepth 100000 in
theorem shortv_c (S : ByteArray) (k : Nat) (w : World) :
    Calls Try.prog 9 #[.string S, .int .i64 (k : Int)] w fun e w' => e = .returned (.string (cutT S k)) ∧ w = w' := by
  obtain ⟨T, hT⟩ : ∃ T, Hid (cutT S k = T) := ⟨_, rfl⟩
  rw [hT.out]
  by_cases h : S.size ≤ k
  · have hmn : min (S.size : Int) (k : Int) = (S.size : Int) := by omega
    have hTe : Hid (S = T) := by show _ = _; rw [← hT.out]; exact (if_pos h).symm
    have hTe2 : Hid (S.extract 0 S.size = T) := by show _ = _; rw [← hTe.out]; simp
    go_enter Try.func9, Try.ntmps9
    go_wp2_with fail
    go_ret
    first | exact ⟨by rw [hTe.out]; rfl, rfl⟩ | exact ⟨by rw [hTe2.out]; rfl, rfl⟩
  · have hmn : min (S.size : Int) (k : Int) = (k : Int) := by omega
    have hTe : Hid (S.extract 0 k = T) := by show _ = _; rw [← hT.out]; exact (if_neg h).symm
    have c1 : (0 : Int) ≤ (k : Int) := by omega
    have c2 : (k : Int) ≤ (S.size : Int) := by omega
    go_enter Try.func9, Try.ntmps9
    go_wp2_with fail
    all_goals
      go_ret
      exact ⟨by rw [hTe.out]; rfl, rfl⟩

set_option maxHeartbeats 6400000 in
set_option maxRecDepth 100000 in
theorem blanksLaw_c (A B N : ByteArray) (ba : Option Addr) (bn bc : Nat) (xs : List Int) (w : World) (L : Lst .u8 w ba bn bc xs) :
    Calls Try.prog 6 #[.agg #[.string A, .string B, .string N, .slice ba bn bc]] w fun e w' => e = .returned (.bool true) ∧ Below w.heap.size w w' := by
  obtain ⟨W0, hW0⟩ : ∃ W, Hid (W = w.alloc (.cells #[.string A, .string B, .string N, .slice ba bn bc] 38)) := ⟨_, rfl⟩
  have A0 : Arr W0 w.heap.size 38 [.string A, .string B, .string N, .slice ba bn bc] := by rw [hW0.out]; exact Arr.new w _ _
  have b0 : Below w.heap.size w W0 := by rw [hW0.out]; exact (Below.refl _ _).alloc (Nat.le_refl _) _
  have hcap := L.cap
  have hroom := L.room
  have HL := Lib.hid L
  have HA1 : Hid (∀ q, Calls Try.prog 9 #[.string A, .int .i64 100] (W0.drewN q) fun e w' => e = .returned (.string (cutT A 100)) ∧ W0.drewN q = w') := fun q => shortv_c A 100 _
  have HA2 : Hid (∀ q, Calls Try.prog 9 #[.string B, .int .i64 100] (W0.drewN q) fun e w' => e = .returned (.string (cutT B 100)) ∧ W0.drewN q = w') := fun q => shortv_c B 100 _
  have HA3 : Hid (∀ q, Calls Try.prog 9 #[.string N, .int .i64 20] (W0.drewN q) fun e w' => e = .returned (.string (cutT N 20)) ∧ W0.drewN q = w') := fun q => shortv_c N 20 _
  have hTA := cutT_size A 100
  have hTB := cutT_size B 100
  have hTN := cutT_size N 20
  obtain ⟨TA, hA⟩ : ∃ T, Hid (cutT A 100 = T) := ⟨_, rfl⟩
  obtain ⟨TB, hB⟩ : ∃ T, Hid (cutT B 100 = T) := ⟨_, rfl⟩
  obtain ⟨TN, hN⟩ : ∃ T, Hid (cutT N 20 = T) := ⟨_, rfl⟩
  rw [hA.out] at HA1 hTA
  rw [hB.out] at HA2 hTB
  rw [hN.out] at HA3 hTN
  have y0 : W0.cell? ⟨w.heap.size, 0, none⟩ = some (.string A) := A0.cell 0
  have y1 : W0.cell? ⟨w.heap.size, 1, none⟩ = some (.string B) := A0.cell 1
  have y2 : W0.cell? ⟨w.heap.size, 2, none⟩ = some (.string N) := A0.cell 2
  have y3 : W0.cell? ⟨w.heap.size, 3, none⟩ = some (.slice ba bn bc) := A0.cell 3
  have B0 := Lib.hid b0
  clear L A0 b0
  go_enter Try.func6, Try.ntmps6
  go_wp2_with fail
  rw [← hW0.out]
  go_quiet ((first
    | (go_at_call_of 9 (Value.string A); exact quiet_same (HA1.out _))
    | (go_at_call_of 9 (Value.string B); exact quiet_same (HA2.out _))
    | (go_at_call_of 9 (Value.string N); exact quiet_same (HA3.out _))))
  have BV0 := below_drewN B0.out nq
  obtain ⟨V, hV⟩ : ∃ W, Hid (W = W0.drewN nq) := ⟨_, rfl⟩
  rw [← hV.out] at BV0 ⊢
  have BV := Lib.hid BV0
  clear BV0 HA1 HA2 HA3 y0 y1 y2 y3 B0
  go_wp2_with fail
  go_loopw [7, 8] (fun gv iv wr => ∃ (i : Nat) (G : ByteArray), i ≤ bn ∧ i ≤ 10 ∧ iv = .int .i64 i ∧ gv = .string G ∧ G.size ≤ i + 1 ∧ Hid ((bys G).all blankB = true) ∧ Below w.heap.size w wr) (fun _ iv _ => bn - (intOf iv).toNat)
  case atStart => exact ⟨0, ⟨#[32]⟩, Nat.zero_le _, Nat.zero_le _, rfl, rfl, Nat.le_refl _, rfl, BV.out⟩
  case round =>
    clear BV
    obtain ⟨i, G, hi, hi10, rfl, rfl, hGs, hG, Bd⟩ := hrel
    have Bd := Lib.hid Bd
    by_cases hgo : i < bn ∧ i < 10
    · have k1 : (i : Int) < (bn : Int) := by omega
      have k2 : (i : Int) < 10 := by omega
      have hib := hgo.1
      clear hgo
      obtain ⟨W1, hW1⟩ : ∃ W, Hid (W = wr.alloc (.cells #[.string ⟨#[32]⟩, .string ⟨#[9]⟩, .string ⟨#[10]⟩, .string ⟨#[13]⟩] 9)) := ⟨_, rfl⟩
      have b1 : Below wr.heap.size wr W1 := by rw [hW1.out]; exact (Below.refl _ _).alloc (Nat.le_refl _) _
      have A1 : Arr W1 wr.heap.size 9 [.string ⟨#[32]⟩, .string ⟨#[9]⟩, .string ⟨#[10]⟩, .string ⟨#[13]⟩] := by rw [hW1.out]; exact Arr.new wr _ _
      have BB1 := Bd.out.trans (b1.mono Bd.out.size)
      have L1 := HL.out.below BB1
      have hix := ix8 L1 i i rfl hib
      obtain ⟨x, hx, hx1, hc⟩ := L1.at8 i hib
      obtain ⟨K, hK, hand⟩ := and3 x hx1
      have z0 : W1.cell? ⟨wr.heap.size, 0, none⟩ = some (.string ⟨#[32]⟩) := A1.cell 0
      have z1 : W1.cell? ⟨wr.heap.size, 1, none⟩ = some (.string ⟨#[9]⟩) := A1.cell 1
      have z2 : W1.cell? ⟨wr.heap.size, 2, none⟩ = some (.string ⟨#[10]⟩) := A1.cell 2
      have z3 : W1.cell? ⟨wr.heap.size, 3, none⟩ = some (.string ⟨#[13]⟩) := A1.cell 3
      have BB1 := Lib.hid BB1
      obtain ⟨g1, hg1⟩ : ∃ g, Hid (wr.heap.size = g) := ⟨_, rfl⟩
      clear L1 b1 A1 hx
      rw [hW1.out] at hc z0 z1 z2 z3
      rcases (show K = 0 ∨ K = 1 ∨ K = 2 ∨ K = 3 by omega) with rfl | rfl | rfl | rfl
      · have hGn : Hid ((bys (G ++ ⟨#[32]⟩)).all blankB = true) := by show _ = _; rw [bys_append, List.all_append, hG.out]; rfl
        have m1 : (⟨#[32]⟩ : ByteArray).size = 1 := rfl
        have hGl : Hid ((G ++ ⟨#[32]⟩).size ≤ i + 1 + 1) := by show _ ≤ _; rw [ByteArray.size_append, m1]; omega
        clear hG
        go_wp2_with fail
        go_roundw
        case rel => exact ⟨i + 1, _, by omega, by omega, by go_num, rfl, hGl.out, hGn, by rw [← hW1.out]; exact BB1.out⟩
        case measure => simp [intOf]; omega
      · have hGn : Hid ((bys (G ++ ⟨#[9]⟩)).all blankB = true) := by show _ = _; rw [bys_append, List.all_append, hG.out]; rfl
        have m1 : (⟨#[9]⟩ : ByteArray).size = 1 := rfl
        have hGl : Hid ((G ++ ⟨#[9]⟩).size ≤ i + 1 + 1) := by show _ ≤ _; rw [ByteArray.size_append, m1]; omega
        clear hG
        go_wp2_with fail
        go_roundw
        case rel => exact ⟨i + 1, _, by omega, by omega, by go_num, rfl, hGl.out, hGn, by rw [← hW1.out]; exact BB1.out⟩
        case measure => simp [intOf]; omega
      · have hGn : Hid ((bys (G ++ ⟨#[10]⟩)).all blankB = true) := by show _ = _; rw [bys_append, List.all_append, hG.out]; rfl
        have m1 : (⟨#[10]⟩ : ByteArray).size = 1 := rfl
        have hGl : Hid ((G ++ ⟨#[10]⟩).size ≤ i + 1 + 1) := by show _ ≤ _; rw [ByteArray.size_append, m1]; omega
        clear hG
        go_wp2_with fail
        go_roundw
        case rel => exact ⟨i + 1, _, by omega, by omega, by go_num, rfl, hGl.out, hGn, by rw [← hW1.out]; exact BB1.out⟩
        case measure => simp [intOf]; omega
      · have hGn : Hid ((bys (G ++ ⟨#[13]⟩)).all blankB = true) := by show _ = _; rw [bys_append, List.all_append, hG.out]; rfl
        have m1 : (⟨#[13]⟩ : ByteArray).size = 1 := rfl
        have hGl : Hid ((G ++ ⟨#[13]⟩).size ≤ i + 1 + 1) := by show _ ≤ _; rw [ByteArray.size_append, m1]; omega
        clear hG
        go_wp2_with fail
        go_roundw
        case rel => exact ⟨i + 1, _, by omega, by omega, by go_num, rfl, hGl.out, hGn, by rw [← hW1.out]; exact BB1.out⟩
        case measure => simp [intOf]; omega
    · by_cases hib : i < bn
      · have k1 : (i : Int) < (bn : Int) := by omega
        have k2 : ¬ (i : Int) < 10 := by omega
        clear hgo
        have hGb := hG.out
        go_wp2_with fail
        go_loop [9] (fun jv => ∃ j : Nat, j ≤ TN.size ∧ jv = .int .i64 j ∧ Hid (∀ x ∈ (bys TN).take j, x.toNat ≠ 10)) (fun jv => TN.size - (intOf jv).toNat)
        case atStart => exact ⟨0, Nat.zero_le _, rfl, fun x hx => by cases hx⟩
        case round =>
          obtain ⟨j, hj, rfl, hI⟩ := hrel
          by_cases hlt : j < TN.size
          · have hlt' : (j : Int) < (TN.size : Int) := by omega
            obtain ⟨d, hd, x1⟩ := at_s TN j hlt
            obtain ⟨m, hm⟩ : ∃ n : Nat, Hid (d.toNat = n) := ⟨_, rfl⟩
            rw [hm.out] at x1
            by_cases h10 : m = 10
            · have k10 : ((m : Int) == 10) = true := by simp; omega
              have HAw := Lib.hid (awake_c wr)
              clear h10 hI
              go_wp2_with fail
              refine HAw.out.mono ?_
              rintro e w2 ⟨rfl, b2⟩
              have B2 := Lib.hid (Bd.out.trans (b2.mono Bd.out.size))
              clear b2
              go_wp2_with fail
              go_ret
              exact ⟨rfl, B2.out⟩
            · have k10 : ((m : Int) == 10) = false := by rw [beq_eq_false_iff_ne]; omega
              have hNx : Hid (∀ x ∈ (bys TN).take (j + 1), x.toNat ≠ 10) := by
                intro x hx
                rw [List.take_add, hd.out] at hx
                rcases List.mem_append.1 hx with hx | hx
                · exact hI.out x hx
                · have : x = d := by simpa using hx
                  rw [this, hm.out]
                  exact h10
              clear h10 hI
              go_wp2_with fail
              go_round
              case rel => exact ⟨j + 1, by omega, by go_num, hNx⟩
              case measure => simp [intOf]; omega
          · obtain rfl : j = TN.size := by omega
            have hNote : Hid (∀ x ∈ bys TN, x.toNat ≠ 10) := by
              intro x hx
              refine hI.out x ?_
              rw [List.take_of_length_le (by rw [bys_len]; exact Nat.le_refl _)]
              exact hx
            have m10 : (⟨#[10]⟩ : ByteArray).size = 1 := rfl
            have m35 : (⟨#[35]⟩ : ByteArray).size = 1 := rfl
            have hQ1 : (TA ++ ⟨#[10]⟩).size ≤ 101 := by rw [ByteArray.size_append, m10]; omega
            have H1 := Lib.hid (all_c (TA ++ ⟨#[10]⟩) wr (by omega))
            have hall1 : Hid (allS (TA ++ ⟨#[10]⟩) = some (lexS (bys TA ++ [10]) 1)) := by
              show (if _ then _ else _) = _
              rw [if_neg (by omega), nl_text]
            have hall2 : Hid (allS TB = some (lexS (bys TB) 1)) := if_neg (by omega)
            have HQ1 := Lib.hid hQ1
            clear hI hQ1
            go_wp2_with fail
            refine H1.out.mono ?_
            rintro e w1 ⟨hO1, b1⟩
            rw [hall1.out] at hO1
            cases hr1 : lexS (bys TA ++ [10]) 1 with
            | err l1 =>
              rw [hr1] at hO1
              obtain rfl := hO1.err
              obtain ⟨W1, hW1⟩ : ∃ W, Hid (W = w1.alloc (.cells #[.int .i64 1, .int .i64 (l1 : Int)] 26)) := ⟨_, rfl⟩
              have b2 : Below w1.heap.size w1 W1 := by rw [hW1.out]; exact (Below.refl _ _).alloc (Nat.le_refl _) _
              have A1 : Hid (Arr W1 w1.heap.size 26 [.int .i64 1, .int .i64 (l1 : Int)]) := by show Arr _ _ _ _; rw [hW1.out]; exact Arr.new w1 _ _
              obtain ⟨g1, hg1⟩ : ∃ g, Hid (w1.heap.size = g) := ⟨_, rfl⟩
              rw [hg1.out] at A1
              have B1 := Bd.out.trans (b1.mono Bd.out.size)
              have B2 := Lib.hid (B1.trans (b2.mono B1.size))
              have H2 := Lib.hid (all_c TB W1 (by omega))
              clear hO1 b1 b2 B1 H1 hr1
              go_wp2_with fail
              rw [← hW1.out, hg1.out]
              refine H2.out.mono ?_
              rintro e w2 ⟨⟨ao, n, c, er, ln, rfl, _⟩, b3⟩
              have A2 := A1.out.kept b3
              have B3 := B2.out.trans (b3.mono B2.out.size)
              obtain ⟨W2, hW2⟩ : ∃ W, Hid (W = w2.alloc (.cells #[.int .i64 (er : Int), .int .i64 (ln : Int)] 26)) := ⟨_, rfl⟩
              have b4 : Below w2.heap.size w2 W2 := by rw [hW2.out]; exact (Below.refl _ _).alloc (Nat.le_refl _) _
              have A3 := A2.kept b4
              have B4 := Lib.hid (B3.trans (b4.mono B3.size))
              have HAw := Lib.hid (awake_c W2)
              rw [hW2.out] at A3
              have q0 := A3.cell 0
              have q1 := A3.cell 1
              clear H2 A2 A3 b3 b4 B3
              go_wp2_with fail
              rw [← hW2.out]
              refine HAw.out.mono ?_
              rintro e w5 ⟨rfl, b5⟩
              have B5 := Lib.hid (B4.out.trans (b5.mono B4.out.size))
              clear b5
              go_wp2_with fail
              go_ret
              exact ⟨rfl, B5.out⟩
            | ok x e1 =>
              rw [hr1] at hO1
              obtain ⟨ao1, c1, rfl, O1⟩ := hO1.ok
              have hcx := lexS_count _ _ _ _ hr1
              rw [List.length_append, bys_len] at hcx
              simp only [List.length_cons, List.length_nil] at hcx
              obtain ⟨P, hP⟩ : ∃ P, Hid (x.length = P) := ⟨_, rfl⟩
              rw [hP.out] at O1 hcx ⊢
              obtain ⟨W1, hW1⟩ : ∃ W, Hid (W = w1.alloc (.cells #[.int .i64 0, .int .i64 0] 26)) := ⟨_, rfl⟩
              have b2 : Below w1.heap.size w1 W1 := by rw [hW1.out]; exact (Below.refl _ _).alloc (Nat.le_refl _) _
              have A1 : Hid (Arr W1 w1.heap.size 26 [.int .i64 0, .int .i64 0]) := by show Arr _ _ _ _; rw [hW1.out]; exact Arr.new w1 _ _
              obtain ⟨g1, hg1⟩ : ∃ g, Hid (w1.heap.size = g) := ⟨_, rfl⟩
              rw [hg1.out] at A1
              have B1 := Bd.out.trans (b1.mono Bd.out.size)
              have B2 := Lib.hid (B1.trans (b2.mono B1.size))
              have O2 := Lib.hid (O1.keep b2)
              have H2 := Lib.hid (all_c TB W1 (by omega))
              have hr1 := Lib.hid hr1
              clear hO1 b1 b2 B1 H1 O1
              go_wp2_with fail
              rw [← hW1.out, hg1.out]
              refine H2.out.mono ?_
              rintro e w2 ⟨hO2, b3⟩
              rw [hall2.out] at hO2
              have A2 := A1.out.kept b3
              have B3 := B2.out.trans (b3.mono B2.out.size)
              have O3 := O2.out.keep b3
              cases hr2 : lexS (bys TB) 1 with
              | err l2 =>
                rw [hr2] at hO2
                obtain rfl := hO2.err
                obtain ⟨W2, hW2⟩ : ∃ W, Hid (W = w2.alloc (.cells #[.int .i64 1, .int .i64 (l2 : Int)] 26)) := ⟨_, rfl⟩
                have b4 : Below w2.heap.size w2 W2 := by rw [hW2.out]; exact (Below.refl _ _).alloc (Nat.le_refl _) _
                have A3 := A2.kept b4
                have B4 := Lib.hid (B3.trans (b4.mono B3.size))
                have HAw := Lib.hid (awake_c W2)
                rw [hW2.out] at A3
                have q0 := A3.cell 0
                have q1 := A3.cell 1
                clear H2 A2 A3 b3 b4 B3 O3 hO2 hr2
                go_wp2_with fail
                rw [← hW2.out]
                refine HAw.out.mono ?_
                rintro e w5 ⟨rfl, b5⟩
                have B5 := Lib.hid (B4.out.trans (b5.mono B4.out.size))
                clear b5
                go_wp2_with fail
                go_ret
                exact ⟨rfl, B5.out⟩
              | ok y e2 =>
                rw [hr2] at hO2
                obtain ⟨ao2, c2, rfl, O4⟩ := hO2.ok
                have hcy := lexS_count _ _ _ _ hr2
                rw [bys_len] at hcy
                obtain ⟨M2, hM2⟩ : ∃ M, Hid (y.length + 1 = M) := ⟨_, rfl⟩
                rw [hM2.out] at O4 ⊢
                have hM2b : M2 ≤ 101 := by rw [← hM2.out]; omega
                obtain ⟨W2, hW2⟩ : ∃ W, Hid (W = w2.alloc (.cells #[.int .i64 0, .int .i64 0] 26)) := ⟨_, rfl⟩
                have b4 : Below w2.heap.size w2 W2 := by rw [hW2.out]; exact (Below.refl _ _).alloc (Nat.le_refl _) _
                have A3 := A2.kept b4
                have B4 := Lib.hid (B3.trans (b4.mono B3.size))
                have O3x := Lib.hid (O3.keep b4)
                have O4x := Lib.hid (O4.keep b4)
                have hM0 : (((P : Int) + 1) == 0) = false := by rw [beq_eq_false_iff_ne]; omega
                obtain ⟨QQ, hQQ⟩ : ∃ Q : ByteArray, Hid (gapT TA G TN TB = Q) := ⟨gapT TA G TN TB, Lib.hid rfl⟩
                have hQs : QQ.size ≤ 20000 := by
                  rw [← hQQ.out, gapT_size]
                  omega
                have H3 := all_c QQ W2 (by omega)
                obtain ⟨k, hk⟩ := lexS_between hr1.out hr2 hGb hGb hNote.out
                have hallQ : allS QQ = some (.ok (x ++ y.map (Tok.up k)) (e2 + k)) := by
                  show (if _ then _ else _) = _
                  rw [if_neg (by omega), ← hQQ.out, gap_text, hk]
                rw [hallQ] at H3
                have H3 := Lib.hid H3
                have hQe := hQQ.out
                unfold gapT at hQe
                rw [hW2.out] at A3
                have q0 := A3.cell 0
                have q1 := A3.cell 1
                clear H2 A2 A3 b3 b4 B3 O3 O4 hO2 hr2 hQs hk hallQ
                go_wp2_with fail
                rw [← hW2.out]
                refine H3.out.mono ?_
                rintro e w3 ⟨hO3, b5⟩
                obtain ⟨ao3, c3, rfl, O5⟩ := hO3.ok
                obtain ⟨M3, hM3⟩ : ∃ M, Hid ((x ++ y.map (Tok.up k)).length + 1 = M) := ⟨_, rfl⟩
                rw [hM3.out] at O5 ⊢
                have B5 := B4.out.trans (b5.mono B4.out.size)
                obtain ⟨W3, hW3⟩ : ∃ W, Hid (W = w3.alloc (.cells #[.int .i64 0, .int .i64 0] 26)) := ⟨_, rfl⟩
                have b6 : Below w3.heap.size w3 W3 := by rw [hW3.out]; exact (Below.refl _ _).alloc (Nat.le_refl _) _
                have A6 : Hid (Arr W3 w3.heap.size 26 [.int .i64 0, .int .i64 0]) := by show Arr _ _ _ _; rw [hW3.out]; exact Arr.new w3 _ _
                obtain ⟨g3, hg3⟩ : ∃ g, Hid (w3.heap.size = g) := ⟨_, rfl⟩
                rw [hg3.out] at A6
                have B6 := Lib.hid (B5.trans (b6.mono B5.size))
                have X6 := Lib.hid ((O3x.out.keep b5).keep b6)
                have Y6 := Lib.hid ((O4x.out.keep b5).keep b6)
                have Z6 := Lib.hid (O5.keep b6)
                have HAw := Lib.hid (awake_c W3)
                clear hO3 b5 b6 B5 O5 H3 hQe q0 q1 O3x O4x
                go_wp2_with fail
                rw [← hW3.out, hg3.out]
                refine HAw.out.mono ?_
                rintro e w4 ⟨rfl, b7⟩
                have A7 := A6.out.kept b7
                have r0 : w4.cell? ⟨g3, 0, none⟩ = some (.int .i64 0) := A7.cell 0
                have r1 : w4.cell? ⟨g3, 1, none⟩ = some (.int .i64 0) := A7.cell 1
                have X7 := X6.out.keep b7
                have Y7 := Y6.out.keep b7
                have Z7 := Lib.hid (Z6.out.keep b7)
                have B7 := Lib.hid (B6.out.trans (b7.mono B6.out.size))
                rcases X7.cases with ⟨_, h0, _⟩ | ⟨gx, rfl, _, _, hc1, hc1m⟩
                · omega
                rcases Y7.cases with ⟨_, h0, _⟩ | ⟨gy, rfl, _, _, hc2, hc2m⟩
                · have := hM2.out; omega
                have TX := Lib.hid (X7.tokAt.head)
                have TY := Lib.hid (Y7.tokAt)
                have d1 : (0 : Int) ≤ (P : Int) := by omega
                have d2 : (P : Int) ≤ (c1 : Int) := by omega
                have hP1 : P ≤ 101 := by omega
                have zB7 := B7.out.size
                clear HAw A7 b7 X7 Y7
                go_wp2_with (at_builtin; refine wpList_appTs (d := some 110) (B := w4.heap.size) (TokOwn.nil w4.heap.size w4) TX.out hP.out (Nat.le_refl _) (by omega) (by omega) rfl rfl rfl ?_)
                intro ao4 c4 w5 O8 b8
                have TY8 := Lib.hid (TY.out.keep b8)
                have hy2 : Hid ((y ++ [(⟨5, [], e2⟩ : Tok)]).length = M2) := by show _ = _; rw [List.length_append]; exact hM2.out
                have z8 := b8.size
                have O8 := Lib.hid O8
                have B8 := Lib.hid b8
                obtain ⟨P0, hP0⟩ : ∃ k, Hid (0 + P = k) := ⟨_, rfl⟩
                have hP0b : P0 ≤ 101 := by rw [← hP0.out]; omega
                rw [hP0.out] at O8 ⊢
                clear b8
                go_wp2_with (at_builtin; refine wpList_appTs (d := some 112) (B := w4.heap.size) O8.out TY8.out hy2.out z8 (by omega) (by omega) rfl rfl rfl ?_)
                intro ao5 c5 w6 O9 b9
                have B9 := B8.out.trans b9
                have hsame : SameT false (x ++ y.map (Tok.up k) ++ [(⟨5, [], e2 + k⟩ : Tok)]) ([] ++ x ++ (y ++ [(⟨5, [], e2⟩ : Tok)])) := by
                  refine ⟨by simp, fun i t u h1 h2 => ?_⟩
                  rw [List.nil_append] at h2
                  obtain ⟨s1, s2⟩ := same_up x y k e2 i t u h1 h2
                  exact ⟨s1, s2, fun h => by cases h⟩
                have HE := Lib.hid (eq_c false _ _ ao3 ao5 M3 (P0 + M2) c3 c5 _ _ w6 (Z7.out.keep B9) O9 hsame)
                have B10 := Lib.hid (B7.out.trans (B9.mono zB7))
                clear b9 B9 O9 hsame
                go_wp2_with fail
                refine HE.out.mono ?_
                rintro e w7 ⟨rfl, b10⟩
                have B11 := Lib.hid (B10.out.trans (b10.mono B10.out.size))
                clear b10
                go_wp2_with fail
                go_ret
                exact ⟨rfl, B11.out⟩
      · have k1 : ¬ (i : Int) < (bn : Int) := by omega
        clear hgo
        have hGb := hG.out
        go_wp2_with fail
        go_loop [9] (fun jv => ∃ j : Nat, j ≤ TN.size ∧ jv = .int .i64 j ∧ Hid (∀ x ∈ (bys TN).take j, x.toNat ≠ 10)) (fun jv => TN.size - (intOf jv).toNat)
        case atStart => exact ⟨0, Nat.zero_le _, rfl, fun x hx => by cases hx⟩
        case round =>
          obtain ⟨j, hj, rfl, hI⟩ := hrel
          by_cases hlt : j < TN.size
          · have hlt' : (j : Int) < (TN.size : Int) := by omega
            obtain ⟨d, hd, x1⟩ := at_s TN j hlt
            obtain ⟨m, hm⟩ : ∃ n : Nat, Hid (d.toNat = n) := ⟨_, rfl⟩
            rw [hm.out] at x1
            by_cases h10 : m = 10
            · have k10 : ((m : Int) == 10) = true := by simp; omega
              have HAw := Lib.hid (awake_c wr)
              clear h10 hI
              go_wp2_with fail
              refine HAw.out.mono ?_
              rintro e w2 ⟨rfl, b2⟩
              have B2 := Lib.hid (Bd.out.trans (b2.mono Bd.out.size))
              clear b2
              go_wp2_with fail
              go_ret
              exact ⟨rfl, B2.out⟩
            · have k10 : ((m : Int) == 10) = false := by rw [beq_eq_false_iff_ne]; omega
              have hNx : Hid (∀ x ∈ (bys TN).take (j + 1), x.toNat ≠ 10) := by
                intro x hx
                rw [List.take_add, hd.out] at hx
                rcases List.mem_append.1 hx with hx | hx
                · exact hI.out x hx
                · have : x = d := by simpa using hx
                  rw [this, hm.out]
                  exact h10
              clear h10 hI
              go_wp2_with fail
              go_round
              case rel => exact ⟨j + 1, by omega, by go_num, hNx⟩
              case measure => simp [intOf]; omega
          · obtain rfl : j = TN.size := by omega
            have hNote : Hid (∀ x ∈ bys TN, x.toNat ≠ 10) := by
              intro x hx
              refine hI.out x ?_
              rw [List.take_of_length_le (by rw [bys_len]; exact Nat.le_refl _)]
              exact hx
            have m10 : (⟨#[10]⟩ : ByteArray).size = 1 := rfl
            have m35 : (⟨#[35]⟩ : ByteArray).size = 1 := rfl
            have hQ1 : (TA ++ ⟨#[10]⟩).size ≤ 101 := by rw [ByteArray.size_append, m10]; omega
            have H1 := Lib.hid (all_c (TA ++ ⟨#[10]⟩) wr (by omega))
            have hall1 : Hid (allS (TA ++ ⟨#[10]⟩) = some (lexS (bys TA ++ [10]) 1)) := by
              show (if _ then _ else _) = _
              rw [if_neg (by omega), nl_text]
            have hall2 : Hid (allS TB = some (lexS (bys TB) 1)) := if_neg (by omega)
            have HQ1 := Lib.hid hQ1
            clear hI hQ1
            go_wp2_with fail
            refine H1.out.mono ?_
            rintro e w1 ⟨hO1, b1⟩
            rw [hall1.out] at hO1
            cases hr1 : lexS (bys TA ++ [10]) 1 with
            | err l1 =>
              rw [hr1] at hO1
              obtain rfl := hO1.err
              obtain ⟨W1, hW1⟩ : ∃ W, Hid (W = w1.alloc (.cells #[.int .i64 1, .int .i64 (l1 : Int)] 26)) := ⟨_, rfl⟩
              have b2 : Below w1.heap.size w1 W1 := by rw [hW1.out]; exact (Below.refl _ _).alloc (Nat.le_refl _) _
              have A1 : Hid (Arr W1 w1.heap.size 26 [.int .i64 1, .int .i64 (l1 : Int)]) := by show Arr _ _ _ _; rw [hW1.out]; exact Arr.new w1 _ _
              obtain ⟨g1, hg1⟩ : ∃ g, Hid (w1.heap.size = g) := ⟨_, rfl⟩
              rw [hg1.out] at A1
              have B1 := Bd.out.trans (b1.mono Bd.out.size)
              have B2 := Lib.hid (B1.trans (b2.mono B1.size))
              have H2 := Lib.hid (all_c TB W1 (by omega))
              clear hO1 b1 b2 B1 H1 hr1
              go_wp2_with fail
              rw [← hW1.out, hg1.out]
              refine H2.out.mono ?_
              rintro e w2 ⟨⟨ao, n, c, er, ln, rfl, _⟩, b3⟩
              have A2 := A1.out.kept b3
              have B3 := B2.out.trans (b3.mono B2.out.size)
              obtain ⟨W2, hW2⟩ : ∃ W, Hid (W = w2.alloc (.cells #[.int .i64 (er : Int), .int .i64 (ln : Int)] 26)) := ⟨_, rfl⟩
              have b4 : Below w2.heap.size w2 W2 := by rw [hW2.out]; exact (Below.refl _ _).alloc (Nat.le_refl _) _
              have A3 := A2.kept b4
              have B4 := Lib.hid (B3.trans (b4.mono B3.size))
              have HAw := Lib.hid (awake_c W2)
              rw [hW2.out] at A3
              have q0 := A3.cell 0
              have q1 := A3.cell 1
              clear H2 A2 A3 b3 b4 B3
              go_wp2_with fail
              rw [← hW2.out]
              refine HAw.out.mono ?_
              rintro e w5 ⟨rfl, b5⟩
              have B5 := Lib.hid (B4.out.trans (b5.mono B4.out.size))
              clear b5
              go_wp2_with fail
              go_ret
              exact ⟨rfl, B5.out⟩
            | ok x e1 =>
              rw [hr1] at hO1
              obtain ⟨ao1, c1, rfl, O1⟩ := hO1.ok
              have hcx := lexS_count _ _ _ _ hr1
              rw [List.length_append, bys_len] at hcx
              simp only [List.length_cons, List.length_nil] at hcx
              obtain ⟨P, hP⟩ : ∃ P, Hid (x.length = P) := ⟨_, rfl⟩
              rw [hP.out] at O1 hcx ⊢
              obtain ⟨W1, hW1⟩ : ∃ W, Hid (W = w1.alloc (.cells #[.int .i64 0, .int .i64 0] 26)) := ⟨_, rfl⟩
              have b2 : Below w1.heap.size w1 W1 := by rw [hW1.out]; exact (Below.refl _ _).alloc (Nat.le_refl _) _
              have A1 : Hid (Arr W1 w1.heap.size 26 [.int .i64 0, .int .i64 0]) := by show Arr _ _ _ _; rw [hW1.out]; exact Arr.new w1 _ _
              obtain ⟨g1, hg1⟩ : ∃ g, Hid (w1.heap.size = g) := ⟨_, rfl⟩
              rw [hg1.out] at A1
              have B1 := Bd.out.trans (b1.mono Bd.out.size)
              have B2 := Lib.hid (B1.trans (b2.mono B1.size))
              have O2 := Lib.hid (O1.keep b2)
              have H2 := Lib.hid (all_c TB W1 (by omega))
              have hr1 := Lib.hid hr1
              clear hO1 b1 b2 B1 H1 O1
              go_wp2_with fail
              rw [← hW1.out, hg1.out]
              refine H2.out.mono ?_
              rintro e w2 ⟨hO2, b3⟩
              rw [hall2.out] at hO2
              have A2 := A1.out.kept b3
              have B3 := B2.out.trans (b3.mono B2.out.size)
              have O3 := O2.out.keep b3
              cases hr2 : lexS (bys TB) 1 with
              | err l2 =>
                rw [hr2] at hO2
                obtain rfl := hO2.err
                obtain ⟨W2, hW2⟩ : ∃ W, Hid (W = w2.alloc (.cells #[.int .i64 1, .int .i64 (l2 : Int)] 26)) := ⟨_, rfl⟩
                have b4 : Below w2.heap.size w2 W2 := by rw [hW2.out]; exact (Below.refl _ _).alloc (Nat.le_refl _) _
                have A3 := A2.kept b4
                have B4 := Lib.hid (B3.trans (b4.mono B3.size))
                have HAw := Lib.hid (awake_c W2)
                rw [hW2.out] at A3
                have q0 := A3.cell 0
                have q1 := A3.cell 1
                clear H2 A2 A3 b3 b4 B3 O3 hO2 hr2
                go_wp2_with fail
                rw [← hW2.out]
                refine HAw.out.mono ?_
                rintro e w5 ⟨rfl, b5⟩
                have B5 := Lib.hid (B4.out.trans (b5.mono B4.out.size))
                clear b5
                go_wp2_with fail
                go_ret
                exact ⟨rfl, B5.out⟩
              | ok y e2 =>
                rw [hr2] at hO2
                obtain ⟨ao2, c2, rfl, O4⟩ := hO2.ok
                have hcy := lexS_count _ _ _ _ hr2
                rw [bys_len] at hcy
                obtain ⟨M2, hM2⟩ : ∃ M, Hid (y.length + 1 = M) := ⟨_, rfl⟩
                rw [hM2.out] at O4 ⊢
                have hM2b : M2 ≤ 101 := by rw [← hM2.out]; omega
                obtain ⟨W2, hW2⟩ : ∃ W, Hid (W = w2.alloc (.cells #[.int .i64 0, .int .i64 0] 26)) := ⟨_, rfl⟩
                have b4 : Below w2.heap.size w2 W2 := by rw [hW2.out]; exact (Below.refl _ _).alloc (Nat.le_refl _) _
                have A3 := A2.kept b4
                have B4 := Lib.hid (B3.trans (b4.mono B3.size))
                have O3x := Lib.hid (O3.keep b4)
                have O4x := Lib.hid (O4.keep b4)
                have hM0 : (((P : Int) + 1) == 0) = false := by rw [beq_eq_false_iff_ne]; omega
                obtain ⟨QQ, hQQ⟩ : ∃ Q : ByteArray, Hid (gapT TA G TN TB = Q) := ⟨gapT TA G TN TB, Lib.hid rfl⟩
                have hQs : QQ.size ≤ 20000 := by
                  rw [← hQQ.out, gapT_size]
                  omega
                have H3 := all_c QQ W2 (by omega)
                obtain ⟨k, hk⟩ := lexS_between hr1.out hr2 hGb hGb hNote.out
                have hallQ : allS QQ = some (.ok (x ++ y.map (Tok.up k)) (e2 + k)) := by
                  show (if _ then _ else _) = _
                  rw [if_neg (by omega), ← hQQ.out, gap_text, hk]
                rw [hallQ] at H3
                have H3 := Lib.hid H3
                have hQe := hQQ.out
                unfold gapT at hQe
                rw [hW2.out] at A3
                have q0 := A3.cell 0
                have q1 := A3.cell 1
                clear H2 A2 A3 b3 b4 B3 O3 O4 hO2 hr2 hQs hk hallQ
                go_wp2_with fail
                rw [← hW2.out]
                refine H3.out.mono ?_
                rintro e w3 ⟨hO3, b5⟩
                obtain ⟨ao3, c3, rfl, O5⟩ := hO3.ok
                obtain ⟨M3, hM3⟩ : ∃ M, Hid ((x ++ y.map (Tok.up k)).length + 1 = M) := ⟨_, rfl⟩
                rw [hM3.out] at O5 ⊢
                have B5 := B4.out.trans (b5.mono B4.out.size)
                obtain ⟨W3, hW3⟩ : ∃ W, Hid (W = w3.alloc (.cells #[.int .i64 0, .int .i64 0] 26)) := ⟨_, rfl⟩
                have b6 : Below w3.heap.size w3 W3 := by rw [hW3.out]; exact (Below.refl _ _).alloc (Nat.le_refl _) _
                have A6 : Hid (Arr W3 w3.heap.size 26 [.int .i64 0, .int .i64 0]) := by show Arr _ _ _ _; rw [hW3.out]; exact Arr.new w3 _ _
                obtain ⟨g3, hg3⟩ : ∃ g, Hid (w3.heap.size = g) := ⟨_, rfl⟩
                rw [hg3.out] at A6
                have B6 := Lib.hid (B5.trans (b6.mono B5.size))
                have X6 := Lib.hid ((O3x.out.keep b5).keep b6)
                have Y6 := Lib.hid ((O4x.out.keep b5).keep b6)
                have Z6 := Lib.hid (O5.keep b6)
                have HAw := Lib.hid (awake_c W3)
                clear hO3 b5 b6 B5 O5 H3 hQe q0 q1 O3x O4x
                go_wp2_with fail
                rw [← hW3.out, hg3.out]
                refine HAw.out.mono ?_
                rintro e w4 ⟨rfl, b7⟩
                have A7 := A6.out.kept b7
                have r0 : w4.cell? ⟨g3, 0, none⟩ = some (.int .i64 0) := A7.cell 0
                have r1 : w4.cell? ⟨g3, 1, none⟩ = some (.int .i64 0) := A7.cell 1
                have X7 := X6.out.keep b7
                have Y7 := Y6.out.keep b7
                have Z7 := Lib.hid (Z6.out.keep b7)
                have B7 := Lib.hid (B6.out.trans (b7.mono B6.out.size))
                rcases X7.cases with ⟨_, h0, _⟩ | ⟨gx, rfl, _, _, hc1, hc1m⟩
                · omega
                rcases Y7.cases with ⟨_, h0, _⟩ | ⟨gy, rfl, _, _, hc2, hc2m⟩
                · have := hM2.out; omega
                have TX := Lib.hid (X7.tokAt.head)
                have TY := Lib.hid (Y7.tokAt)
                have d1 : (0 : Int) ≤ (P : Int) := by omega
                have d2 : (P : Int) ≤ (c1 : Int) := by omega
                have hP1 : P ≤ 101 := by omega
                have zB7 := B7.out.size
                clear HAw A7 b7 X7 Y7
                go_wp2_with (at_builtin; refine wpList_appTs (d := some 110) (B := w4.heap.size) (TokOwn.nil w4.heap.size w4) TX.out hP.out (Nat.le_refl _) (by omega) (by omega) rfl rfl rfl ?_)
                intro ao4 c4 w5 O8 b8
                have TY8 := Lib.hid (TY.out.keep b8)
                have hy2 : Hid ((y ++ [(⟨5, [], e2⟩ : Tok)]).length = M2) := by show _ = _; rw [List.length_append]; exact hM2.out
                have z8 := b8.size
                have O8 := Lib.hid O8
                have B8 := Lib.hid b8
                obtain ⟨P0, hP0⟩ : ∃ k, Hid (0 + P = k) := ⟨_, rfl⟩
                have hP0b : P0 ≤ 101 := by rw [← hP0.out]; omega
                rw [hP0.out] at O8 ⊢
                clear b8
                go_wp2_with (at_builtin; refine wpList_appTs (d := some 112) (B := w4.heap.size) O8.out TY8.out hy2.out z8 (by omega) (by omega) rfl rfl rfl ?_)
                intro ao5 c5 w6 O9 b9
                have B9 := B8.out.trans b9
                have hsame : SameT false (x ++ y.map (Tok.up k) ++ [(⟨5, [], e2 + k⟩ : Tok)]) ([] ++ x ++ (y ++ [(⟨5, [], e2⟩ : Tok)])) := by
                  refine ⟨by simp, fun i t u h1 h2 => ?_⟩
                  rw [List.nil_append] at h2
                  obtain ⟨s1, s2⟩ := same_up x y k e2 i t u h1 h2
                  exact ⟨s1, s2, fun h => by cases h⟩
                have HE := Lib.hid (eq_c false _ _ ao3 ao5 M3 (P0 + M2) c3 c5 _ _ w6 (Z7.out.keep B9) O9 hsame)
                have B10 := Lib.hid (B7.out.trans (B9.mono zB7))
                clear b9 B9 O9 hsame
                go_wp2_with fail
                refine HE.out.mono ?_
                rintro e w7 ⟨rfl, b10⟩
                have B11 := Lib.hid (B10.out.trans (b10.mono B10.out.size))
                clear b10
                go_wp2_with fail
                go_ret
                exact ⟨rfl, B11.out⟩
end Go.Proofs.Ytdeiellkcjdhjaa
