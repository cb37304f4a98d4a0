/-
  electionref03.Text.
-/
import Derived.Test.YtmojcnlddfijjaaDoorNatDig
import Derived.Test.YtmojcnlddfijjaaDoorFixRef
import Derived.Deep.QuietTactic
import Derived.BigQuiet
import Derived.Test.YtmojcnlddfijjaaDoorNatNumeral
import Derived.Test.YtmojcnlddfijjaaDoorNatRead
namespace Go.Proofs.YtmojcnlddfijjaaDoor
open Go.RowKit NatMath FixMath

theorem cut_text {S : ByteArray} {J D : Nat} {F : List UInt8} (hJ : J = S.size - D) (h : S.data.toList.take (S.data.toList.length - D) ++ 46 :: S.data.toList.drop (S.data.toList.length - D) = F) :
    S.extract 0 J ++ ⟨#[46]⟩ ++ S.extract J S.size = ⟨F.toArray⟩ := by
  have e : S.data.toList.length = S.size := rfl
  rw [e, ← hJ] at h
  rw [← h]
  apply ByteArray.ext
  apply Array.ext'
  rw [ByteArray.data_append, ByteArray.data_append, ByteArray.data_extract, ByteArray.data_extract]
  simp
  exact List.take_of_length_le (by simp [e])

def strLen : Value → Nat
  | .string S => S.size
  | _ => 0

set_option maxHeartbeats 1600000 in
theorem text3_c (ao : Option Addr) (n c v D : Nat) (w : World) (h : LstB w ao n c (bitsN v)) (hn : n ≤ 160) (hv : v < 2 ^ 160) (hD : D ≤ 6) :
    Calls Tryd.prog 35 #[.slice ao n c, .int .i64 D] w fun e w' => e = .returned (.string ⟨(ftx v D).toArray⟩) ∧ Below w.heap.size w w' := by
  have hdg := digits_c ao n c v w h (by omega)
  have hlen := dec_len_160 hv
  have hpos := dec_pos v
  obtain ⟨L, hL⟩ : ∃ L, Hid (L = Lib.decDigits v) := ⟨_, rfl⟩
  obtain ⟨T, hT⟩ : ∃ T, Hid (T = (⟨(ftx v D).toArray⟩ : ByteArray)) := ⟨_, rfl⟩
  obtain ⟨S0, hS0⟩ : ∃ S, Hid (S = (⟨(Lib.decDigits v).toArray⟩ : ByteArray)) := ⟨_, rfl⟩
  rw [← hL.out] at hlen hpos
  rw [← hS0.out] at hdg
  rw [← hT.out]
  have HDG := Lib.hid hdg
  clear hdg h
  go_enter Tryd.func35, Tryd.ntmps35
  go_wp2_with fail
  refine HDG.out.mono ?_
  rintro e w1 ⟨rfl, b1⟩
  have B1 := Lib.hid b1
  clear b1 HDG
  go_wp2_with fail
  go_loop [5] (fun s5 => ∃ (k : Nat) (S : ByteArray), s5 = .string S ∧ Hid (S.data.toList = List.replicate k 48 ++ L) ∧ Hid (S.size = k + L.length) ∧ (k = 0 ∨ k + L.length ≤ D + 1))
    (fun s5 => D + 1 - strLen s5)
  case atStart => exact ⟨0, S0, rfl, by show _ = _; rw [hS0.out, hL.out]; simp, by show _ = _; rw [hS0.out, hL.out]; show (Lib.decDigits v).length = _; omega, Or.inl rfl⟩
  case round =>
    obtain ⟨k, S, rfl, hS, hz, hk⟩ := hrel
    by_cases hlt : S.size ≤ D
    · have hcat : ((⟨#[48]⟩ : ByteArray) ++ S).size = 1 + S.size := by rw [ByteArray.size_append]; rfl
      have H2 : Hid (((⟨#[48]⟩ : ByteArray) ++ S).data.toList = List.replicate (k + 1) 48 ++ L) := by
        show _ = _
        rw [List.replicate_succ, List.cons_append, ← hS.out]
        simp
      have H3 : Hid (((⟨#[48]⟩ : ByteArray) ++ S).size = k + 1 + L.length) := by
        show _ = _
        have := hz.out
        omega
      have HK := Lib.hid (show k + 1 + L.length ≤ D + 1 by have := hz.out; omega)
      have HM := Lib.hid (show D + 1 - ((⟨#[48]⟩ : ByteArray) ++ S).size < D + 1 - S.size by omega)
      go_wp2_with fail
      go_round
      case rel => exact ⟨k + 1, _, rfl, H2, H3, Or.inr HK.out⟩
      case measure => exact HM.out
    · have hgt : D < S.size := by omega
      have hdec : decide (S.size ≤ D) = false := by simpa using hlt
      by_cases h0 : D = 0
      · have hb : ((D : Int) == 0) = true := by simpa using h0
        have hk0 : k = 0 := by rcases hk with hk | hk <;> omega
        have HR : Hid (S = T) := by
          show _ = _
          rw [hT.out]
          apply ByteArray.ext
          apply Array.ext'
          rw [hS.out, hk0, hL.out, h0]
          rfl
        clear hk hk0 h0
        go_wp2_with fail
        go_ret
        exact ⟨by rw [← HR.out]; rfl, B1.out⟩
      · have hb : ((D : Int) == 0) = false := by simpa using h0
        have HF := Lib.hid (ftx_pad (v := v) (D := D) (k := k) (L := S.data.toList) h0 (by rw [hS.out, hL.out]) hgt (by rcases hk with hk | hk; exact Or.inl hk; right; show S.size = _; have := hz.out; omega))
        have hz60 : S.size ≤ 60 := by have := hz.out; rcases hk with hk | hk <;> omega
        obtain ⟨J, hJ⟩ : ∃ J, Hid (J = S.size - D) := ⟨_, rfl⟩
        have hJle : J ≤ S.size := by rw [hJ.out]; omega
        have hw : IntKind.i64.wrap ((S.size : Int) - (D : Int)) = (J : Int) := by rw [hJ.out, IntKind.wrap_i64]; omega
        clear hk h0
        go_wp2_with fail
        go_quiet (fail)
        go_wp2_with fail
        go_ret
        refine ⟨?_, below_drewN B1.out nq⟩
        show Ending.returned (.string (S.extract 0 J ++ ⟨#[46]⟩ ++ S.extract J S.size)) = _
        rw [cut_text hJ.out HF.out, hT.out]
end Go.Proofs.YtmojcnlddfijjaaDoor

/-
  electionref03.Read.
-/
namespace Go.Proofs.YtmojcnlddfijjaaDoor
open Go.RowKit NatMath FixMath

/-- Whether s is the text of a number, and its number. -/
noncomputable def isTx (s : ByteArray) (D : Nat) : Bool := @decide (∃ v, s.data.toList = ftx v D) (Classical.propDecidable _)
theorem isTx_true {s : ByteArray} {D v : Nat} (h : s.data.toList = ftx v D) : isTx s D = true := by unfold isTx; exact @decide_eq_true _ (Classical.propDecidable _) ⟨v, h⟩
theorem isTx_false {s : ByteArray} {D : Nat} (h : ∀ v, s.data.toList ≠ ftx v D) : isTx s D = false := by
  unfold isTx; exact @decide_eq_false _ (Classical.propDecidable _) (fun ⟨v, hv⟩ => h v hv)

theorem filter_dec (v : Nat) : (Lib.decDigits v).filter (· != 46) = Lib.decDigits v := by
  rw [List.filter_eq_self]
  intro b hb
  have := dec_not (v := v) (c := 46) (by decide) b hb
  simpa using this
theorem filter_low (D v : Nat) : (low D v).filter (· != 46) = low D v := by
  rw [List.filter_eq_self]
  intro b hb
  have h := (low_byte D v b hb).1
  have : b ≠ 46 := by intro e; rw [e] at h; exact absurd h (by decide)
  simpa using this

/-- The digits of a text, the point left out. -/
theorem filter_ftx (v D : Nat) : ∃ j, (ftx v D).filter (· != 46) = List.replicate j 48 ++ Lib.decDigits v := by
  unfold ftx
  by_cases hD : D = 0
  · rw [if_pos hD, filter_dec]
    exact ⟨0, by simp⟩
  · rw [if_neg hD, List.filter_append, filter_dec, List.filter_cons, filter_low]
    refine ⟨D + 1 - (Lib.decDigits v).length, ?_⟩
    rw [pad_aux D v _ (by omega) (by omega)]
    simp

/-- A text of digits with zeros ahead. -/
def Zeros (s T : ByteArray) (D : Nat) : Prop := ∀ v, s.data.toList = ftx v D → ∃ j, T.data.toList = List.replicate j 48 ++ Lib.decDigits v
theorem head_get {T : ByteArray} (h : 0 < T.size) : T.data.toList[0]? = some (T[0]'h) := by
  rw [List.getElem?_eq_some_iff]
  exact ⟨by simpa using h, rfl⟩
theorem Zeros.strip {s T : ByteArray} {D : Nat} (h : Zeros s T D) (h1 : 1 < T.size) (h0 : (T[0]'(by omega)).toNat = 48) : Zeros s (T.extract 1 T.size) D := by
  intro v hv
  obtain ⟨j, hj⟩ := h v hv
  have hg := head_get (T := T) (by omega)
  have hz : T.data.toList.length = T.size := rfl
  cases j with
  | zero =>
    exfalso
    simp only [List.replicate_zero, List.nil_append] at hj
    by_cases hv0 : v = 0
    · rw [hj, hv0, dec_small (by omega)] at hz
      simp at hz; omega
    · obtain ⟨d, hd, hne⟩ := dec_head v (by omega)
      rw [hj, hd] at hg
      have := Option.some.inj hg
      rw [this] at hne
      exact hne h0
  | succ j =>
    refine ⟨j, ?_⟩
    rw [extract_list, hj, List.replicate_succ]
    simp
    exact List.take_of_length_le (by rw [hj] at hz; simp at hz; simp; omega)
theorem Zeros.done {s T : ByteArray} {D : Nat} (h : Zeros s T D) (he : T.size ≤ 1 ∨ ∃ h0 : 0 < T.size, (T[0]'h0).toNat ≠ 48) : ∀ v, s.data.toList = ftx v D → T.data.toList = Lib.decDigits v := by
  intro v hv
  obtain ⟨j, hj⟩ := h v hv
  have hz : T.data.toList.length = T.size := rfl
  have hp := dec_pos v
  cases j with
  | zero => simpa using hj
  | succ j =>
    exfalso
    have hl : T.size = j + 1 + (Lib.decDigits v).length := by rw [← hz, hj]; simp
    rcases he with he | ⟨h0, hne⟩
    · omega
    · have hg := head_get h0
      rw [hj, List.replicate_succ] at hg
      have : (48 : UInt8) = T[0]'h0 := by simpa using hg
      rw [← this] at hne
      exact hne rfl

theorem same_no {a b : ByteArray} (h : ¬ a = b) : (a.toList == b.toList) = false := by
  rw [beq_eq_false_iff_ne]
  intro e
  rw [ByteArray.toList_eq, ByteArray.toList_eq] at e
  exact h (bytes_ext e)

/-- The first loop's step. -/
theorem filter_step {s T : ByteArray} {k : Nat} (hk : k < s.size) (h : T.data.toList = (s.data.toList.take k).filter (· != 46)) :
    ((s[k]'hk).toNat = 46 → T.data.toList = (s.data.toList.take (k + 1)).filter (· != 46)) ∧ ((s[k]'hk).toNat ≠ 46 → (T ++ s.extract k (k + 1)).data.toList = (s.data.toList.take (k + 1)).filter (· != 46)) := by
  have hg : s.data.toList[k]? = some (s[k]'hk) := by
    rw [List.getElem?_eq_some_iff]
    exact ⟨by simpa using hk, rfl⟩
  have ht : s.data.toList.take (k + 1) = s.data.toList.take k ++ [s[k]'hk] := by rw [List.take_add_one, hg]; rfl
  constructor
  · intro e
    have : s[k]'hk = 46 := UInt8.toNat_inj.1 e
    rw [ht, List.filter_append, ← h, this]
    simp
  · intro e
    have hne : (s[k]'hk) ≠ 46 := fun e2 => e (by rw [e2]; rfl)
    have he : (s.extract k (k + 1)).data.toList = [s[k]'hk] := by
      rw [extract_list, show k + 1 - k = 1 by omega, List.take_one, List.head?_drop, hg]
      rfl
    rw [ht, List.filter_append, ← h, ByteArray.data_append, Array.toList_append, he]
    congr 1
    rw [List.filter_cons, if_pos (by simpa using hne)]
    rfl

set_option maxHeartbeats 3200000 in
set_option maxRecDepth 100000 in
theorem read3_c (s : ByteArray) (D : Nat) (w : World) (hs : s.size ≤ 30) (hD : D ≤ 6) :
    Calls Tryd.prog 36 #[.string s, .int .i64 D] w fun e w' => ∃ a n c, e = .returned (.tuple #[.slice a n c, .bool (isTx s D)]) ∧ (∀ v, s.data.toList = ftx v D → OwnT w.heap.size w' a n c (bitsN v)) ∧ Below w.heap.size w w' := by
  go_enter Tryd.func36, Tryd.ntmps36
  go_wp2_with fail
  go_loop [6, 7] (fun s6 i => ∃ (k : Nat) (T : ByteArray), k ≤ s.size ∧ i = .int .i64 k ∧ s6 = .string T ∧ Hid (T.data.toList = (s.data.toList.take k).filter (· != 46)) ∧ T.size ≤ k)
    (fun _ i => s.size - (intOf i).toNat)
  case atStart => exact ⟨0, ⟨#[]⟩, Nat.zero_le _, rfl, rfl, rfl, Nat.le_refl _⟩
  case round =>
    obtain ⟨k, T, hk, rfl, rfl, hT, hTk⟩ := hrel
    by_cases hlt : k < s.size
    · obtain ⟨hs1, hs2⟩ := filter_step hlt hT.out
      obtain ⟨X, hX⟩ : ∃ X : Nat, Hid (X = (s[k]'hlt).toNat) := ⟨_, rfl⟩
      have hXe : (((s[k]'hlt).toNat : Nat) : Int) = (X : Int) := by rw [hX.out]
      rw [← hX.out] at hs1 hs2
      by_cases hx : X = 46
      · have hb : ((X : Int) != 46) = false := by simp; omega
        have H1 := Lib.hid (hs1 hx)
        clear hs1 hs2 hx
        go_wp2_with fail
        go_round
        case rel => exact ⟨k + 1, T, by omega, by go_num, rfl, H1.out, by omega⟩
        case measure => simp [intOf]; omega
      · have hb : ((X : Int) != 46) = true := by simp; omega
        have H2 := Lib.hid (hs2 hx)
        have hez : (s.extract k (k + 1)).size = 1 := by rw [ByteArray.size_extract]; omega
        have hcz : (T ++ s.extract k (k + 1)).size = T.size + 1 := by rw [ByteArray.size_append, hez]
        have HCZ := Lib.hid hcz
        clear hs1 hs2 hx
        go_wp2_with fail
        go_round
        case rel => exact ⟨k + 1, _, by omega, by go_num, rfl, H2.out, by omega⟩
        case measure => simp [intOf]; omega
    · have hz : Zeros s T D := fun v hv => by
        have h1 := hT.out
        rw [show k = s.size by omega, List.take_of_length_le (by simp), hv] at h1
        rw [h1]
        exact filter_ftx v D
      have HZ := Lib.hid hz
      have hT30 : T.size ≤ 30 := by omega
      obtain rfl : k = s.size := by omega
      clear hz hT hTk
      go_wp2_with fail
      go_loop [6] (fun s6 => ∃ (T : ByteArray), s6 = .string T ∧ T.size ≤ 30 ∧ Hid (Zeros s T D)) (fun s6 => strLen s6)
      case atStart => exact ⟨T, rfl, hT30, HZ⟩
      case round =>
        obtain ⟨T, rfl, hT30, hz⟩ := hrel
        clear HZ
        by_cases h1 : 1 < T.size
        · have h0 : 0 < T.size := by omega
          have hd1 : decide ((1 : Int) < (T.size : Int)) = true := by simp; omega
          obtain ⟨X, hX⟩ : ∃ X : Nat, Hid (X = (T[0]'h0).toNat) := ⟨_, rfl⟩
          have hXe : (((T[0]'h0).toNat : Nat) : Int) = (X : Int) := by rw [hX.out]
          by_cases hx : X = 48
          · have hb : ((X : Int) == 48) = true := by simp; omega
            have HZ2 := Lib.hid (hz.out.strip h1 (by rw [← hX.out]; exact hx))
            have hez : (T.extract 1 T.size).size = T.size - 1 := by rw [ByteArray.size_extract]; omega
            have HEZ := Lib.hid hez
            clear hx hz hez
            go_wp2_with fail
            go_round
            case rel => exact ⟨_, rfl, by have := HEZ.out; omega, HZ2⟩
            case measure => have := HEZ.out; simp [strLen]; omega
          · have hb : ((X : Int) == 48) = false := by simp; omega
            have HDN := Lib.hid (hz.out.done (Or.inr ⟨h0, by rw [← hX.out]; exact hx⟩))
            clear hx hz
            go_wp2_with fail
            refine (read_c T w (by omega)).mono ?_
            rintro e w1 ⟨a1, n1, c1, rfl, ho, b1⟩
            obtain ⟨b, hb⟩ : ∃ b, Hid (b = numB T) := ⟨_, rfl⟩
            have hyes : ∀ v, s.data.toList = ftx v D → b = true ∧ numG T 0 T.size = v := fun v hv => by
              have h2 : T = ⟨(Lib.decDigits v).toArray⟩ := bytes_ext (HDN.out v hv)
              rw [hb.out, h2]
              exact ⟨dec_numeral v, by rw [dec_size]; exact dec_num v⟩
            rw [← hb.out] at ho ⊢
            obtain ⟨V, hV⟩ : ∃ V, Hid (V = numG T 0 T.size) := ⟨_, rfl⟩
            rw [← hV.out] at hyes ho
            cases b with
            | false =>
              have hno : isTx s D = false := isTx_false (fun v hv => by have := (hyes v hv).1; cases this)
              have hno2 : ∀ v, s.data.toList ≠ ftx v D := fun v hv => by have := (hyes v hv).1; cases this
              have HNO2 := Lib.hid hno2
              have HTE := Lib.hid hno
              have B1 := Lib.hid b1
              clear hno hno2 hyes ho b1
              go_wp2_with fail
              go_ret2
              exact ⟨a1, n1, c1, by rw [HTE.out]; rfl, fun v hv => (HNO2.out v hv).elim, B1.out⟩
            | true =>
              have o1 := ho rfl
              have hVb : V < 2 ^ 160 := by
                have h1 := numG_lt (numB_numeral hb.out.symm).1 0 T.size (by omega)
                rw [← hV.out] at h1
                have h2 : 10 ^ T.size ≤ 10 ^ 30 := Nat.pow_le_pow_right (by omega) (by omega)
                have h3 : (10 : Nat) ^ 30 ≤ 2 ^ 160 := by decide
                omega
              have hn1 := o1.bound hVb
              have htx := text3_c a1 n1 c1 V D w1 o1.lst hn1 hVb hD
              obtain ⟨F, hF⟩ : ∃ F, Hid (F = (⟨(ftx V D).toArray⟩ : ByteArray)) := ⟨_, rfl⟩
              rw [← hF.out] at htx
              have HTX := Lib.hid htx; have O1 := Lib.hid o1; have B1 := Lib.hid b1; have HY := Lib.hid hyes
              clear htx hyes ho o1 b1 hVb
              go_wp2_with fail
              refine HTX.out.mono ?_
              rintro e w2 ⟨rfl, b2⟩
              have B2 := Lib.hid (B1.out.trans (b2.mono B1.out.size)); have O2 := Lib.hid (O1.out.kept b2)
              clear b2 HTX
              by_cases hFs : F = s
              · have hlist : s.data.toList = ftx V D := by rw [← hFs, hF.out]
                have HL := Lib.hid hlist
                have HTE := Lib.hid (isTx_true hlist)
                have hbeq : (F.toList == s.toList) = true := by rw [hFs]; exact beq_self_eq_true _
                have HFS := Lib.hid hFs
                clear hlist hFs
                go_wp2_with fail
                go_ret2
                refine ⟨a1, n1, c1, by rw [HTE.out]; rfl, fun v hv => ?_, B2.out⟩
                have e := ftx_inj (HL.out.symm.trans hv)
                rw [← e]
                exact O2.out
              · have hlist : ∀ v, s.data.toList ≠ ftx v D := fun v hv => by
                  apply hFs
                  rw [hF.out]
                  apply bytes_ext
                  rw [(HY.out v hv).2, hv]
                have HL := Lib.hid hlist
                have HTE := Lib.hid (isTx_false hlist)
                have hbeq : (F.toList == s.toList) = false := same_no hFs
                have HFS := Lib.hid hFs
                clear hlist hFs
                go_wp2_with fail
                go_ret2
                exact ⟨a1, n1, c1, by rw [HTE.out]; rfl, fun v hv => (HL.out v hv).elim, B2.out⟩
        · have hd1 : decide ((1 : Int) < (T.size : Int)) = false := by simp; omega
          have HDN := Lib.hid (hz.out.done (Or.inl (by omega)))
          clear hz
          go_wp2_with fail
          refine (read_c T w (by omega)).mono ?_
          rintro e w1 ⟨a1, n1, c1, rfl, ho, b1⟩
          obtain ⟨b, hb⟩ : ∃ b, Hid (b = numB T) := ⟨_, rfl⟩
          have hyes : ∀ v, s.data.toList = ftx v D → b = true ∧ numG T 0 T.size = v := fun v hv => by
            have h2 : T = ⟨(Lib.decDigits v).toArray⟩ := bytes_ext (HDN.out v hv)
            rw [hb.out, h2]
            exact ⟨dec_numeral v, by rw [dec_size]; exact dec_num v⟩
          rw [← hb.out] at ho ⊢
          obtain ⟨V, hV⟩ : ∃ V, Hid (V = numG T 0 T.size) := ⟨_, rfl⟩
          rw [← hV.out] at hyes ho
          cases b with
          | false =>
            have hno : isTx s D = false := isTx_false (fun v hv => by have := (hyes v hv).1; cases this)
            have hno2 : ∀ v, s.data.toList ≠ ftx v D := fun v hv => by have := (hyes v hv).1; cases this
            have HNO2 := Lib.hid hno2
            have HTE := Lib.hid hno
            have B1 := Lib.hid b1
            clear hno hno2 hyes ho b1
            go_wp2_with fail
            go_ret2
            exact ⟨a1, n1, c1, by rw [HTE.out]; rfl, fun v hv => (HNO2.out v hv).elim, B1.out⟩
          | true =>
            have o1 := ho rfl
            have hVb : V < 2 ^ 160 := by
              have h1 := numG_lt (numB_numeral hb.out.symm).1 0 T.size (by omega)
              rw [← hV.out] at h1
              have h2 : 10 ^ T.size ≤ 10 ^ 30 := Nat.pow_le_pow_right (by omega) (by omega)
              have h3 : (10 : Nat) ^ 30 ≤ 2 ^ 160 := by decide
              omega
            have hn1 := o1.bound hVb
            have htx := text3_c a1 n1 c1 V D w1 o1.lst hn1 hVb hD
            obtain ⟨F, hF⟩ : ∃ F, Hid (F = (⟨(ftx V D).toArray⟩ : ByteArray)) := ⟨_, rfl⟩
            rw [← hF.out] at htx
            have HTX := Lib.hid htx; have O1 := Lib.hid o1; have B1 := Lib.hid b1; have HY := Lib.hid hyes
            clear htx hyes ho o1 b1 hVb
            go_wp2_with fail
            refine HTX.out.mono ?_
            rintro e w2 ⟨rfl, b2⟩
            have B2 := Lib.hid (B1.out.trans (b2.mono B1.out.size)); have O2 := Lib.hid (O1.out.kept b2)
            clear b2 HTX
            by_cases hFs : F = s
            · have hlist : s.data.toList = ftx V D := by rw [← hFs, hF.out]
              have HL := Lib.hid hlist
              have HTE := Lib.hid (isTx_true hlist)
              have hbeq : (F.toList == s.toList) = true := by rw [hFs]; exact beq_self_eq_true _
              have HFS := Lib.hid hFs
              clear hlist hFs
              go_wp2_with fail
              go_ret2
              refine ⟨a1, n1, c1, by rw [HTE.out]; rfl, fun v hv => ?_, B2.out⟩
              have e := ftx_inj (HL.out.symm.trans hv)
              rw [← e]
              exact O2.out
            · have hlist : ∀ v, s.data.toList ≠ ftx v D := fun v hv => by
                apply hFs
                rw [hF.out]
                apply bytes_ext
                rw [(HY.out v hv).2, hv]
              have HL := Lib.hid hlist
              have HTE := Lib.hid (isTx_false hlist)
              have hbeq : (F.toList == s.toList) = false := same_no hFs
              have HFS := Lib.hid hFs
              clear hlist hFs
              go_wp2_with fail
              go_ret2
              exact ⟨a1, n1, c1, by rw [HTE.out]; rfl, fun v hv => (HL.out v hv).elim, B2.out⟩
end Go.Proofs.YtmojcnlddfijjaaDoor
