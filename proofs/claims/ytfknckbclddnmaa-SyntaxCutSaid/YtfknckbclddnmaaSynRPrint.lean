/-
  electionref07.line.
-/
import Derived.Test.YtfknckbclddnmaaSynShown
import Derived.Test.YtfknckbclddnmaaSynPrB
import Derived.Test.YtfknckbclddnmaaSynPrint
import Derived.Deep.CutRange
namespace Go.Proofs.Ytfknckbclddnmaa
open Go.RowKit Lx

namespace Lx
/-- While the reference prints: A: can it be printed; X: the text; ok, t: so far; rest, r: what follows. -/
structure PrS (A : Bool) (X : List UInt8) (ok : Bool) (t : ByteArray) (rest : List UInt8) (r : Bool) : Prop where
  yes : ok = true → A = r ∧ bys t ++ rest = X
  no : ok = false → A = false ∨ 20000 < X.length
section
variable {A ok r p : Bool} {X rest : List UInt8} {t : ByteArray}
theorem PrS.text (a : ByteArray) (h : PrS A X ok t (bys a ++ rest) r) : PrS A X ok (t ++ a) rest r :=
  ⟨fun e => ⟨(h.yes e).1, by rw [bys_append, List.append_assoc]; exact (h.yes e).2⟩, h.no⟩
theorem PrS.cond (h : PrS A X ok t rest (p && r)) : PrS A X (ok && p) t rest r := by
  cases ok with
  | false => exact ⟨fun e => (by cases e), fun _ => h.no rfl⟩
  | true =>
    cases p with
    | true => exact ⟨fun _ => h.yes rfl, fun e => (by cases e)⟩
    | false => exact ⟨fun e => (by cases e), fun _ => Or.inl (h.yes rfl).1⟩
theorem PrS.lim (h : PrS A X ok t rest r) : PrS A X (ok && decide (t.size ≤ 20000)) t rest r := by
  cases ok with
  | false => exact ⟨fun e => (by cases e), fun _ => h.no rfl⟩
  | true =>
    by_cases hs : t.size ≤ 20000
    · rw [decide_eq_true hs]; exact h
    · rw [decide_eq_false hs]
      refine ⟨fun e => (by cases e), fun _ => Or.inr ?_⟩
      have := (h.yes rfl).2
      rw [← this, List.length_append, bys_len]
      omega
theorem PrS.bad (h : A = false ∨ 20000 < X.length) (t : ByteArray) (rest : List UInt8) (r : Bool) : PrS A X false t rest r := ⟨fun e => (by cases e), fun _ => h⟩
end
/-- Texts of up to 1000 bytes. -/
def shortF (f : Fld) : Prop := f.key.length ≤ 1000 ∧ ∀ v ∈ f.vals, v.length ≤ 1000
def shortB (b : Blc) : Prop := b.kind.length ≤ 1000 ∧ b.name.length ≤ 1000 ∧ ∀ f ∈ b.flds, shortF f
def shortS (s : Src) : Prop := s.title.length ≤ 1000 ∧ ∀ b ∈ s.blks, shortB b
theorem valP_len2 (v : List UInt8) : (valP v).length ≤ 2 * v.length + 2 := by
  unfold valP
  split
  · omega
  · have := Lx.esc_len v
    unfold quoP
    simp only [List.length_append, List.length_cons, List.length_nil]
    omega
end Lx
/-- What line hands back. -/
def LineOut (A : Bool) (X : List UInt8) (e : Ending) : Prop := ∃ (t : ByteArray) (ok : Bool), e = .returned (.tuple #[.string t, .bool ok]) ∧ PrS A X ok t [] true ∧ t.size ≤ 30000
theorem stg_size (l : List UInt8) : (stg l).size = l.length := by rw [← bys_len, bys_stg]
set_option maxHeartbeats 3200000 in
set_option maxRecDepth 100000 in
theorem rLine_c (f : Fld) (vo : Option Addr) (vn vc : Nat) (z : Int) (w : World) (SL : StrL anyF w vo vn vc f.vals) (hsm : shortF f) :
    Calls Try.prog 27 #[.agg #[.string (stg f.key), .slice vo vn vc, .int .i64 z]] w fun e w' => LineOut (fldOk f) (fldP f) e ∧ Below w.heap.size w w' := by
  obtain ⟨V, e1, AV, BV, hz⟩ := new_box w 42 [.string (stg f.key), .slice vo vn vc, .int .i64 z]
  have hn := SL.len
  have hcap := Row.cap SL
  have hroom := Row.room SL
  have y0 : V.cell? ⟨w.heap.size, 0, none⟩ = some (.string (stg f.key)) := AV.cell 0
  have y1 : V.cell? ⟨w.heap.size, 1, none⟩ = some (.slice vo vn vc) := AV.cell 1
  obtain ⟨A, hA⟩ : ∃ A, Hid (fldOk f = A) := ⟨_, rfl⟩
  obtain ⟨X, hX⟩ : ∃ X, Hid (fldP f = X) := ⟨_, rfl⟩
  obtain ⟨fb, hfb⟩ : ∃ fb, w.heap.size = fb := ⟨_, rfl⟩
  have HB : Hid (Below fb w V) := by show Below _ _ _; rw [← hfb]; exact BV
  have SLV : StrL anyF V vo vn vc f.vals := Row.keep SL stable_any (keeps_below _ BV)
  have HW := refWord_c (stg f.key) V (by rw [stg_size]; have := hsm.1; omega)
  rw [bys_stg] at HW
  have hks : (stg f.key).size ≤ 1000 := by rw [stg_size]; exact hsm.1
  have m4 : (⟨#[32, 32, 32, 32]⟩ : ByteArray).size = 4 := rfl
  have m2 : (⟨#[59, 10]⟩ : ByteArray).size = 2 := rfl
  have m1 : (⟨#[44]⟩ : ByteArray).size = 1 := rfl
  have m1' : (⟨#[32]⟩ : ByteArray).size = 1 := rfl
  have hvs := hsm.2
  -- what is so before the loop
  obtain ⟨ok0, hok0⟩ : ∃ b, Hid ((wordB f.key && decide (0 < vn)) = b) := ⟨_, rfl⟩
  have hP0 : PrS A X ok0 (⟨#[32, 32, 32, 32]⟩ ++ stg f.key) (restT true f.vals) (f.vals.all valOk) := by
    rw [← hok0.out, ← hA.out, ← hX.out]
    by_cases h0 : f.vals = []
    · have : vn = 0 := by rw [← hn, h0]; rfl
      rw [this, show (decide (0 < 0)) = false by decide, Bool.and_false]
      refine PrS.bad (Or.inl ?_) _ _ _
      unfold fldOk
      rw [h0]
      simp
    · have hpos : 0 < vn := by
        rcases Nat.eq_zero_or_pos vn with h1 | h1
        · rw [h1] at hn; exact absurd (List.eq_nil_of_length_eq_zero hn) h0
        · exact h1
      rw [decide_eq_true hpos, Bool.and_true]
      cases hk : wordB f.key with
      | false =>
        refine PrS.bad (Or.inl ?_) _ _ _
        rw [fldOk_rest h0, hk]
        rfl
      | true =>
        refine ⟨fun _ => ⟨by rw [fldOk_rest h0, hk]; rfl, ?_⟩, fun e => by cases e⟩
        rw [fldP_rest h0, bys_append, bys_stg, List.append_assoc]
        rfl
  obtain ⟨kw, hkw⟩ : ∃ b, wordB f.key = b := ⟨_, rfl⟩
  rw [hkw] at HW hok0
  have hvn : decide ((vn : Int) > 0) = decide (0 < vn) := by rw [Bool.eq_iff_iff, decide_eq_true_eq, decide_eq_true_eq]; omega
  have HW := Lib.hid HW
  have hP0 := Lib.hid hP0
  have SLV : Hid (StrL anyF V vo vn vc f.vals) := SLV
  obtain ⟨KS, hKS⟩ : ∃ S, stg f.key = S := ⟨_, rfl⟩
  rw [hKS] at y0 hks HW hP0 e1 ⊢
  rw [hfb] at y0 y1
  rw [hA.out, hX.out]
  have hbd : Hid ((⟨#[32, 32, 32, 32]⟩ ++ KS : ByteArray).size ≤ 21004) := by show _ ≤ _; rw [ByteArray.size_append]; omega
  have hvs := Lib.hid hvs
  have hks2 : Hid (KS.size ≤ 1000) := hks
  clear hsm SL AV BV hz hA hX hkw hKS
  have main : ∀ (ok : Bool), ok0 = ok → True := fun _ _ => trivial
  clear main
  cases kw with
  | false =>
    have hok : ok0 = false := by rw [← hok0.out]; rfl
    subst hok
    go_enter Try.func27, Try.ntmps27
    go_wp2_with fail
    refine HW.out.mono ?_
    rintro e w1 ⟨rfl, rfl⟩
    go_wp2_with fail
    go_loopw [4, 5, 6, 7, 8] (fun okv tv iv _ _ wr => ∃ (j : Nat) (ok first : Bool) (t : ByteArray), j ≤ vn ∧ iv = .int .i64 (j : Int) ∧ okv = .bool ok ∧ tv = .string t ∧ first = decide (j = 0) ∧ PrS A X ok t (restT first (f.vals.drop j)) ((f.vals.drop j).all valOk) ∧ (ok = true → t.size ≤ 21004) ∧ t.size ≤ 29000 ∧ wr = V) (fun _ _ iv _ _ _ => vn - (intOf iv).toNat)
    case atStart => exact ⟨0, _, true, _, by omega, rfl, rfl, rfl, rfl, hP0.out, fun _ => hbd.out, by have := hbd.out; omega, rfl⟩
    case round =>
      clear hP0 hbd
      obtain ⟨j, ok, first, t, hj, rfl, rfl, rfl, hfi, hP, hs1, hs2, rfl⟩ := hrel
      have hP := Lib.hid hP
      have hs1 := Lib.hid hs1
      cases ok with
      | true =>
        by_cases hlt : j < vn
        · have hlt' : (j : Int) < (vn : Int) := by omega
          have x1 := StrL.ix' SLV.out j hlt
          obtain ⟨v, hv1⟩ : ∃ v, f.vals[j]? = some v := ⟨_, List.getElem?_eq_getElem (by rw [SLV.out.len]; exact hlt)⟩
          have a1 := SLV.out.at j v hv1
          have hvl : v.length ≤ 1000 := hvs.out v (List.mem_of_getElem? hv1)
          have hd := get_drop hv1
          have HS := shown_c (stg v) wr (by rw [stg_size]; omega)
          rw [bys_stg] at HS
          have hq := valP_len2 v
          have hs1' := hs1.out rfl
          obtain ⟨vk, hvk⟩ : ∃ b, valOk v = b := ⟨_, rfl⟩
          obtain ⟨sh, hsh⟩ : ∃ S, Hid ((if vk = true then stg (valP v) else ⟨#[]⟩ : ByteArray) = S) := ⟨_, rfl⟩
          rw [hvk, hsh.out] at HS
          have hshs : sh.size ≤ 2002 := by
            rw [← hsh.out]
            cases vk with
            | true => rw [if_pos rfl, stg_size]; omega
            | false => exact Nat.zero_le _
          have HS := Lib.hid HS
          -- what is so behind the round
          have hnext : Hid (∀ sep : ByteArray, sep = stg (sepT first) → PrS A X (vk && decide ((t ++ sep ++ sh).size ≤ 20000)) (t ++ sep ++ sh) (restT false (f.vals.drop (j + 1))) ((f.vals.drop (j + 1)).all valOk)) := by
            intro sep hsep
            have h1 := hP.out
            rw [hd, List.all_cons] at h1
            have h2 : PrS A X (true && vk) (t ++ sep) (valP v ++ restT false (f.vals.drop (j + 1))) ((f.vals.drop (j + 1)).all valOk) := by
              refine (PrS.text sep ?_).cond
              rw [hsep, bys_stg, ← hvk]
              exact h1
            rw [Bool.true_and] at h2
            cases vk with
            | false =>
              rw [Bool.false_and]
              exact PrS.bad (h2.no rfl) _ _ _
            | true =>
              have h3 : PrS A X true (t ++ sep ++ stg (valP v)) (restT false (f.vals.drop (j + 1))) ((f.vals.drop (j + 1)).all valOk) := PrS.text (stg (valP v)) (by rw [bys_stg]; exact h2)
              rw [← hsh.out, if_pos rfl]
              exact h3.lim
          clear hv1 hd hq hsh
          by_cases hj0 : j = 0
          · subst hj0
            rw [show ((0 : Nat) : Int) = 0 from rfl] at x1
            have hfi' : first = true := hfi
            subst hfi'
            have hcat : t ++ ((⟨#[32]⟩ : ByteArray) ++ sh) = t ++ (⟨#[32]⟩ : ByteArray) ++ sh := by
              apply bys_inj
              simp only [bys_append, List.append_assoc]
            have hz1 : (t ++ (⟨#[32]⟩ : ByteArray) ++ sh).size = t.size + 1 + sh.size := by rw [ByteArray.size_append, ByteArray.size_append]; omega
            have hN := hnext.out (⟨#[32]⟩ : ByteArray) rfl
            obtain ⟨T2, hT2⟩ : ∃ T, t ++ (⟨#[32]⟩ : ByteArray) ++ sh = T := ⟨_, rfl⟩
            rw [hT2] at hcat hz1 hN
            have hle : Hid (decide ((T2.size : Int) ≤ 20000) = decide (T2.size ≤ 20000)) := by show _ = _; rw [Bool.eq_iff_iff, decide_eq_true_eq, decide_eq_true_eq]; omega
            have hN := Lib.hid hN
            replace hz1 := Lib.hid hz1
            clear hnext hT2 hs2 hfi
            cases vk with
            | true =>
              go_wp2_with fail
              refine HS.out.mono ?_
              rintro e w2 ⟨rfl, rfl⟩
              go_wp2_with fail
              go_roundw
              case rel => exact ⟨0 + 1, _, false, T2, by omega, by go_num, (by rw [hle.out]; try rfl), rfl, by simp, hN.out, fun e => by have := of_decide_eq_true e; omega, by have := hz1.out; omega, by trivial⟩
              case measure => simp [intOf]; omega
            | false =>
              go_wp2_with fail
              refine HS.out.mono ?_
              rintro e w2 ⟨rfl, rfl⟩
              go_wp2_with fail
              go_roundw
              case rel => exact ⟨0 + 1, false, false, T2, by omega, by go_num, rfl, rfl, by simp, hN.out, fun e => (by cases e), by have := hz1.out; omega, by trivial⟩
              case measure => simp [intOf]; omega
          · have hfi' : first = false := by rw [hfi]; exact decide_eq_false hj0
            subst hfi'
            have hgt : (j : Int) > 0 := by omega
            have hcat : t ++ (⟨#[44]⟩ : ByteArray) ++ ((⟨#[32]⟩ : ByteArray) ++ sh) = t ++ (⟨#[44, 32]⟩ : ByteArray) ++ sh := by
              apply bys_inj
              simp only [bys_append, List.append_assoc]
              rfl
            have hz1 : (t ++ (⟨#[44, 32]⟩ : ByteArray) ++ sh).size = t.size + 2 + sh.size := by rw [ByteArray.size_append, ByteArray.size_append]; rfl
            have hN := hnext.out (⟨#[44, 32]⟩ : ByteArray) rfl
            obtain ⟨T2, hT2⟩ : ∃ T, t ++ (⟨#[44, 32]⟩ : ByteArray) ++ sh = T := ⟨_, rfl⟩
            rw [hT2] at hcat hz1 hN
            have hle : Hid (decide ((T2.size : Int) ≤ 20000) = decide (T2.size ≤ 20000)) := by show _ = _; rw [Bool.eq_iff_iff, decide_eq_true_eq, decide_eq_true_eq]; omega
            have hN := Lib.hid hN
            have hsz2 : (t ++ (⟨#[44]⟩ : ByteArray)).size ≤ 29001 := by rw [ByteArray.size_append]; omega
            replace hz1 := Lib.hid hz1
            clear hnext hT2 hs2 hfi
            cases vk with
            | true =>
              go_wp2_with fail
              refine HS.out.mono ?_
              rintro e w2 ⟨rfl, rfl⟩
              go_wp2_with fail
              go_roundw
              case rel => exact ⟨j + 1, _, false, T2, by omega, by go_num, (by rw [hle.out]; try rfl), rfl, by simp, hN.out, fun e => by have := of_decide_eq_true e; omega, by have := hz1.out; omega, by trivial⟩
              case measure => simp [intOf]; omega
            | false =>
              go_wp2_with fail
              refine HS.out.mono ?_
              rintro e w2 ⟨rfl, rfl⟩
              go_wp2_with fail
              go_roundw
              case rel => exact ⟨j + 1, false, false, T2, by omega, by go_num, rfl, rfl, by simp, hN.out, fun e => (by cases e), by have := hz1.out; omega, by trivial⟩
              case measure => simp [intOf]; omega
        · obtain rfl : j = vn := by omega
          have hd : f.vals.drop j = [] := List.drop_of_length_le (by rw [SLV.out.len]; exact Nat.le_refl _)
          have hN : Hid (PrS A X true (t ++ (⟨#[59, 10]⟩ : ByteArray)) [] true) := by
            show PrS _ _ _ _ _ _
            refine PrS.text _ ?_
            have := hP.out
            rw [hd] at this
            rw [List.append_nil]
            cases first <;> exact this
          clear hd
          go_wp2_with fail
          go_ret2
          exact ⟨⟨t ++ (⟨#[59, 10]⟩ : ByteArray), true, rfl, hN.out, by rw [ByteArray.size_append]; omega⟩, by first | exact HB.out | (rw [hfb]; exact HB.out)⟩
      | false =>
        have hN : Hid (PrS A X false (t ++ (⟨#[59, 10]⟩ : ByteArray)) [] true) := PrS.bad (hP.out.no rfl) _ _ _
        go_wp2_with fail
        all_goals
          go_ret2
          exact ⟨⟨t ++ (⟨#[59, 10]⟩ : ByteArray), false, rfl, hN.out, by rw [ByteArray.size_append]; omega⟩, by first | exact HB.out | (rw [hfb]; exact HB.out)⟩
  | true =>
    cases hv0 : decide (0 < vn) with
    | false =>
      have hok : ok0 = false := by rw [← hok0.out, hv0]; rfl
      have hv1 : ¬ 0 < vn := of_decide_eq_false hv0
      subst hok
      clear hv0 hvn
      go_enter Try.func27, Try.ntmps27
      go_wp2_with fail
      refine HW.out.mono ?_
      rintro e w1 ⟨rfl, rfl⟩
      go_wp2_with fail
      go_loopw [4, 5, 6, 7, 8] (fun okv tv iv _ _ wr => ∃ (j : Nat) (ok first : Bool) (t : ByteArray), j ≤ vn ∧ iv = .int .i64 (j : Int) ∧ okv = .bool ok ∧ tv = .string t ∧ first = decide (j = 0) ∧ PrS A X ok t (restT first (f.vals.drop j)) ((f.vals.drop j).all valOk) ∧ (ok = true → t.size ≤ 21004) ∧ t.size ≤ 29000 ∧ wr = V) (fun _ _ iv _ _ _ => vn - (intOf iv).toNat)
      case atStart => exact ⟨0, _, true, _, by omega, rfl, rfl, rfl, rfl, hP0.out, fun _ => hbd.out, by have := hbd.out; omega, rfl⟩
      case round =>
        clear hP0 hbd
        obtain ⟨j, ok, first, t, hj, rfl, rfl, rfl, hfi, hP, hs1, hs2, rfl⟩ := hrel
        have hP := Lib.hid hP
        have hs1 := Lib.hid hs1
        cases ok with
        | true =>
          by_cases hlt : j < vn
          · exact absurd hlt (by omega)
          · obtain rfl : j = vn := by omega
            have hd : f.vals.drop j = [] := List.drop_of_length_le (by rw [SLV.out.len]; exact Nat.le_refl _)
            have hN : Hid (PrS A X true (t ++ (⟨#[59, 10]⟩ : ByteArray)) [] true) := by
              show PrS _ _ _ _ _ _
              refine PrS.text _ ?_
              have := hP.out
              rw [hd] at this
              rw [List.append_nil]
              cases first <;> exact this
            clear hd
            go_wp2_with fail
            go_ret2
            exact ⟨⟨t ++ (⟨#[59, 10]⟩ : ByteArray), true, rfl, hN.out, by rw [ByteArray.size_append]; omega⟩, by first | exact HB.out | (rw [hfb]; exact HB.out)⟩
        | false =>
          have hN : Hid (PrS A X false (t ++ (⟨#[59, 10]⟩ : ByteArray)) [] true) := PrS.bad (hP.out.no rfl) _ _ _
          go_wp2_with fail
          all_goals
            go_ret2
            exact ⟨⟨t ++ (⟨#[59, 10]⟩ : ByteArray), false, rfl, hN.out, by rw [ByteArray.size_append]; omega⟩, by first | exact HB.out | (rw [hfb]; exact HB.out)⟩
    | true =>
      have hok : ok0 = true := by rw [← hok0.out, hv0]; rfl
      have hv1 : 0 < vn := of_decide_eq_true hv0
      subst hok
      clear hv0 hvn
      go_enter Try.func27, Try.ntmps27
      go_wp2_with fail
      refine HW.out.mono ?_
      rintro e w1 ⟨rfl, rfl⟩
      go_wp2_with fail
      go_loopw [4, 5, 6, 7, 8] (fun okv tv iv _ _ wr => ∃ (j : Nat) (ok first : Bool) (t : ByteArray), j ≤ vn ∧ iv = .int .i64 (j : Int) ∧ okv = .bool ok ∧ tv = .string t ∧ first = decide (j = 0) ∧ PrS A X ok t (restT first (f.vals.drop j)) ((f.vals.drop j).all valOk) ∧ (ok = true → t.size ≤ 21004) ∧ t.size ≤ 29000 ∧ wr = V) (fun _ _ iv _ _ _ => vn - (intOf iv).toNat)
      case atStart => exact ⟨0, _, true, _, by omega, rfl, rfl, rfl, rfl, hP0.out, fun _ => hbd.out, by have := hbd.out; omega, rfl⟩
      case round =>
        clear hP0 hbd
        obtain ⟨j, ok, first, t, hj, rfl, rfl, rfl, hfi, hP, hs1, hs2, rfl⟩ := hrel
        have hP := Lib.hid hP
        have hs1 := Lib.hid hs1
        cases ok with
        | true =>
          by_cases hlt : j < vn
          · have hlt' : (j : Int) < (vn : Int) := by omega
            have x1 := StrL.ix' SLV.out j hlt
            obtain ⟨v, hv1⟩ : ∃ v, f.vals[j]? = some v := ⟨_, List.getElem?_eq_getElem (by rw [SLV.out.len]; exact hlt)⟩
            have a1 := SLV.out.at j v hv1
            have hvl : v.length ≤ 1000 := hvs.out v (List.mem_of_getElem? hv1)
            have hd := get_drop hv1
            have HS := shown_c (stg v) wr (by rw [stg_size]; omega)
            rw [bys_stg] at HS
            have hq := valP_len2 v
            have hs1' := hs1.out rfl
            obtain ⟨vk, hvk⟩ : ∃ b, valOk v = b := ⟨_, rfl⟩
            obtain ⟨sh, hsh⟩ : ∃ S, Hid ((if vk = true then stg (valP v) else ⟨#[]⟩ : ByteArray) = S) := ⟨_, rfl⟩
            rw [hvk, hsh.out] at HS
            have hshs : sh.size ≤ 2002 := by
              rw [← hsh.out]
              cases vk with
              | true => rw [if_pos rfl, stg_size]; omega
              | false => exact Nat.zero_le _
            have HS := Lib.hid HS
            -- what is so behind the round
            have hnext : Hid (∀ sep : ByteArray, sep = stg (sepT first) → PrS A X (vk && decide ((t ++ sep ++ sh).size ≤ 20000)) (t ++ sep ++ sh) (restT false (f.vals.drop (j + 1))) ((f.vals.drop (j + 1)).all valOk)) := by
              intro sep hsep
              have h1 := hP.out
              rw [hd, List.all_cons] at h1
              have h2 : PrS A X (true && vk) (t ++ sep) (valP v ++ restT false (f.vals.drop (j + 1))) ((f.vals.drop (j + 1)).all valOk) := by
                refine (PrS.text sep ?_).cond
                rw [hsep, bys_stg, ← hvk]
                exact h1
              rw [Bool.true_and] at h2
              cases vk with
              | false =>
                rw [Bool.false_and]
                exact PrS.bad (h2.no rfl) _ _ _
              | true =>
                have h3 : PrS A X true (t ++ sep ++ stg (valP v)) (restT false (f.vals.drop (j + 1))) ((f.vals.drop (j + 1)).all valOk) := PrS.text (stg (valP v)) (by rw [bys_stg]; exact h2)
                rw [← hsh.out, if_pos rfl]
                exact h3.lim
            clear hv1 hd hq hsh
            by_cases hj0 : j = 0
            · subst hj0
              rw [show ((0 : Nat) : Int) = 0 from rfl] at x1
              have hfi' : first = true := hfi
              subst hfi'
              have hcat : t ++ ((⟨#[32]⟩ : ByteArray) ++ sh) = t ++ (⟨#[32]⟩ : ByteArray) ++ sh := by
                apply bys_inj
                simp only [bys_append, List.append_assoc]
              have hz1 : (t ++ (⟨#[32]⟩ : ByteArray) ++ sh).size = t.size + 1 + sh.size := by rw [ByteArray.size_append, ByteArray.size_append]; omega
              have hN := hnext.out (⟨#[32]⟩ : ByteArray) rfl
              obtain ⟨T2, hT2⟩ : ∃ T, t ++ (⟨#[32]⟩ : ByteArray) ++ sh = T := ⟨_, rfl⟩
              rw [hT2] at hcat hz1 hN
              have hle : Hid (decide ((T2.size : Int) ≤ 20000) = decide (T2.size ≤ 20000)) := by show _ = _; rw [Bool.eq_iff_iff, decide_eq_true_eq, decide_eq_true_eq]; omega
              have hN := Lib.hid hN
              replace hz1 := Lib.hid hz1
              clear hnext hT2 hs2 hfi
              cases vk with
              | true =>
                go_wp2_with fail
                refine HS.out.mono ?_
                rintro e w2 ⟨rfl, rfl⟩
                go_wp2_with fail
                go_roundw
                case rel => exact ⟨0 + 1, _, false, T2, by omega, by go_num, (by rw [hle.out]; try rfl), rfl, by simp, hN.out, fun e => by have := of_decide_eq_true e; omega, by have := hz1.out; omega, by trivial⟩
                case measure => simp [intOf]; omega
              | false =>
                go_wp2_with fail
                refine HS.out.mono ?_
                rintro e w2 ⟨rfl, rfl⟩
                go_wp2_with fail
                go_roundw
                case rel => exact ⟨0 + 1, false, false, T2, by omega, by go_num, rfl, rfl, by simp, hN.out, fun e => (by cases e), by have := hz1.out; omega, by trivial⟩
                case measure => simp [intOf]; omega
            · have hfi' : first = false := by rw [hfi]; exact decide_eq_false hj0
              subst hfi'
              have hgt : (j : Int) > 0 := by omega
              have hcat : t ++ (⟨#[44]⟩ : ByteArray) ++ ((⟨#[32]⟩ : ByteArray) ++ sh) = t ++ (⟨#[44, 32]⟩ : ByteArray) ++ sh := by
                apply bys_inj
                simp only [bys_append, List.append_assoc]
                rfl
              have hz1 : (t ++ (⟨#[44, 32]⟩ : ByteArray) ++ sh).size = t.size + 2 + sh.size := by rw [ByteArray.size_append, ByteArray.size_append]; rfl
              have hN := hnext.out (⟨#[44, 32]⟩ : ByteArray) rfl
              obtain ⟨T2, hT2⟩ : ∃ T, t ++ (⟨#[44, 32]⟩ : ByteArray) ++ sh = T := ⟨_, rfl⟩
              rw [hT2] at hcat hz1 hN
              have hle : Hid (decide ((T2.size : Int) ≤ 20000) = decide (T2.size ≤ 20000)) := by show _ = _; rw [Bool.eq_iff_iff, decide_eq_true_eq, decide_eq_true_eq]; omega
              have hN := Lib.hid hN
              have hsz2 : (t ++ (⟨#[44]⟩ : ByteArray)).size ≤ 29001 := by rw [ByteArray.size_append]; omega
              replace hz1 := Lib.hid hz1
              clear hnext hT2 hs2 hfi
              cases vk with
              | true =>
                go_wp2_with fail
                refine HS.out.mono ?_
                rintro e w2 ⟨rfl, rfl⟩
                go_wp2_with fail
                go_roundw
                case rel => exact ⟨j + 1, _, false, T2, by omega, by go_num, (by rw [hle.out]; try rfl), rfl, by simp, hN.out, fun e => by have := of_decide_eq_true e; omega, by have := hz1.out; omega, by trivial⟩
                case measure => simp [intOf]; omega
              | false =>
                go_wp2_with fail
                refine HS.out.mono ?_
                rintro e w2 ⟨rfl, rfl⟩
                go_wp2_with fail
                go_roundw
                case rel => exact ⟨j + 1, false, false, T2, by omega, by go_num, rfl, rfl, by simp, hN.out, fun e => (by cases e), by have := hz1.out; omega, by trivial⟩
                case measure => simp [intOf]; omega
          · obtain rfl : j = vn := by omega
            have hd : f.vals.drop j = [] := List.drop_of_length_le (by rw [SLV.out.len]; exact Nat.le_refl _)
            have hN : Hid (PrS A X true (t ++ (⟨#[59, 10]⟩ : ByteArray)) [] true) := by
              show PrS _ _ _ _ _ _
              refine PrS.text _ ?_
              have := hP.out
              rw [hd] at this
              rw [List.append_nil]
              cases first <;> exact this
            clear hd
            go_wp2_with fail
            go_ret2
            exact ⟨⟨t ++ (⟨#[59, 10]⟩ : ByteArray), true, rfl, hN.out, by rw [ByteArray.size_append]; omega⟩, by first | exact HB.out | (rw [hfb]; exact HB.out)⟩
        | false =>
          have hN : Hid (PrS A X false (t ++ (⟨#[59, 10]⟩ : ByteArray)) [] true) := PrS.bad (hP.out.no rfl) _ _ _
          go_wp2_with fail
          all_goals
            go_ret2
            exact ⟨⟨t ++ (⟨#[59, 10]⟩ : ByteArray), false, rfl, hN.out, by rw [ByteArray.size_append]; omega⟩, by first | exact HB.out | (rw [hfb]; exact HB.out)⟩
end Go.Proofs.Ytfknckbclddnmaa

/-
  electionref07.Print.
-/
namespace Go.Proofs.Ytfknckbclddnmaa
open Go.RowKit Lx

namespace Lx
theorem PrS.fld {A lok r : Bool} {X rest : List UInt8} {t lt : ByteArray} {f : Fld} (h : PrS A X true t (fldP f ++ rest) (fldOk f && r)) (hl : PrS (fldOk f) (fldP f) lok lt [] true) : PrS A X lok (t ++ lt) rest r := by
  obtain ⟨h1, h2⟩ := h.yes rfl
  cases lok with
  | false =>
    refine PrS.bad ?_ _ _ _
    rcases hl.no rfl with h3 | h3
    · exact Or.inl (by rw [h1, h3]; rfl)
    · refine Or.inr ?_
      rw [← h2, List.length_append, List.length_append]
      omega
  | true =>
    obtain ⟨h3, h4⟩ := hl.yes rfl
    refine ⟨fun _ => ⟨by rw [h1, h3]; rfl, ?_⟩, fun e => (by cases e)⟩
    rw [List.append_nil] at h4
    rw [bys_append, h4, List.append_assoc]
    exact h2
theorem nil_text {l : List UInt8} {N : ByteArray} (h : stg l = N) : (l = [] → N.toList = []) ∧ (l ≠ [] → ¬ N.toList = []) := by
  subst h
  rw [toList_bys, bys_stg]
  exact ⟨fun e => e, fun e => e⟩
/-- Whether the title can be printed, and the text up to the blocks. -/
theorem title_start (s : Src) (hs : s.title.length ≤ 1000) : ∃ (Q : ByteArray) (ok : Bool), quoV s.title = (Q, ok) ∧ Q.size ≤ 2002 ∧ PrS (srcOk s) (srcP s) ok (⟨#[101, 108, 101, 99, 116, 105, 111, 110, 32]⟩ ++ Q ++ ⟨#[32, 123, 10]⟩) (blksR s.blks) (s.blks.all blkOk) := by
  cases hp : s.title.all plainB with
  | true =>
    have h1 : quoV s.title = (stg (quoP s.title), true) := quoV_yes hp
    refine ⟨_, _, h1, ?_, fun _ => ⟨?_, ?_⟩, fun e => (by cases e)⟩
    · rw [stg_size]
      have := Lx.esc_len s.title
      unfold quoP
      simp only [List.length_append, List.length_cons, List.length_nil]
      omega
    · rw [srcOk_rest, hp]; rfl
    · rw [srcP_rest, bys_append, bys_append, bys_stg, List.append_assoc, List.append_assoc]
      rfl
  | false =>
    exact ⟨_, _, quoV_no hp, Nat.zero_le _, PrS.bad (Or.inl (by rw [srcOk_rest, hp]; rfl)) _ _ _⟩
end Lx
/-- What the reference's Print hands back, by the text so far. -/
theorem print_end {s : Src} {t : ByteArray} {ok : Bool} (h : PrS (srcOk s) (srcP s) ok t [] true) : PrintOut s (.returned (.tuple #[.string (if ok && decide (t.size ≤ 20000) then t else ⟨#[]⟩), .bool (ok && decide (t.size ≤ 20000))])) := by
  have h2 := h.lim
  unfold PrintOut
  cases hb : (ok && decide (t.size ≤ 20000)) with
  | true =>
    rw [Bool.and_eq_true, decide_eq_true_eq] at hb
    obtain ⟨h3, h4⟩ := h.yes hb.1
    rw [List.append_nil] at h4
    have h5 : okP s = true := by
      unfold okP
      rw [h3, ← h4, bys_len, decide_eq_true hb.2]
      rfl
    rw [h5, if_pos rfl, if_pos rfl, ← h4, stg_bys]
  | false =>
    have h5 : okP s = false := by
      rw [hb] at h2
      unfold okP
      rcases h2.no rfl with h3 | h3
      · rw [h3]; rfl
      · rw [decide_eq_false (by omega), Bool.and_false]
    rw [h5, if_neg (by decide), if_neg (by decide)]

set_option maxHeartbeats 12800000 in
set_option maxRecDepth 100000 in
theorem rPrint_c (q0 : Bool) (s : Src) (fo : Option Addr) (fn fc : Nat) (w : World) (FL : BlkL q0 anyF w fo fn fc s.blks) (hsm : shortS s) :
    Calls Try.prog 15 #[.agg #[.string (stg s.title), .slice fo fn fc]] w fun e w' => PrintOut s e ∧ Below w.heap.size w w' := by
  obtain ⟨V, e1, AV, BV, hz⟩ := new_box w 24 [.string (stg s.title), .slice fo fn fc]
  obtain ⟨hcap, hroom⟩ := FL.caps
  obtain ⟨Q, okq, hq, hQs, hP0⟩ := title_start s hsm.1
  have HQ := refquote_c (stg s.title) V (by rw [stg_size]; have := hsm.1; omega)
  rw [bys_stg, hq] at HQ
  replace HQ := Lib.hid HQ
  have y0 : V.cell? ⟨w.heap.size, 0, none⟩ = some (.string (stg s.title)) := AV.cell 0
  obtain ⟨KT, hKT⟩ : ∃ x, stg s.title = x := ⟨_, rfl⟩
  rw [hKT] at y0 e1 HQ AV ⊢
  have m9 : (⟨#[101, 108, 101, 99, 116, 105, 111, 110, 32]⟩ : ByteArray).size = 9 := rfl
  have m3 : (⟨#[32, 123, 10]⟩ : ByteArray).size = 3 := rfl
  have m2 : (⟨#[32, 32]⟩ : ByteArray).size = 2 := rfl
  have m1 : (⟨#[32]⟩ : ByteArray).size = 1 := rfl
  have m4 : (⟨#[32, 32, 125, 10]⟩ : ByteArray).size = 4 := rfl
  have m5 : (⟨#[125, 10]⟩ : ByteArray).size = 2 := rfl
  obtain ⟨E1, hE1⟩ : ∃ x, (⟨#[101, 108, 101, 99, 116, 105, 111, 110, 32]⟩ : ByteArray) ++ Q = x := ⟨_, rfl⟩
  have hE1s : E1.size ≤ 2011 := by rw [← hE1, ByteArray.size_append]; omega
  rw [hE1] at hP0
  obtain ⟨E2, hE2⟩ : ∃ x, E1 ++ (⟨#[32, 123, 10]⟩ : ByteArray) = x := ⟨_, rfl⟩
  have hE2s : Hid (E2.size ≤ 2014) := by show _ ≤ _; rw [← hE2, ByteArray.size_append]; omega
  rw [hE2] at hP0
  replace hP0 := Lib.hid hP0
  have hsB := Lib.hid hsm.2
  have FLV := Lib.hid (BlkL.keep FL stable_any (keeps_below _ BV))
  have HBV := Lib.hid BV
  have AV := Lib.hid AV
  clear hz BV FL hq hsm hKT
  go_enter Try.func15, Try.ntmps15
  go_wp2_with fail
  refine HQ.out.mono ?_
  rintro e w1 ⟨rfl, rfl⟩
  go_wp2_with fail
  clear e1 y0 hE1 hE2 hE1s hQs
  go_loopw [5, 6, 7, 8, 9, 10, 11] (fun okv tv iv _ _ _ _ wr => ∃ (j : Nat) (ok : Bool) (t : ByteArray), j ≤ fn ∧ iv = .int .i64 (j : Int) ∧ okv = .bool ok ∧ tv = .string t ∧ PrS (srcOk s) (srcP s) ok t (blksR (s.blks.drop j)) ((s.blks.drop j).all blkOk) ∧ (ok = true → t.size ≤ 20000) ∧ t.size ≤ 60004 ∧ Below V.heap.size V wr) (fun _ _ iv _ _ _ _ _ => fn - (intOf iv).toNat)
  case atStart => exact ⟨0, okq, E2, Nat.zero_le _, rfl, rfl, rfl, hP0.out, fun _ => by have := hE2s.out; omega, by have := hE2s.out; omega, Below.refl _ _⟩
  case round =>
    obtain ⟨v1, hv1⟩ : ∃ x, x = wr := ⟨_, rfl⟩
    subst hv1
    clear hP0 hE2s
    obtain ⟨j, ok, T, hj, rfl, rfl, rfl, hP, hs1, hs2, B⟩ := hrel
    replace hP := Lib.hid hP
    replace hs1 := Lib.hid hs1
    have y1 : v1.cell? ⟨w.heap.size, 1, none⟩ = some (.slice fo fn fc) := (AV.out.kept B).cell 1
    have HB1 : Hid (Below w.heap.size w v1) := HBV.out.trans (B.mono HBV.out.size)
    cases ok with
    | false =>
      obtain ⟨T3, hT3⟩ : ∃ x, T ++ (⟨#[125, 10]⟩ : ByteArray) = x := ⟨_, rfl⟩
      have hN : Hid (PrintOut s (.returned (.tuple #[.string ⟨#[]⟩, .bool false]))) := print_end (PrS.bad (hP.out.no rfl) T3 [] true)
      go_wp2_with fail
      all_goals
        go_ret2
        exact ⟨hN.out, HB1.out⟩
    | true =>
      by_cases hlt : j < fn
      · have hlt' : (j : Int) < (fn : Int) := by omega
        obtain ⟨x, a1, fo', fn', fc', z, hx, i1, p0, p1, p2, p3, FLb, _⟩ := (BlkL.keep FLV.out stable_any (keeps_below _ B)).get j hlt
        obtain ⟨hfc, hfr⟩ := FLb.caps
        have hxs := hsB.out x (List.mem_of_getElem? hx)
        have hd := get_drop hx
        obtain ⟨R1, hR1⟩ : ∃ R, Hid (blksR (s.blks.drop (j + 1)) = R) := ⟨_, rfl⟩
        obtain ⟨r1, hr1⟩ : ∃ r, Hid ((s.blks.drop (j + 1)).all blkOk = r) := ⟨_, rfl⟩
        obtain ⟨kb, hkb⟩ : ∃ b, wordB x.kind = b := ⟨_, rfl⟩
        obtain ⟨nb, hnb⟩ : ∃ b, wordB x.name = b := ⟨_, rfl⟩
        obtain ⟨p, hp⟩ : ∃ b, Hid ((kb && (decide (x.name = []) || nb)) = b) := ⟨_, rfl⟩
        -- the texts
        have hP1 : PrS (srcOk s) (srcP s) p T ([32, 32] ++ (x.kind ++ (nameP x.name ++ ([32, 123, 10] ++ (fldsR x.flds ++ R1))))) (x.flds.all fldOk && r1) := by
          have h1 := hP.out
          rw [hd, List.all_cons, blkOk_rest, hkb, hnb] at h1
          have h2 : PrS (srcOk s) (srcP s) true T ([32, 32] ++ (x.kind ++ (nameP x.name ++ ([32, 123, 10] ++ (fldsR x.flds ++ R1))))) (p && (x.flds.all fldOk && r1)) := by
            rw [← hp.out, ← hr1.out, ← hR1.out]
            unfold blksR at h1 ⊢
            rw [List.flatMap_cons, blkP_rest] at h1
            simpa only [List.append_assoc, Bool.and_assoc, Bool.true_and] using h1
          have h3 := h2.cond
          rwa [Bool.true_and] at h3
        obtain ⟨Kd, hKd⟩ : ∃ S, stg x.kind = S := ⟨_, rfl⟩
        obtain ⟨N, hN⟩ : ∃ S, stg x.name = S := ⟨_, rfl⟩
        have hKs : Kd.size ≤ 1000 := by rw [← hKd, stg_size]; exact hxs.1
        have hNs : N.size ≤ 1000 := by rw [← hN, stg_size]; exact hxs.2.1
        have hs1' := hs1.out rfl
        obtain ⟨KK, hKK⟩ : ∃ y, (⟨#[32, 32]⟩ : ByteArray) ++ Kd = y := ⟨_, rfl⟩
        have hKKs : KK.size ≤ 1002 := by rw [← hKK, ByteArray.size_append]; omega
        obtain ⟨T2, hT2⟩ : ∃ y, T ++ KK = y := ⟨_, rfl⟩
        have hT2s : T2.size ≤ 21002 := by rw [← hT2, ByteArray.size_append]; omega
        obtain ⟨NN, hNN⟩ : ∃ y, (⟨#[32]⟩ : ByteArray) ++ N = y := ⟨_, rfl⟩
        have hNNs : NN.size ≤ 1001 := by rw [← hNN, ByteArray.size_append]; omega
        obtain ⟨T3, hT3⟩ : ∃ y, Hid ((if x.name = [] then T2 else T2 ++ NN) = y) := ⟨_, rfl⟩
        have hT3s : T3.size ≤ 22003 := by
          rw [← hT3.out]
          split
          · omega
          · rw [ByteArray.size_append]; omega
        obtain ⟨T4, hT4⟩ : ∃ y, T3 ++ (⟨#[32, 123, 10]⟩ : ByteArray) = y := ⟨_, rfl⟩
        have hT4s : T4.size ≤ 22006 := by rw [← hT4, ByteArray.size_append]; omega
        have hP4 : Hid (PrS (srcOk s) (srcP s) p T4 (fldsR x.flds ++ R1) (x.flds.all fldOk && r1)) := by
          show PrS _ _ _ _ _ _
          have h1 : PrS (srcOk s) (srcP s) p T2 (nameP x.name ++ ([32, 123, 10] ++ (fldsR x.flds ++ R1))) (x.flds.all fldOk && r1) := by
            rw [← hT2, ← hKK]
            refine PrS.text _ ?_
            rw [bys_append, ← hKd, bys_stg, List.append_assoc]
            exact hP1
          rw [← hT4]
          refine PrS.text _ ?_
          rw [← hT3.out]
          by_cases h0 : x.name = []
          · rw [if_pos h0]
            rw [h0] at h1
            exact h1
          · rw [if_neg h0, ← hNN]
            refine PrS.text _ ?_
            rw [bys_append, ← hN, bys_stg, List.append_assoc]
            have h2 : nameP x.name = [32] ++ x.name := by unfold nameP; rw [if_neg h0]; rfl
            rw [h2, List.append_assoc] at h1
            exact h1
        have HK := refWord_c Kd
        have HN := refWord_c N
        rw [← hKd, bys_stg, hkb, hKd] at HK
        rw [← hN, bys_stg, hnb, hN] at HN
        rw [hKd] at p0
        rw [hN] at p1
        obtain ⟨hne, hne2⟩ := nil_text hN
        replace hne := Lib.hid hne
        replace hne2 := Lib.hid hne2
        obtain ⟨V1, W1, e1, e2, AW, BW, zW, f0, f1, f2, f3, f4, f5, f6, f7⟩ := new_put4 v1 39 (.string ⟨#[]⟩) (.string ⟨#[]⟩) (.slice none 0 0) (.int .i64 0) (.string Kd) (.string N) (.slice fo' fn' fc') (.int .i64 z)
        have c0 : W1.cell? ⟨v1.heap.size, 0, none⟩ = some (.string Kd) := AW.cell 0
        have c1 : W1.cell? ⟨v1.heap.size, 1, none⟩ = some (.string N) := AW.cell 1
        have FLb := Lib.hid (FldL.keep FLb stable_any (keeps_below _ BW))
        have HBx : Hid (Below V.heap.size V W1) := B.trans (BW.mono B.size)
        have AW := Lib.hid AW
        have hxs := Lib.hid hxs.2.2
        have HK := Lib.hid (HK W1 (by omega))
        have HN := Lib.hid (HN W1 (by omega))
        have hT4s := Lib.hid hT4s
        clear hP hP1 hs1 hd hx BW zW hKd hN hkb hnb B HB1
        go_upto_region 7 with fail
        clear e1 e2 f0 f1 f2 f3 f4 f5 f6 f7 p0 p1 p2 p3 i1 y1
        go_cut [5] from 21 to 99 (fun s5 wx => s5 = .bool p ∧ wx = W1)
        case first =>
          clear hKK hT2 hNN hT4 hP4
          by_cases h0 : x.name = []
          · have g0 := hne.out h0
            have g1 : N.toList.isEmpty = true := by rw [g0]; rfl
            rw [decide_eq_true h0] at hp
            clear h0
            cases kb with
            | true =>
              go_wp2_with fail
              refine HK.out.mono ?_
              rintro e w5 ⟨rfl, rfl⟩
              go_wp2_with fail
              go_meet
              exact ⟨by rw [← hp.out]; rfl, rfl⟩
            | false =>
              go_wp2_with fail
              refine HK.out.mono ?_
              rintro e w5 ⟨rfl, rfl⟩
              go_wp2_with fail
              go_meet
              exact ⟨by rw [← hp.out]; rfl, rfl⟩
          · have g0 := hne2.out h0
            have g1 : N.toList.isEmpty = false := by rw [List.isEmpty_eq_false_iff]; exact g0
            rw [decide_eq_false h0] at hp
            clear h0
            cases kb with
            | true =>
              go_wp2_with fail
              refine HK.out.mono ?_
              rintro e w5 ⟨rfl, rfl⟩
              go_wp2_with fail
              refine HN.out.mono ?_
              rintro e w5 ⟨rfl, rfl⟩
              go_wp2_with fail
              go_meet
              exact ⟨by rw [← hp.out]; rfl, rfl⟩
            | false =>
              go_wp2_with fail
              refine HK.out.mono ?_
              rintro e w5 ⟨rfl, rfl⟩
              go_wp2_with fail
              go_meet
              exact ⟨by rw [← hp.out]; rfl, rfl⟩
        case rest =>
        obtain ⟨rfl, hwc⟩ := hcut
        subst hwc
        clear HK HN hp
        obtain ⟨eb, heb⟩ : ∃ b, N.toList.isEmpty = b := ⟨_, rfl⟩
        have heq : Hid (x.name = [] ↔ eb = true) := by
          show _ ↔ _
          rw [← heb, List.isEmpty_iff]
          exact ⟨fun e => hne.out e, fun e => Classical.byContradiction fun h => hne2.out h e⟩
        go_upto_if 56 with fail
        clear hKK hT2 hKs hKKs heb
        go_cut [6] from 21 to 99 (fun s6 wx => s6 = .string T3 ∧ wx = wc)
        case first =>
          clear hT4 hP4
          cases eb with
          | true =>
            rw [if_pos (heq.out.2 rfl)] at hT3
            go_wp2_with fail
            go_meet
            exact ⟨by rw [hT3.out], rfl⟩
          | false =>
            rw [if_neg (fun e => Bool.false_ne_true (heq.out.1 e))] at hT3
            go_wp2_with fail
            go_meet
            exact ⟨by rw [← hT3.out], rfl⟩
        case rest =>
        obtain ⟨rfl, hwc⟩ := hcut
        clear hne hne2 hNN hT3 hNNs hNs hT2s heq
        subst hwc
        have c2 : wc.cell? ⟨v1.heap.size, 2, none⟩ = some (.slice fo' fn' fc') := AW.out.cell 2
        go_wp2_with fail
        clear hT4 c2
        go_loopw [5, 6, 9, 10, 11] (fun okv tv kv _ _ wr => ∃ (k : Nat) (ok : Bool) (t : ByteArray), k ≤ fn' ∧ kv = .int .i64 (k : Int) ∧ okv = .bool ok ∧ tv = .string t ∧ PrS (srcOk s) (srcP s) ok t (fldsR (x.flds.drop k) ++ R1) ((x.flds.drop k).all fldOk && r1) ∧ (ok = true → t.size ≤ 23000) ∧ t.size ≤ 53000 ∧ Below wc.heap.size wc wr) (fun _ _ kv _ _ _ => fn' - (intOf kv).toNat)
        case atStart => exact ⟨0, p, T4, Nat.zero_le _, rfl, rfl, rfl, hP4.out, fun _ => by have := hT4s.out; omega, by have := hT4s.out; omega, Below.refl _ _⟩
        case round =>
          obtain ⟨v2, hv2⟩ : ∃ y, y = wr := ⟨_, rfl⟩
          subst hv2
          clear hP4 hT4s hT3s
          obtain ⟨k, ok, T5, hk, rfl, rfl, rfl, hP5, ht1, ht2, B5⟩ := hrel
          replace hP5 := Lib.hid hP5
          replace ht1 := Lib.hid ht1
          have c2 : v2.cell? ⟨v1.heap.size, 2, none⟩ = some (.slice fo' fn' fc') := (AW.out.kept B5).cell 2
          have HB5 : Hid (Below V.heap.size V v2) := HBx.out.trans (B5.mono HBx.out.size)
          cases ok with
          | false =>
            obtain ⟨T6, hT6⟩ : ∃ y, T5 ++ (⟨#[32, 32, 125, 10]⟩ : ByteArray) = y := ⟨_, rfl⟩
            have hT6s : T6.size ≤ 53004 := by rw [← hT6, ByteArray.size_append]; omega
            have hN6 : Hid (PrS (srcOk s) (srcP s) false T6 (blksR (s.blks.drop (j + 1))) ((s.blks.drop (j + 1)).all blkOk)) := PrS.bad (hP5.out.no rfl) _ _ _
            clear B5
            go_wp2_with fail
            all_goals
              go_roundw
              case rel => exact ⟨j + 1, false, T6, by omega, by go_num, rfl, rfl, hN6.out, fun e => (by cases e), by omega, HB5.out⟩
              case measure => simp [intOf]; omega
          | true =>
            have ht1' := ht1.out rfl
            by_cases hmt : k < fn'
            · have hmt' : (k : Int) < (fn' : Int) := by omega
              obtain ⟨f, a3, vo, vn, vc, u, hf, i3, s0, s1, s2, SL, _⟩ := (FldL.keep FLb.out stable_any (keeps_below _ B5)).get k hmt
              have hdf := get_drop hf
              have HL := Lib.hid (rLine_c f vo vn vc u v2 SL (hxs.out f (List.mem_of_getElem? hf)))
              have hP6 : Hid (PrS (srcOk s) (srcP s) true T5 (fldP f ++ (fldsR (x.flds.drop (k + 1)) ++ R1)) (fldOk f && ((x.flds.drop (k + 1)).all fldOk && r1))) := by
                show PrS _ _ _ _ _ _
                have h1 := hP5.out
                rw [hdf, List.all_cons] at h1
                unfold fldsR at h1 ⊢
                rw [List.flatMap_cons] at h1
                simpa only [List.append_assoc, Bool.and_assoc] using h1
              clear hf hdf SL hP5
              go_wp2_with fail
              clear c2 s0 s1 s2 i3
              refine HL.out.mono ?_
              rintro e w5 ⟨⟨lt, lok, rfl, hPl, hls⟩, B6⟩
              obtain ⟨T6, hT6⟩ : ∃ y, T5 ++ lt = y := ⟨_, rfl⟩
              have hT6s : T6.size ≤ 53000 := by rw [← hT6, ByteArray.size_append]; omega
              have hN6 := PrS.fld hP6.out hPl
              rw [hT6] at hN6
              have HB6 : Hid (Below wc.heap.size wc w5) := B5.trans (B6.mono B5.size)
              clear B5 B6 hP6 hPl HL
              cases lok with
              | false =>
                replace hN6 := Lib.hid hN6
                go_wp2_with fail
                go_roundw
                case rel => exact ⟨k + 1, false, T6, by omega, by go_num, rfl, rfl, hN6.out, fun e => (by cases e), hT6s, HB6.out⟩
                case measure => simp [intOf]; omega
              | true =>
                have hN7 := Lib.hid hN6.lim
                have hle : Hid (decide ((T6.size : Int) ≤ 20000) = (true && decide (T6.size ≤ 20000))) := by show _ = _; rw [Bool.true_and, Bool.eq_iff_iff, decide_eq_true_eq, decide_eq_true_eq]; omega
                clear hN6
                go_wp2_with fail
                go_roundw
                case rel => exact ⟨k + 1, _, T6, by omega, by go_num, (by rw [hle.out]), rfl, hN7.out, fun e => by rw [Bool.true_and, decide_eq_true_eq] at e; omega, hT6s, HB6.out⟩
                case measure => simp [intOf]; omega
            · have hmn : ¬ (k : Int) < (fn' : Int) := by omega
              obtain ⟨T6, hT6⟩ : ∃ y, T5 ++ (⟨#[32, 32, 125, 10]⟩ : ByteArray) = y := ⟨_, rfl⟩
              have hT6s : T6.size ≤ 53004 := by rw [← hT6, ByteArray.size_append]; omega
              have hdf : x.flds.drop k = [] := List.drop_of_length_le (by rw [FLb.out.len]; omega)
              have hN6 : PrS (srcOk s) (srcP s) true T6 (blksR (s.blks.drop (j + 1))) ((s.blks.drop (j + 1)).all blkOk) := by
                rw [← hT6, hR1.out, hr1.out]
                refine PrS.text _ ?_
                have h1 := hP5.out
                rw [hdf] at h1
                exact h1
              have hN7 := Lib.hid hN6.lim
              have hle : Hid (decide ((T6.size : Int) ≤ 20000) = (true && decide (T6.size ≤ 20000))) := by show _ = _; rw [Bool.true_and, Bool.eq_iff_iff, decide_eq_true_eq, decide_eq_true_eq]; omega
              clear hN6 hdf hP5 B5
              go_wp2_with fail
              go_roundw
              case rel => exact ⟨j + 1, _, T6, by omega, by go_num, (by rw [hle.out]), rfl, hN7.out, fun e => by rw [Bool.true_and, decide_eq_true_eq] at e; omega, by omega, HB5.out⟩
              case measure => simp [intOf]; omega

      · have hjn : ¬ (j : Int) < (fn : Int) := by omega
        have hd : s.blks.drop j = [] := List.drop_of_length_le (by rw [FLV.out.len]; omega)
        obtain ⟨T3, hT3⟩ : ∃ x, T ++ (⟨#[125, 10]⟩ : ByteArray) = x := ⟨_, rfl⟩
        have hN := hP.out
        rw [hd] at hN
        have hN2 : PrS (srcOk s) (srcP s) true T3 [] true := by rw [← hT3]; exact PrS.text _ hN
        have hN3 := print_end hN2
        rw [Bool.true_and] at hN3
        have hs1' := hs1.out rfl
        clear hN hN2 hd B
        by_cases hb : T3.size ≤ 20000
        · have hb2 : (T3.size : Int) ≤ 20000 := by omega
          rw [decide_eq_true hb, if_pos rfl] at hN3
          replace hN3 := Lib.hid hN3
          go_wp2_with fail
          go_ret2
          exact ⟨hN3.out, HB1.out⟩
        · have hb2 : (20000 : Int) < (T3.size : Int) := by omega
          rw [decide_eq_false hb, if_neg (by decide)] at hN3
          replace hN3 := Lib.hid hN3
          go_wp2_with fail
          go_ret2
          exact ⟨hN3.out, HB1.out⟩
end Go.Proofs.Ytfknckbclddnmaa
