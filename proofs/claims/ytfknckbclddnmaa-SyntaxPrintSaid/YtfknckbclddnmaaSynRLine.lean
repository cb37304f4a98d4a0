/-
  electionref07.line.
-/
import Derived.Test.YtfknckbclddnmaaSynShown
import Derived.Test.YtfknckbclddnmaaSynPrB
namespace Go.Proofs.Ytfknckbclddnmaa
open Go.RowKit Lx

namespace Lx
/-- While the reference prints: A: can it be printed; X: the text; ok, t: so far; rest, r: what follows. -/
structure PrS (A : Bool) (X : List UInt8) (ok : Bool) (t : ByteArray) (rest : List UInt8) (r : Bool) : Prop where
  yes : ok = true → A = r ∧ bys t ++ rest = X
  no : ok = false → A = false ∨ 20000 < X.length
section
variable {A ok r p : Bool} {X rest : List UInt8} {t : ByteArray}
theorem PrS.text (a : ByteArray) (h : PrS A X ok t (bys a ++ rest) r) : PrS A X ok (t ++ a) rest r :=
  ⟨fun e => ⟨(h.yes e).1, by rw [bys_append, List.append_assoc]; exact (h.yes e).2⟩, h.no⟩
theorem PrS.cond (h : PrS A X ok t rest (p && r)) : PrS A X (ok && p) t rest r := by
  cases ok with
  | false => exact ⟨fun e => (by cases e), fun _ => h.no rfl⟩
  | true =>
    cases p with
    | true => exact ⟨fun _ => h.yes rfl, fun e => (by cases e)⟩
    | false => exact ⟨fun e => (by cases e), fun _ => Or.inl (h.yes rfl).1⟩
theorem PrS.lim (h : PrS A X ok t rest r) : PrS A X (ok && decide (t.size ≤ 20000)) t rest r := by
  cases ok with
  | false => exact ⟨fun e => (by cases e), fun _ => h.no rfl⟩
  | true =>
    by_cases hs : t.size ≤ 20000
    · rw [decide_eq_true hs]; exact h
    · rw [decide_eq_false hs]
      refine ⟨fun e => (by cases e), fun _ => Or.inr ?_⟩
      have := (h.yes rfl).2
      rw [← this, List.length_append, bys_len]
      omega
theorem PrS.bad (h : A = false ∨ 20000 < X.length) (t : ByteArray) (rest : List UInt8) (r : Bool) : PrS A X false t rest r := ⟨fun e => (by cases e), fun _ => h⟩
end
/-- Texts of up to 1000 bytes. -/
def shortF (f : Fld) : Prop := f.key.length ≤ 1000 ∧ ∀ v ∈ f.vals, v.length ≤ 1000
def shortB (b : Blc) : Prop := b.kind.length ≤ 1000 ∧ b.name.length ≤ 1000 ∧ ∀ f ∈ b.flds, shortF f
def shortS (s : Src) : Prop := s.title.length ≤ 1000 ∧ ∀ b ∈ s.blks, shortB b
theorem valP_len2 (v : List UInt8) : (valP v).length ≤ 2 * v.length + 2 := by
  unfold valP
  split
  · omega
  · have := Lx.esc_len v
    unfold quoP
    simp only [List.length_append, List.length_cons, List.length_nil]
    omega
end Lx
/-- What line hands back. -/
def LineOut (A : Bool) (X : List UInt8) (e : Ending) : Prop := ∃ (t : ByteArray) (ok : Bool), e = .returned (.tuple #[.string t, .bool ok]) ∧ PrS A X ok t [] true ∧ t.size ≤ 30000
theorem stg_size (l : List UInt8) : (stg l).size = l.length := by rw [← bys_len, bys_stg]
set_option maxHeartbeats 3200000 in
set_option maxRecDepth 100000 in
theorem rLine_c (f : Fld) (vo : Option Addr) (vn vc : Nat) (z : Int) (w : World) (SL : StrL anyF w vo vn vc f.vals) (hsm : shortF f) :
    Calls Try.prog 27 #[.agg #[.string (stg f.key), .slice vo vn vc, .int .i64 z]] w fun e w' => LineOut (fldOk f) (fldP f) e ∧ Below w.heap.size w w' := by
  obtain ⟨V, e1, AV, BV, hz⟩ := new_box w 42 [.string (stg f.key), .slice vo vn vc, .int .i64 z]
  have hn := SL.len
  have hcap := Row.cap SL
  have hroom := Row.room SL
  have y0 : V.cell? ⟨w.heap.size, 0, none⟩ = some (.string (stg f.key)) := AV.cell 0
  have y1 : V.cell? ⟨w.heap.size, 1, none⟩ = some (.slice vo vn vc) := AV.cell 1
  obtain ⟨A, hA⟩ : ∃ A, Hid (fldOk f = A) := ⟨_, rfl⟩
  obtain ⟨X, hX⟩ : ∃ X, Hid (fldP f = X) := ⟨_, rfl⟩
  obtain ⟨fb, hfb⟩ : ∃ fb, w.heap.size = fb := ⟨_, rfl⟩
  have HB : Hid (Below fb w V) := by show Below _ _ _; rw [← hfb]; exact BV
  have SLV : StrL anyF V vo vn vc f.vals := Row.keep SL stable_any (keeps_below _ BV)
  have HW := refWord_c (stg f.key) V (by rw [stg_size]; have := hsm.1; omega)
  rw [bys_stg] at HW
  have hks : (stg f.key).size ≤ 1000 := by rw [stg_size]; exact hsm.1
  have m4 : (⟨#[32, 32, 32, 32]⟩ : ByteArray).size = 4 := rfl
  have m2 : (⟨#[59, 10]⟩ : ByteArray).size = 2 := rfl
  have m1 : (⟨#[44]⟩ : ByteArray).size = 1 := rfl
  have m1' : (⟨#[32]⟩ : ByteArray).size = 1 := rfl
  have hvs := hsm.2
  -- what is so before the loop
  obtain ⟨ok0, hok0⟩ : ∃ b, Hid ((wordB f.key && decide (0 < vn)) = b) := ⟨_, rfl⟩
  have hP0 : PrS A X ok0 (⟨#[32, 32, 32, 32]⟩ ++ stg f.key) (restT true f.vals) (f.vals.all valOk) := by
    rw [← hok0.out, ← hA.out, ← hX.out]
    by_cases h0 : f.vals = []
    · have : vn = 0 := by rw [← hn, h0]; rfl
      rw [this, show (decide (0 < 0)) = false by decide, Bool.and_false]
      refine PrS.bad (Or.inl ?_) _ _ _
      unfold fldOk
      rw [h0]
      simp
    · have hpos : 0 < vn := by
        rcases Nat.eq_zero_or_pos vn with h1 | h1
        · rw [h1] at hn; exact absurd (List.eq_nil_of_length_eq_zero hn) h0
        · exact h1
      rw [decide_eq_true hpos, Bool.and_true]
      cases hk : wordB f.key with
      | false =>
        refine PrS.bad (Or.inl ?_) _ _ _
        rw [fldOk_rest h0, hk]
        rfl
      | true =>
        refine ⟨fun _ => ⟨by rw [fldOk_rest h0, hk]; rfl, ?_⟩, fun e => by cases e⟩
        rw [fldP_rest h0, bys_append, bys_stg, List.append_assoc]
        rfl
  obtain ⟨kw, hkw⟩ : ∃ b, wordB f.key = b := ⟨_, rfl⟩
  rw [hkw] at HW hok0
  have hvn : decide ((vn : Int) > 0) = decide (0 < vn) := by rw [Bool.eq_iff_iff, decide_eq_true_eq, decide_eq_true_eq]; omega
  have HW := Lib.hid HW
  have hP0 := Lib.hid hP0
  have SLV : Hid (StrL anyF V vo vn vc f.vals) := SLV
  obtain ⟨KS, hKS⟩ : ∃ S, stg f.key = S := ⟨_, rfl⟩
  rw [hKS] at y0 hks HW hP0 e1 ⊢
  rw [hfb] at y0 y1
  rw [hA.out, hX.out]
  have hbd : Hid ((⟨#[32, 32, 32, 32]⟩ ++ KS : ByteArray).size ≤ 21004) := by show _ ≤ _; rw [ByteArray.size_append]; omega
  have hvs := Lib.hid hvs
  have hks2 : Hid (KS.size ≤ 1000) := hks
  clear hsm SL AV BV hz hA hX hkw hKS
  have main : ∀ (ok : Bool), ok0 = ok → True := fun _ _ => trivial
  clear main
  cases kw with
  | false =>
    have hok : ok0 = false := by rw [← hok0.out]; rfl
    subst hok
    go_enter Try.func27, Try.ntmps27
    go_wp2_with fail
    refine HW.out.mono ?_
    rintro e w1 ⟨rfl, rfl⟩
    go_wp2_with fail
    go_loopw [4, 5, 6, 7, 8] (fun okv tv iv _ _ wr => ∃ (j : Nat) (ok first : Bool) (t : ByteArray), j ≤ vn ∧ iv = .int .i64 (j : Int) ∧ okv = .bool ok ∧ tv = .string t ∧ first = decide (j = 0) ∧ PrS A X ok t (restT first (f.vals.drop j)) ((f.vals.drop j).all valOk) ∧ (ok = true → t.size ≤ 21004) ∧ t.size ≤ 29000 ∧ wr = V) (fun _ _ iv _ _ _ => vn - (intOf iv).toNat)
    case atStart => exact ⟨0, _, true, _, by omega, rfl, rfl, rfl, rfl, hP0.out, fun _ => hbd.out, by have := hbd.out; omega, rfl⟩
    case round =>
      clear hP0 hbd
      obtain ⟨j, ok, first, t, hj, rfl, rfl, rfl, hfi, hP, hs1, hs2, rfl⟩ := hrel
      have hP := Lib.hid hP
      have hs1 := Lib.hid hs1
      cases ok with
      | true =>
        by_cases hlt : j < vn
        · have hlt' : (j : Int) < (vn : Int) := by omega
          have x1 := StrL.ix' SLV.out j hlt
          obtain ⟨v, hv1⟩ : ∃ v, f.vals[j]? = some v := ⟨_, List.getElem?_eq_getElem (by rw [SLV.out.len]; exact hlt)⟩
          have a1 := SLV.out.at j v hv1
          have hvl : v.length ≤ 1000 := hvs.out v (List.mem_of_getElem? hv1)
          have hd := get_drop hv1
          have HS := shown_c (stg v) wr (by rw [stg_size]; omega)
          rw [bys_stg] at HS
          have hq := valP_len2 v
          have hs1' := hs1.out rfl
          obtain ⟨vk, hvk⟩ : ∃ b, valOk v = b := ⟨_, rfl⟩
          obtain ⟨sh, hsh⟩ : ∃ S, Hid ((if vk = true then stg (valP v) else ⟨#[]⟩ : ByteArray) = S) := ⟨_, rfl⟩
          rw [hvk, hsh.out] at HS
          have hshs : sh.size ≤ 2002 := by
            rw [← hsh.out]
            cases vk with
            | true => rw [if_pos rfl, stg_size]; omega
            | false => exact Nat.zero_le _
          have HS := Lib.hid HS
          -- what is so behind the round
          have hnext : Hid (∀ sep : ByteArray, sep = stg (sepT first) → PrS A X (vk && decide ((t ++ sep ++ sh).size ≤ 20000)) (t ++ sep ++ sh) (restT false (f.vals.drop (j + 1))) ((f.vals.drop (j + 1)).all valOk)) := by
            intro sep hsep
            have h1 := hP.out
            rw [hd, List.all_cons] at h1
            have h2 : PrS A X (true && vk) (t ++ sep) (valP v ++ restT false (f.vals.drop (j + 1))) ((f.vals.drop (j + 1)).all valOk) := by
              refine (PrS.text sep ?_).cond
              rw [hsep, bys_stg, ← hvk]
              exact h1
            rw [Bool.true_and] at h2
            cases vk with
            | false =>
              rw [Bool.false_and]
              exact PrS.bad (h2.no rfl) _ _ _
            | true =>
              have h3 : PrS A X true (t ++ sep ++ stg (valP v)) (restT false (f.vals.drop (j + 1))) ((f.vals.drop (j + 1)).all valOk) := PrS.text (stg (valP v)) (by rw [bys_stg]; exact h2)
              rw [← hsh.out, if_pos rfl]
              exact h3.lim
          clear hv1 hd hq hsh
          by_cases hj0 : j = 0
          · subst hj0
            rw [show ((0 : Nat) : Int) = 0 from rfl] at x1
            have hfi' : first = true := hfi
            subst hfi'
            have hcat : t ++ ((⟨#[32]⟩ : ByteArray) ++ sh) = t ++ (⟨#[32]⟩ : ByteArray) ++ sh := by
              apply bys_inj
              simp only [bys_append, List.append_assoc]
            have hz1 : (t ++ (⟨#[32]⟩ : ByteArray) ++ sh).size = t.size + 1 + sh.size := by rw [ByteArray.size_append, ByteArray.size_append]; omega
            have hN := hnext.out (⟨#[32]⟩ : ByteArray) rfl
            obtain ⟨T2, hT2⟩ : ∃ T, t ++ (⟨#[32]⟩ : ByteArray) ++ sh = T := ⟨_, rfl⟩
            rw [hT2] at hcat hz1 hN
            have hle : Hid (decide ((T2.size : Int) ≤ 20000) = decide (T2.size ≤ 20000)) := by show _ = _; rw [Bool.eq_iff_iff, decide_eq_true_eq, decide_eq_true_eq]; omega
            have hN := Lib.hid hN
            replace hz1 := Lib.hid hz1
            clear hnext hT2 hs2 hfi
            cases vk with
            | true =>
              go_wp2_with fail
              refine HS.out.mono ?_
              rintro e w2 ⟨rfl, rfl⟩
              go_wp2_with fail
              go_roundw
              case rel => exact ⟨0 + 1, _, false, T2, by omega, by go_num, (by rw [hle.out]; try rfl), rfl, by simp, hN.out, fun e => by have := of_decide_eq_true e; omega, by have := hz1.out; omega, by trivial⟩
              case measure => simp [intOf]; omega
            | false =>
              go_wp2_with fail
              refine HS.out.mono ?_
              rintro e w2 ⟨rfl, rfl⟩
              go_wp2_with fail
              go_roundw
              case rel => exact ⟨0 + 1, false, false, T2, by omega, by go_num, rfl, rfl, by simp, hN.out, fun e => (by cases e), by have := hz1.out; omega, by trivial⟩
              case measure => simp [intOf]; omega
          · have hfi' : first = false := by rw [hfi]; exact decide_eq_false hj0
            subst hfi'
            have hgt : (j : Int) > 0 := by omega
            have hcat : t ++ (⟨#[44]⟩ : ByteArray) ++ ((⟨#[32]⟩ : ByteArray) ++ sh) = t ++ (⟨#[44, 32]⟩ : ByteArray) ++ sh := by
              apply bys_inj
              simp only [bys_append, List.append_assoc]
              rfl
            have hz1 : (t ++ (⟨#[44, 32]⟩ : ByteArray) ++ sh).size = t.size + 2 + sh.size := by rw [ByteArray.size_append, ByteArray.size_append]; rfl
            have hN := hnext.out (⟨#[44, 32]⟩ : ByteArray) rfl
            obtain ⟨T2, hT2⟩ : ∃ T, t ++ (⟨#[44, 32]⟩ : ByteArray) ++ sh = T := ⟨_, rfl⟩
            rw [hT2] at hcat hz1 hN
            have hle : Hid (decide ((T2.size : Int) ≤ 20000) = decide (T2.size ≤ 20000)) := by show _ = _; rw [Bool.eq_iff_iff, decide_eq_true_eq, decide_eq_true_eq]; omega
            have hN := Lib.hid hN
            have hsz2 : (t ++ (⟨#[44]⟩ : ByteArray)).size ≤ 29001 := by rw [ByteArray.size_append]; omega
            replace hz1 := Lib.hid hz1
            clear hnext hT2 hs2 hfi
            cases vk with
            | true =>
              go_wp2_with fail
              refine HS.out.mono ?_
              rintro e w2 ⟨rfl, rfl⟩
              go_wp2_with fail
              go_roundw
              case rel => exact ⟨j + 1, _, false, T2, by omega, by go_num, (by rw [hle.out]; try rfl), rfl, by simp, hN.out, fun e => by have := of_decide_eq_true e; omega, by have := hz1.out; omega, by trivial⟩
              case measure => simp [intOf]; omega
            | false =>
              go_wp2_with fail
              refine HS.out.mono ?_
              rintro e w2 ⟨rfl, rfl⟩
              go_wp2_with fail
              go_roundw
              case rel => exact ⟨j + 1, false, false, T2, by omega, by go_num, rfl, rfl, by simp, hN.out, fun e => (by cases e), by have := hz1.out; omega, by trivial⟩
              case measure => simp [intOf]; omega
        · obtain rfl : j = vn := by omega
          have hd : f.vals.drop j = [] := List.drop_of_length_le (by rw [SLV.out.len]; exact Nat.le_refl _)
          have hN : Hid (PrS A X true (t ++ (⟨#[59, 10]⟩ : ByteArray)) [] true) := by
            show PrS _ _ _ _ _ _
            refine PrS.text _ ?_
            have := hP.out
            rw [hd] at this
            rw [List.append_nil]
            cases first <;> exact this
          clear hd
          go_wp2_with fail
          go_ret2
          exact ⟨⟨t ++ (⟨#[59, 10]⟩ : ByteArray), true, rfl, hN.out, by rw [ByteArray.size_append]; omega⟩, by first | exact HB.out | (rw [hfb]; exact HB.out)⟩
      | false =>
        have hN : Hid (PrS A X false (t ++ (⟨#[59, 10]⟩ : ByteArray)) [] true) := PrS.bad (hP.out.no rfl) _ _ _
        go_wp2_with fail
        all_goals
          go_ret2
          exact ⟨⟨t ++ (⟨#[59, 10]⟩ : ByteArray), false, rfl, hN.out, by rw [ByteArray.size_append]; omega⟩, by first | exact HB.out | (rw [hfb]; exact HB.out)⟩
  | true =>
    cases hv0 : decide (0 < vn) with
    | false =>
      have hok : ok0 = false := by rw [← hok0.out, hv0]; rfl
      have hv1 : ¬ 0 < vn := of_decide_eq_false hv0
      subst hok
      clear hv0 hvn
      go_enter Try.func27, Try.ntmps27
      go_wp2_with fail
      refine HW.out.mono ?_
      rintro e w1 ⟨rfl, rfl⟩
      go_wp2_with fail
      go_loopw [4, 5, 6, 7, 8] (fun okv tv iv _ _ wr => ∃ (j : Nat) (ok first : Bool) (t : ByteArray), j ≤ vn ∧ iv = .int .i64 (j : Int) ∧ okv = .bool ok ∧ tv = .string t ∧ first = decide (j = 0) ∧ PrS A X ok t (restT first (f.vals.drop j)) ((f.vals.drop j).all valOk) ∧ (ok = true → t.size ≤ 21004) ∧ t.size ≤ 29000 ∧ wr = V) (fun _ _ iv _ _ _ => vn - (intOf iv).toNat)
      case atStart => exact ⟨0, _, true, _, by omega, rfl, rfl, rfl, rfl, hP0.out, fun _ => hbd.out, by have := hbd.out; omega, rfl⟩
      case round =>
        clear hP0 hbd
        obtain ⟨j, ok, first, t, hj, rfl, rfl, rfl, hfi, hP, hs1, hs2, rfl⟩ := hrel
        have hP := Lib.hid hP
        have hs1 := Lib.hid hs1
        cases ok with
        | true =>
          by_cases hlt : j < vn
          · exact absurd hlt (by omega)
          · obtain rfl : j = vn := by omega
            have hd : f.vals.drop j = [] := List.drop_of_length_le (by rw [SLV.out.len]; exact Nat.le_refl _)
            have hN : Hid (PrS A X true (t ++ (⟨#[59, 10]⟩ : ByteArray)) [] true) := by
              show PrS _ _ _ _ _ _
              refine PrS.text _ ?_
              have := hP.out
              rw [hd] at this
              rw [List.append_nil]
              cases first <;> exact this
            clear hd
            go_wp2_with fail
            go_ret2
            exact ⟨⟨t ++ (⟨#[59, 10]⟩ : ByteArray), true, rfl, hN.out, by rw [ByteArray.size_append]; omega⟩, by first | exact HB.out | (rw [hfb]; exact HB.out)⟩
        | false =>
          have hN : Hid (PrS A X false (t ++ (⟨#[59, 10]⟩ : ByteArray)) [] true) := PrS.bad (hP.out.no rfl) _ _ _
          go_wp2_with fail
          all_goals
            go_ret2
            exact ⟨⟨t ++ (⟨#[59, 10]⟩ : ByteArray), false, rfl, hN.out, by rw [ByteArray.size_append]; omega⟩, by first | exact HB.out | (rw [hfb]; exact HB.out)⟩
    | true =>
      have hok : ok0 = true := by rw [← hok0.out, hv0]; rfl
      have hv1 : 0 < vn := of_decide_eq_true hv0
      subst hok
      clear hv0 hvn
      go_enter Try.func27, Try.ntmps27
      go_wp2_with fail
      refine HW.out.mono ?_
      rintro e w1 ⟨rfl, rfl⟩
      go_wp2_with fail
      go_loopw [4, 5, 6, 7, 8] (fun okv tv iv _ _ wr => ∃ (j : Nat) (ok first : Bool) (t : ByteArray), j ≤ vn ∧ iv = .int .i64 (j : Int) ∧ okv = .bool ok ∧ tv = .string t ∧ first = decide (j = 0) ∧ PrS A X ok t (restT first (f.vals.drop j)) ((f.vals.drop j).all valOk) ∧ (ok = true → t.size ≤ 21004) ∧ t.size ≤ 29000 ∧ wr = V) (fun _ _ iv _ _ _ => vn - (intOf iv).toNat)
      case atStart => exact ⟨0, _, true, _, by omega, rfl, rfl, rfl, rfl, hP0.out, fun _ => hbd.out, by have := hbd.out; omega, rfl⟩
      case round =>
        clear hP0 hbd
        obtain ⟨j, ok, first, t, hj, rfl, rfl, rfl, hfi, hP, hs1, hs2, rfl⟩ := hrel
        have hP := Lib.hid hP
        have hs1 := Lib.hid hs1
        cases ok with
        | true =>
          by_cases hlt : j < vn
          · have hlt' : (j : Int) < (vn : Int) := by omega
            have x1 := StrL.ix' SLV.out j hlt
            obtain ⟨v, hv1⟩ : ∃ v, f.vals[j]? = some v := ⟨_, List.getElem?_eq_getElem (by rw [SLV.out.len]; exact hlt)⟩
            have a1 := SLV.out.at j v hv1
            have hvl : v.length ≤ 1000 := hvs.out v (List.mem_of_getElem? hv1)
            have hd := get_drop hv1
            have HS := shown_c (stg v) wr (by rw [stg_size]; omega)
            rw [bys_stg] at HS
            have hq := valP_len2 v
            have hs1' := hs1.out rfl
            obtain ⟨vk, hvk⟩ : ∃ b, valOk v = b := ⟨_, rfl⟩
            obtain ⟨sh, hsh⟩ : ∃ S, Hid ((if vk = true then stg (valP v) else ⟨#[]⟩ : ByteArray) = S) := ⟨_, rfl⟩
            rw [hvk, hsh.out] at HS
            have hshs : sh.size ≤ 2002 := by
              rw [← hsh.out]
              cases vk with
              | true => rw [if_pos rfl, stg_size]; omega
              | false => exact Nat.zero_le _
            have HS := Lib.hid HS
            -- what is so behind the round
            have hnext : Hid (∀ sep : ByteArray, sep = stg (sepT first) → PrS A X (vk && decide ((t ++ sep ++ sh).size ≤ 20000)) (t ++ sep ++ sh) (restT false (f.vals.drop (j + 1))) ((f.vals.drop (j + 1)).all valOk)) := by
              intro sep hsep
              have h1 := hP.out
              rw [hd, List.all_cons] at h1
              have h2 : PrS A X (true && vk) (t ++ sep) (valP v ++ restT false (f.vals.drop (j + 1))) ((f.vals.drop (j + 1)).all valOk) := by
                refine (PrS.text sep ?_).cond
                rw [hsep, bys_stg, ← hvk]
                exact h1
              rw [Bool.true_and] at h2
              cases vk with
              | false =>
                rw [Bool.false_and]
                exact PrS.bad (h2.no rfl) _ _ _
              | true =>
                have h3 : PrS A X true (t ++ sep ++ stg (valP v)) (restT false (f.vals.drop (j + 1))) ((f.vals.drop (j + 1)).all valOk) := PrS.text (stg (valP v)) (by rw [bys_stg]; exact h2)
                rw [← hsh.out, if_pos rfl]
                exact h3.lim
            clear hv1 hd hq hsh
            by_cases hj0 : j = 0
            · subst hj0
              rw [show ((0 : Nat) : Int) = 0 from rfl] at x1
              have hfi' : first = true := hfi
              subst hfi'
              have hcat : t ++ ((⟨#[32]⟩ : ByteArray) ++ sh) = t ++ (⟨#[32]⟩ : ByteArray) ++ sh := by
                apply bys_inj
                simp only [bys_append, List.append_assoc]
              have hz1 : (t ++ (⟨#[32]⟩ : ByteArray) ++ sh).size = t.size + 1 + sh.size := by rw [ByteArray.size_append, ByteArray.size_append]; omega
              have hN := hnext.out (⟨#[32]⟩ : ByteArray) rfl
              obtain ⟨T2, hT2⟩ : ∃ T, t ++ (⟨#[32]⟩ : ByteArray) ++ sh = T := ⟨_, rfl⟩
              rw [hT2] at hcat hz1 hN
              have hle : Hid (decide ((T2.size : Int) ≤ 20000) = decide (T2.size ≤ 20000)) := by show _ = _; rw [Bool.eq_iff_iff, decide_eq_true_eq, decide_eq_true_eq]; omega
              have hN := Lib.hid hN
              replace hz1 := Lib.hid hz1
              clear hnext hT2 hs2 hfi
              cases vk with
              | true =>
                go_wp2_with fail
                refine HS.out.mono ?_
                rintro e w2 ⟨rfl, rfl⟩
                go_wp2_with fail
                go_roundw
                case rel => exact ⟨0 + 1, _, false, T2, by omega, by go_num, (by rw [hle.out]; try rfl), rfl, by simp, hN.out, fun e => by have := of_decide_eq_true e; omega, by have := hz1.out; omega, by trivial⟩
                case measure => simp [intOf]; omega
              | false =>
                go_wp2_with fail
                refine HS.out.mono ?_
                rintro e w2 ⟨rfl, rfl⟩
                go_wp2_with fail
                go_roundw
                case rel => exact ⟨0 + 1, false, false, T2, by omega, by go_num, rfl, rfl, by simp, hN.out, fun e => (by cases e), by have := hz1.out; omega, by trivial⟩
                case measure => simp [intOf]; omega
            · have hfi' : first = false := by rw [hfi]; exact decide_eq_false hj0
              subst hfi'
              have hgt : (j : Int) > 0 := by omega
              have hcat : t ++ (⟨#[44]⟩ : ByteArray) ++ ((⟨#[32]⟩ : ByteArray) ++ sh) = t ++ (⟨#[44, 32]⟩ : ByteArray) ++ sh := by
                apply bys_inj
                simp only [bys_append, List.append_assoc]
                rfl
              have hz1 : (t ++ (⟨#[44, 32]⟩ : ByteArray) ++ sh).size = t.size + 2 + sh.size := by rw [ByteArray.size_append, ByteArray.size_append]; rfl
              have hN := hnext.out (⟨#[44, 32]⟩ : ByteArray) rfl
              obtain ⟨T2, hT2⟩ : ∃ T, t ++ (⟨#[44, 32]⟩ : ByteArray) ++ sh = T := ⟨_, rfl⟩
              rw [hT2] at hcat hz1 hN
              have hle : Hid (decide ((T2.size : Int) ≤ 20000) = decide (T2.size ≤ 20000)) := by show _ = _; rw [Bool.eq_iff_iff, decide_eq_true_eq, decide_eq_true_eq]; omega
              have hN := Lib.hid hN
              have hsz2 : (t ++ (⟨#[44]⟩ : ByteArray)).size ≤ 29001 := by rw [ByteArray.size_append]; omega
              replace hz1 := Lib.hid hz1
              clear hnext hT2 hs2 hfi
              cases vk with
              | true =>
                go_wp2_with fail
                refine HS.out.mono ?_
                rintro e w2 ⟨rfl, rfl⟩
                go_wp2_with fail
                go_roundw
                case rel => exact ⟨j + 1, _, false, T2, by omega, by go_num, (by rw [hle.out]; try rfl), rfl, by simp, hN.out, fun e => by have := of_decide_eq_true e; omega, by have := hz1.out; omega, by trivial⟩
                case measure => simp [intOf]; omega
              | false =>
                go_wp2_with fail
                refine HS.out.mono ?_
                rintro e w2 ⟨rfl, rfl⟩
                go_wp2_with fail
                go_roundw
                case rel => exact ⟨j + 1, false, false, T2, by omega, by go_num, rfl, rfl, by simp, hN.out, fun e => (by cases e), by have := hz1.out; omega, by trivial⟩
                case measure => simp [intOf]; omega
          · obtain rfl : j = vn := by omega
            have hd : f.vals.drop j = [] := List.drop_of_length_le (by rw [SLV.out.len]; exact Nat.le_refl _)
            have hN : Hid (PrS A X true (t ++ (⟨#[59, 10]⟩ : ByteArray)) [] true) := by
              show PrS _ _ _ _ _ _
              refine PrS.text _ ?_
              have := hP.out
              rw [hd] at this
              rw [List.append_nil]
              cases first <;> exact this
            clear hd
            go_wp2_with fail
            go_ret2
            exact ⟨⟨t ++ (⟨#[59, 10]⟩ : ByteArray), true, rfl, hN.out, by rw [ByteArray.size_append]; omega⟩, by first | exact HB.out | (rw [hfb]; exact HB.out)⟩
        | false =>
          have hN : Hid (PrS A X false (t ++ (⟨#[59, 10]⟩ : ByteArray)) [] true) := PrS.bad (hP.out.no rfl) _ _ _
          go_wp2_with fail
          all_goals
            go_ret2
            exact ⟨⟨t ++ (⟨#[59, 10]⟩ : ByteArray), false, rfl, hN.out, by rw [ByteArray.size_append]; omega⟩, by first | exact HB.out | (rw [hfb]; exact HB.out)⟩
end Go.Proofs.Ytfknckbclddnmaa
