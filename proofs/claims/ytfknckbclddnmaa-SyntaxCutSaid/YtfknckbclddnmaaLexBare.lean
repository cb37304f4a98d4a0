/-
  strings.Cut at a slash; lex.Bare, electionref06.Bare.
-/
import Derived.Test.YtfknckbclddnmaaLexFind
import Derived.Deep.QuietTactic
import Derived.BigQuiet
namespace Go.Proofs.Ytfknckbclddnmaa
open Go.RowKit Lx

namespace Lx
theorem bare_at {l p q : List UInt8} {c : UInt8} (h : l = p ++ c :: q) (hc : c.toNat = 47) (hp : ∀ x ∈ p, x.toNat ≠ 47) : bareB l = (numB p && numB q) := by
  have ht : ∀ p : List UInt8, (∀ x ∈ p, x.toNat ≠ 47) → (p ++ c :: q).takeWhile (fun c => !decide (c.toNat = 47)) = p ∧ (p ++ c :: q).dropWhile (fun c => !decide (c.toNat = 47)) = c :: q := by
    intro p
    induction p with
    | nil => intro _; simp [hc]
    | cons d p ih =>
      intro hp
      have h1 := hp d (List.mem_cons_self ..)
      have h2 := ih fun x hx => hp x (List.mem_cons_of_mem _ hx)
      rw [List.cons_append, List.takeWhile_cons, List.dropWhile_cons, if_pos (by simp [h1]), if_pos (by simp [h1]), h2.1, h2.2]
      exact ⟨rfl, rfl⟩
  unfold bareB
  rw [if_pos (by rw [h, List.any_append, List.any_cons, decide_eq_true hc]; simp), h, (ht p hp).1, (ht p hp).2]
  rfl
theorem bare_none {l : List UInt8} (h : ∀ x ∈ l, x.toNat ≠ 47) : bareB l = (wordB l || numB l) := by
  unfold bareB
  rw [if_neg]
  intro hh
  obtain ⟨x, hx, h47⟩ := List.any_eq_true.1 hh
  exact h x hx (of_decide_eq_true h47)
/-- The two parts of a text around its first slash, and whether there is one. -/
def cutS (s : ByteArray) : ByteArray × ByteArray × Bool :=
  if 0 ≤ Lib.indexByte (bys s) 47 then (s.extract 0 (Lib.indexByte (bys s) 47).toNat, s.extract ((Lib.indexByte (bys s) 47).toNat + 1) s.size, true) else (s, ⟨#[]⟩, false)
theorem bys_sub (s : ByteArray) (i : Nat) : bys (s.extract i s.size) = (bys s).drop i := by
  rw [bys_extract, List.take_of_length_le]
  rw [List.length_drop, bys_len]
  exact Nat.le_refl _
theorem bys_pre (s : ByteArray) (i : Nat) : bys (s.extract 0 i) = (bys s).take i := by
  rw [bys_extract]; rfl
theorem ne47 {x : UInt8} (h : x ≠ 47) : x.toNat ≠ 47 := fun e => h (UInt8.toNat_inj.1 (by rw [e]; rfl))
theorem bare_cut (s : ByteArray) : bareB (bys s) = (if (cutS s).2.2 then numB (bys (cutS s).1) && numB (bys (cutS s).2.1) else wordB (bys s) || numB (bys s)) := by
  unfold cutS
  by_cases h : 0 ≤ Lib.indexByte (bys s) 47
  · obtain ⟨k, hk⟩ : ∃ k : Nat, Lib.indexByte (bys s) 47 = k := ⟨(Lib.indexByte (bys s) 47).toNat, by omega⟩
    rw [if_pos h]
    simp only [if_true, hk, Int.toNat_natCast, bys_sub, bys_pre]
    obtain ⟨h1, h2⟩ := Lib.indexByte_some hk
    obtain ⟨hkl, hke⟩ := List.getElem?_eq_some_iff.1 h1
    refine bare_at (c := 47) ?_ rfl ?_
    · have := List.take_append_drop k (bys s)
      rw [List.drop_eq_getElem_cons hkl, hke] at this
      exact this.symm
    · intro x hx
      obtain ⟨i, hi, rfl⟩ := List.mem_iff_getElem.1 hx
      rw [List.length_take] at hi
      refine ne47 fun e => h2 i (by omega) ?_
      rw [List.getElem_take] at e
      rw [← e]
      exact List.getElem?_eq_getElem _
  · have hm : Lib.indexByte (bys s) 47 = -1 := by have := Lib.indexByte_ge (bys s) 47; omega
    rw [if_neg h]
    simp only [Bool.false_eq_true, if_false]
    refine bare_none fun x hx => ne47 fun e => ?_
    obtain ⟨i, hi, he⟩ := List.mem_iff_getElem.1 hx
    exact Lib.indexByte_none hm i (by rw [List.getElem?_eq_getElem hi, he, e])
theorem cutS_size (s : ByteArray) : (cutS s).1.size ≤ s.size ∧ (cutS s).2.1.size ≤ s.size := by
  unfold cutS
  split
  · simp only [ByteArray.size_extract]; omega
  · exact ⟨Nat.le_refl _, Nat.zero_le _⟩
end Lx

set_option maxHeartbeats 2000000 in
set_option maxRecDepth 100000 in
theorem sliteIndex_c (s : ByteArray) (w : World) :
    Calls Try.prog 67 #[.string s, .string ⟨#[47]⟩] w fun e w' => e = .returned (.int .i64 (Lib.indexByte (bys s) 47)) ∧ w = w' := by
  have HI := Lib.hid (sliteByte_c s ((⟨#[47]⟩ : ByteArray)[0]) w)
  have hz : ∀ x : Int, Lib.indexByte (bys s) 47 = x → Lib.indexByte (bys s) ((⟨#[47]⟩ : ByteArray)[0]) = x := fun x h => h
  have HZ := Lib.hid hz
  clear hz
  by_cases h : ([47] == s.toList) = true
  · have e : Hid (Lib.indexByte (bys s) 47 = 0) := by
      show _ = _
      rw [← toList_bys, ← beq_iff_eq.1 h]
      rfl
    go_enter Try.func67, Try.ntmps67
    go_wp2_with fail
    go_ret
    exact ⟨i64_ret e.out.symm, rfl⟩
  · have h' : ([47] == s.toList) = false := by simpa using h
    clear h
    go_enter Try.func67, Try.ntmps67
    go_wp2_with fail
    refine HI.out.mono ?_
    rintro e w' ⟨rfl, rfl⟩
    go_wp2_with fail
    go_ret
    exact ⟨i64_ret rfl, rfl⟩

set_option maxHeartbeats 1600000 in
set_option maxRecDepth 100000 in
theorem sliteCut_c (s : ByteArray) (w : World) (hs : s.size ≤ 1000000) :
    Calls Try.prog 86 #[.string s, .string ⟨#[47]⟩] w fun e w' => e = .returned (.tuple #[.string (cutS s).1, .string (cutS s).2.1, .bool (cutS s).2.2]) ∧ ∃ q, w.drewN q = w' := by
  obtain ⟨i, hi⟩ : ∃ i, Hid (i = Lib.indexByte (bys s) 47) := ⟨_, rfl⟩
  have HI := sliteIndex_c s w
  rw [← hi.out] at HI
  have HI := Lib.hid HI
  obtain ⟨r, hr⟩ : ∃ r, Hid (r = cutS s) := ⟨_, rfl⟩
  have hrr : r = if 0 ≤ i then (s.extract 0 i.toNat, s.extract (i.toNat + 1) s.size, true) else (s, ⟨#[]⟩, false) := by rw [hr.out, hi.out]; rfl
  have HR := Lib.hid hrr
  rw [← hr.out]
  clear hrr
  by_cases h0 : 0 ≤ i
  · obtain ⟨k, rfl⟩ : ∃ k : Nat, i = k := ⟨i.toNat, by omega⟩
    have hb : k < s.size := by
      have h1 := (Lib.indexByte_some hi.out.symm).1
      have h2 := (List.getElem?_eq_some_iff.mp h1).1
      rwa [bys_len] at h2
    have e := HR.out
    rw [if_pos h0] at e
    rw [show ((k : Int)).toNat = k from rfl] at e
    subst e
    have hd : decide ((0 : Int) ≤ (k : Int)) = true := by simp
    have c1 : (0 : Int) ≤ (k : Int) := by omega
    have c2 : (k : Int) ≤ (s.size : Int) := by omega
    have c3 : (0 : Int) ≤ (k : Int) + 1 := by omega
    have c4 : (k : Int) + 1 ≤ (s.size : Int) := by omega
    have c5 : IntKind.i64.wrap ((k : Int) + 1) = (k : Int) + 1 := IntWalk.i64_in _ (by omega)
    have c6 : ((k : Int) + 1).toNat = k + 1 := by omega
    go_enter Try.func86, Try.ntmps86
    go_wp2_with fail
    refine HI.out.mono ?_
    rintro e w' ⟨rfl, rfl⟩
    go_wp2_with fail
    go_quiet (fail)
    go_wp2_with fail
    go_ret3
    exact ⟨rfl, _, rfl⟩
  · have hd : decide (0 ≤ i) = false := by simpa using h0
    have e := HR.out
    rw [if_neg h0] at e
    subst e
    go_enter Try.func86, Try.ntmps86
    go_wp2_with fail
    refine HI.out.mono ?_
    rintro e w' ⟨rfl, rfl⟩
    go_wp2_with fail
    go_ret3
    exact ⟨rfl, 0, rfl⟩

set_option maxRecDepth 100000 in
theorem cut_c (s : ByteArray) (w : World) (hs : s.size ≤ 1000000) :
    Calls Try.prog 85 #[.string s, .string ⟨#[47]⟩] w fun e w' => e = .returned (.tuple #[.string (cutS s).1, .string (cutS s).2.1, .bool (cutS s).2.2]) ∧ ∃ q, w.drewN q = w' := by
  have H := Lib.hid (sliteCut_c s w hs)
  go_enter Try.func85, Try.ntmps85
  go_wp2_with fail
  refine H.out.mono ?_
  rintro e w' ⟨rfl, n, rfl⟩
  go_wp2_with fail
  go_ret3
  exact ⟨rfl, n, rfl⟩

set_option maxHeartbeats 1600000 in
set_option maxRecDepth 100000 in
theorem bare_c (s : ByteArray) (w : World) (hs : s.size ≤ 1000000) :
    Calls Try.prog 83 #[.string s] w fun e w' => e = .returned (.bool (bareB (bys s))) ∧ ∃ q, w.drewN q = w' := by
  have HC := cut_c s w hs
  obtain ⟨u, hu⟩ : ∃ u, Hid ((cutS s).1 = u) := ⟨_, rfl⟩
  obtain ⟨v, hv⟩ : ∃ v, Hid ((cutS s).2.1 = v) := ⟨_, rfl⟩
  obtain ⟨f, hf⟩ : ∃ f, Hid ((cutS s).2.2 = f) := ⟨_, rfl⟩
  obtain ⟨R, hR0⟩ : ∃ R, Hid (bareB (bys s) = R) := ⟨_, rfl⟩
  obtain ⟨nu, hnu⟩ : ∃ b, Hid (numB (bys u) = b) := ⟨_, rfl⟩
  obtain ⟨nv, hnv⟩ : ∃ b, Hid (numB (bys v) = b) := ⟨_, rfl⟩
  obtain ⟨ws, hws⟩ : ∃ b, Hid (wordB (bys s) = b) := ⟨_, rfl⟩
  obtain ⟨ns, hns⟩ : ∃ b, Hid (numB (bys s) = b) := ⟨_, rfl⟩
  have hR : Hid (R = if f then nu && nv else ws || ns) := by
    show _ = _
    rw [← hR0.out, bare_cut, hu.out, hv.out, hf.out, hnu.out, hnv.out, hws.out, hns.out]
  have su : u.size ≤ 1000000 := by rw [← hu.out]; exact Nat.le_trans (cutS_size s).1 hs
  have sv : v.size ≤ 1000000 := by rw [← hv.out]; exact Nat.le_trans (cutS_size s).2 hs
  have H1 : Hid (∀ q, Calls Try.prog 54 #[.string u] (w.drewN q) fun e w' => e = .returned (.bool nu) ∧ w.drewN q = w') := fun q => by rw [← hnu.out]; exact isNumber_c u (w.drewN q) su
  have H2 : Hid (∀ q, Calls Try.prog 54 #[.string v] (w.drewN q) fun e w' => e = .returned (.bool nv) ∧ w.drewN q = w') := fun q => by rw [← hnv.out]; exact isNumber_c v (w.drewN q) sv
  have H3 : Hid (∀ q, Calls Try.prog 53 #[.string s] (w.drewN q) fun e w' => e = .returned (.bool ws) ∧ w.drewN q = w') := fun q => by rw [← hws.out]; exact isWord_c s (w.drewN q) hs
  have H4 : Hid (∀ q, Calls Try.prog 54 #[.string s] (w.drewN q) fun e w' => e = .returned (.bool ns) ∧ w.drewN q = w') := fun q => by rw [← hns.out]; exact isNumber_c s (w.drewN q) hs
  rw [hu.out, hv.out, hf.out] at HC
  have HC := Lib.hid HC
  rw [hR0.out]
  clear su sv
  cases f with
  | true =>
    cases nu with
    | true =>
      go_enter Try.func83, Try.ntmps83
      go_wp2_with fail
      refine HC.out.mono ?_
      rintro e w' ⟨rfl, q, rfl⟩
      go_wp2_with fail
      refine (H1.out q).mono ?_
      rintro e w' ⟨rfl, rfl⟩
      go_wp2_with fail
      refine (H2.out q).mono ?_
      rintro e w' ⟨rfl, rfl⟩
      go_wp2_with fail
      go_ret
      exact ⟨bool_ret (by rw [hR.out]; rfl), q, rfl⟩
    | false =>
      go_enter Try.func83, Try.ntmps83
      go_wp2_with fail
      refine HC.out.mono ?_
      rintro e w' ⟨rfl, q, rfl⟩
      go_wp2_with fail
      refine (H1.out q).mono ?_
      rintro e w' ⟨rfl, rfl⟩
      go_wp2_with fail
      go_ret
      exact ⟨bool_ret (by rw [hR.out]; rfl), q, rfl⟩
  | false =>
    cases ws with
    | true =>
      go_enter Try.func83, Try.ntmps83
      go_wp2_with fail
      refine HC.out.mono ?_
      rintro e w' ⟨rfl, q, rfl⟩
      go_wp2_with fail
      refine (H3.out q).mono ?_
      rintro e w' ⟨rfl, rfl⟩
      go_wp2_with fail
      go_ret
      exact ⟨bool_ret (by rw [hR.out]; rfl), q, rfl⟩
    | false =>
      go_enter Try.func83, Try.ntmps83
      go_wp2_with fail
      refine HC.out.mono ?_
      rintro e w' ⟨rfl, q, rfl⟩
      go_wp2_with fail
      refine (H3.out q).mono ?_
      rintro e w' ⟨rfl, rfl⟩
      go_wp2_with fail
      refine (H4.out q).mono ?_
      rintro e w' ⟨rfl, rfl⟩
      go_wp2_with fail
      go_ret
      exact ⟨bool_ret (by rw [hR.out]; rfl), q, rfl⟩

set_option maxHeartbeats 1600000 in
set_option maxRecDepth 100000 in
theorem refBare_c (s : ByteArray) (w : World) (hs : s.size ≤ 1000000) :
    Calls Try.prog 65 #[.string s] w fun e w' => e = .returned (.bool (bareB (bys s))) ∧ w = w' := by
  obtain ⟨R, hR⟩ : ∃ R, Hid (bareB (bys s) = R) := ⟨_, rfl⟩
  rw [hR.out]
  go_enter Try.func65, Try.ntmps65
  go_wp2_with fail
  go_loop [3] (fun i => ∃ j : Nat, j ≤ s.size ∧ i = .int .i64 j ∧ Hid (∀ x ∈ (bys s).take j, x.toNat ≠ 47)) (fun i => s.size - (intOf i).toNat)
  case atStart => exact ⟨0, Nat.zero_le _, rfl, fun x hx => by cases hx⟩
  case round =>
    obtain ⟨j, hj, rfl, hI⟩ := hrel
    by_cases hlt : j < s.size
    · have hlt' : (j : Int) < (s.size : Int) := by omega
      obtain ⟨d, hd, x1⟩ := at_s s j hlt
      obtain ⟨n, hn⟩ : ∃ n : Nat, Hid (d.toNat = n) := ⟨_, rfl⟩
      rw [hn.out] at x1
      have hsp : Hid (bys s = (bys s).take j ++ d :: (bys s).drop (j + 1)) := by
        show _ = _
        rw [← hd.out, List.take_append_drop]
      by_cases h47 : n = 47
      · have hb : ((n : Int) == 47) = true := by simp; omega
        obtain ⟨nu, hnu⟩ : ∃ b, Hid (numB ((bys s).take j) = b) := ⟨_, rfl⟩
        obtain ⟨nv, hnv⟩ : ∃ b, Hid (numB ((bys s).drop (j + 1)) = b) := ⟨_, rfl⟩
        have hN : Hid (R = (nu && nv)) := by
          show _ = _
          rw [← hR.out, bare_at hsp.out (by rw [hn.out]; exact h47) hI.out, hnu.out, hnv.out]
        have H1 : Hid (Calls Try.prog 46 #[.string (s.extract 0 j)] w fun e w' => e = .returned (.bool nu) ∧ w = w') := by
          show Calls _ _ _ _ _
          rw [← hnu.out, ← bys_pre]
          exact refNumber_c _ w (by rw [ByteArray.size_extract]; omega)
        have H2 : Hid (Calls Try.prog 46 #[.string (s.extract (j + 1) s.size)] w fun e w' => e = .returned (.bool nv) ∧ w = w') := by
          show Calls _ _ _ _ _
          rw [← hnv.out, ← bys_sub]
          exact refNumber_c _ w (by rw [ByteArray.size_extract]; omega)
        have c1 : (0 : Int) ≤ (j : Int) := by omega
        have c2 : (j : Int) ≤ (s.size : Int) := by omega
        have c3 : (0 : Int) ≤ (j : Int) + 1 := by omega
        have c4 : (j : Int) + 1 ≤ (s.size : Int) := by omega
        have c5 : IntKind.i64.wrap ((j : Int) + 1) = (j : Int) + 1 := IntWalk.i64_in _ (by omega)
        have c6 : ((j : Int) + 1).toNat = j + 1 := by omega
        clear h47 hI
        cases nu with
        | true =>
          go_wp2_with fail
          refine H1.out.mono ?_
          rintro e w' ⟨rfl, rfl⟩
          go_wp2_with fail
          refine H2.out.mono ?_
          rintro e w' ⟨rfl, rfl⟩
          go_wp2_with fail
          go_ret
          exact ⟨bool_ret (by rw [hN.out]; rfl), rfl⟩
        | false =>
          go_wp2_with fail
          refine H1.out.mono ?_
          rintro e w' ⟨rfl, rfl⟩
          go_wp2_with fail
          go_ret
          exact ⟨bool_ret (by rw [hN.out]; rfl), rfl⟩
      · have hb : ((n : Int) == 47) = false := by rw [beq_eq_false_iff_ne]; omega
        have hN : Hid (∀ x ∈ (bys s).take (j + 1), x.toNat ≠ 47) := by
          intro x hx
          rw [List.take_add_one] at hx
          rcases List.mem_append.1 hx with hx | hx
          · exact hI.out x hx
          · have : (bys s)[j]? = some d := by
              rw [hsp.out, List.getElem?_append_right (by rw [List.length_take, bys_len]; omega), List.length_take, bys_len, Nat.min_eq_left (by omega), Nat.sub_self]
              rfl
            rw [this] at hx
            simp at hx
            rw [hx, hn.out]
            exact h47
        clear h47 hI
        go_wp2_with fail
        go_round
        case rel => exact ⟨j + 1, by omega, by go_num, hN⟩
        case measure => simp [intOf]; omega
    · obtain rfl : j = s.size := by omega
      have hN : Hid (R = (wordB (bys s) || numB (bys s))) := by
        show _ = _
        rw [← hR.out]
        refine bare_none fun x hx => hI.out x ?_
        rw [List.take_of_length_le (by rw [bys_len]; exact Nat.le_refl _)]
        exact hx
      have H1 := refWord_c s w hs
      have H2 := refNumber_c s w hs
      obtain ⟨ws, hws⟩ : ∃ b, Hid (wordB (bys s) = b) := ⟨_, rfl⟩
      obtain ⟨ns, hns⟩ : ∃ b, Hid (numB (bys s) = b) := ⟨_, rfl⟩
      rw [hws.out] at H1
      rw [hns.out] at H2
      have H1 := Lib.hid H1
      have H2 := Lib.hid H2
      clear hI
      cases ws with
      | true =>
        go_wp2_with fail
        refine H1.out.mono ?_
        rintro e w' ⟨rfl, rfl⟩
        go_wp2_with fail
        go_ret
        exact ⟨bool_ret (by rw [hN.out, hws.out]; rfl), rfl⟩
      | false =>
        go_wp2_with fail
        refine H1.out.mono ?_
        rintro e w' ⟨rfl, rfl⟩
        go_wp2_with fail
        refine H2.out.mono ?_
        rintro e w' ⟨rfl, rfl⟩
        go_wp2_with fail
        go_ret
        exact ⟨bool_ret (by rw [hN.out, hws.out, hns.out]; rfl), rfl⟩
end Go.Proofs.Ytfknckbclddnmaa
