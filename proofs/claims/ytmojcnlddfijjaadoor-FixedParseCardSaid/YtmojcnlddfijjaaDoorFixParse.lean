/-
  fixed.parseFraction, fixed.Parse.
-/
import Derived.Test.YtmojcnlddfijjaaDoorFixBase
import Derived.Test.YtmojcnlddfijjaaDoorNatNumeral
import Derived.Test.YtmojcnlddfijjaaDoorNatParseU
namespace Go.Proofs.YtmojcnlddfijjaaDoor
open Go.RowKit NatMath FixMath

/-- The digits behind the point with a one before them. -/
def oneT (s : ByteArray) : ByteArray := ⟨#[49]⟩ ++ s
theorem oneT_size (s : ByteArray) : (oneT s).size = 1 + s.size := by unfold oneT; rw [ByteArray.size_append]; rfl
theorem oneT_list (s : ByteArray) : (oneT s).data.toList = 49 :: s.data.toList := by unfold oneT; simp
/-- The number of the digits behind the point. -/
noncomputable def frac (s : ByteArray) (D : Nat) : Nat := numG (oneT s) 0 (oneT s).size - 10 ^ D

theorem one_num {s : ByteArray} (h : numB (oneT s) = true) : 10 ^ s.size ≤ numG (oneT s) 0 (oneT s).size ∧ frac s s.size < 10 ^ s.size ∧ s.data.toList = low s.size (frac s s.size) := by
  obtain ⟨hd, h0, hh⟩ := numB_numeral h
  have e : numG (oneT s) 0 (oneT s).size = numG (oneT s) 0 1 * 10 ^ s.size + numG (oneT s) 1 s.size := by
    rw [oneT_size]; exact numG_split (oneT s) 1 s.size
  have e1 : numG (oneT s) 0 1 = 1 := by
    show 0 * 10 + digAt (oneT s) (0 + 0) = 1
    have hb : digAt (oneT s) 0 = 1 := by
      unfold digAt
      rw [dif_pos h0]
      have : (oneT s)[0]'h0 = 49 := by
        have h1 := oneT_list s
        have h2 : (oneT s).data.toList[0]? = some ((oneT s)[0]'h0) := by
          rw [List.getElem?_eq_some_iff]
          exact ⟨by simpa using h0, rfl⟩
        rw [h1] at h2
        simpa using h2.symm
      rw [this]; rfl
    rw [hb]
  have hlt := numG_lt hd 1 s.size (by rw [oneT_size]; omega)
  rw [e1, Nat.one_mul] at e
  have hf : frac s s.size = numG (oneT s) 1 s.size := by unfold frac; omega
  refine ⟨by omega, by omega, ?_⟩
  have ht := dec_take hd h0 hh (oneT s).size h0 (Nat.le_refl _)
  rw [List.take_of_length_le (by simp), oneT_list, e, dec_one _ _ hlt] at ht
  rw [hf]
  exact (List.cons.inj ht).2.symm

theorem oneT_low {s : ByteArray} {D v : Nat} (h : s.data.toList = low D v) : oneT s = ⟨(Lib.decDigits (10 ^ D + v % 10 ^ D)).toArray⟩ := by
  apply bytes_ext
  rw [oneT_list, h, ← low_mod, ← dec_one D _ (Nat.mod_lt _ (Nat.pow_pos (by omega)))]
theorem frac_low {s : ByteArray} {D v : Nat} (h : s.data.toList = low D v) : numB (oneT s) = true ∧ numG (oneT s) 0 (oneT s).size = 10 ^ D + v % 10 ^ D := by
  rw [oneT_low h]
  exact ⟨dec_numeral _, by rw [dec_size]; exact dec_num _⟩

/-- What is read as the text of v is it. -/
theorem ftx_of_parts {s : ByteArray} {D : Nat} (hD : D ≠ 0) (h1 : (cutB s 46).2.1.size = D) (h2 : numB (cutB s 46).1 = true) (h3 : numB (oneT (cutB s 46).2.1) = true) :
    ∃ v, s.data.toList = ftx v D ∧ v = numG (cutB s 46).1 0 (cutB s 46).1.size * 10 ^ D + frac (cutB s 46).2.1 D := by
  obtain ⟨g1, g2, g3⟩ := one_num h3
  rw [h1] at g1 g2 g3
  refine ⟨_, ?_, rfl⟩
  have hf : (cutB s 46).2.2 = true := by
    by_cases hh : (cutB s 46).2.2 = true
    · exact hh
    · exfalso
      unfold cutB at h1 hh
      split at h1
      · rename_i h0
        rw [if_pos h0] at hh
        exact hh rfl
      · exact hD h1.symm
  rw [split_at s 46 hf]
  obtain ⟨hd, h0, hh⟩ := numB_numeral h2
  have ht := dec_take hd h0 hh (cutB s 46).1.size h0 (Nat.le_refl _)
  rw [List.take_of_length_le (by simp)] at ht
  have hp : 0 < 10 ^ D := Nat.pow_pos (by omega)
  unfold ftx
  rw [if_neg hD, g3]
  generalize numG (cutB s 46).1 0 (cutB s 46).1.size = W at *
  generalize frac (cutB s 46).2.1 D = r at *
  have e1 : (W * 10 ^ D + r) / 10 ^ D = W := by
    rw [Nat.mul_comm, Nat.mul_add_div hp, Nat.div_eq_of_lt g2, Nat.add_zero]
  have e2 : (W * 10 ^ D + r) % 10 ^ D = r := by
    rw [Nat.mul_comm, Nat.mul_add_mod, Nat.mod_eq_of_lt g2]
  rw [e1, ht, ← low_mod D (W * 10 ^ D + r), e2]
/-- The parts of the text of v. -/
theorem ftx_parts {s : ByteArray} {D v : Nat} (hD : D ≠ 0) (h : s.data.toList = ftx v D) : (cutB s 46).1 = ⟨(Lib.decDigits (v / 10 ^ D)).toArray⟩ ∧ (cutB s 46).2.1.data.toList = low D v ∧ (cutB s 46).2.1.size = D ∧ (cutB s 46).2.2 = true := by
  unfold ftx at h
  rw [if_neg hD] at h
  have hc := cutB_hit1 s 46 _ _ h (dec_not (by decide))
  rw [hc]
  exact ⟨rfl, rfl, low_len D v, rfl⟩

/-- The list, or none. -/
def fl (b : Bool) (l : List Int) : List Int := if b then l else []

set_option maxHeartbeats 1600000 in
theorem pfrac_c (s : ByteArray) (bo : Option Addr) (m d D : Nat) (w : World) (k : Lst .u32 w bo m d (limbs (10 ^ D))) (_hm : m ≤ 62) (hs : s.size ≤ 6) (hD : s.size = D) :
    Calls Tryd.prog 68 #[.string s, .slice bo m d] w fun e w' => ∃ a n c, e = .returned (.tuple #[.slice a n c, .bool (numB (oneT s))]) ∧ n ≤ 42 ∧ Own 77 .u32 w.heap.size w' a n c (fl (numB (oneT s)) (limbs (frac s D))) ∧ Below w.heap.size w w' := by
  have hsz := oneT_size s
  have hp := parseU_c (oneT s) w (by omega)
  obtain ⟨T, hT⟩ : ∃ T, Hid (T = oneT s) := ⟨_, rfl⟩
  have hcat : (⟨#[49]⟩ : ByteArray) ++ s = T := by rw [hT.out]; rfl
  obtain ⟨V, hV⟩ : ∃ V, Hid (V = numG T 0 T.size) := ⟨_, rfl⟩
  have hval : numB T = true → 10 ^ D ≤ V ∧ frac s D = V - 10 ^ D := fun h => by
    have h1 := one_num (s := s) (by rw [← hT.out]; exact h)
    rw [hD, ← hT.out, ← hV.out] at h1
    refine ⟨h1.1, ?_⟩
    rw [hV.out, hT.out]; rfl
  rw [← hT.out] at hp ⊢
  have hc1 : 1 + s.size ≤ 9223372036854775807 := by omega
  have hfr : frac s D = V - 10 ^ D := by rw [hV.out, hT.out]; rfl
  rw [hfr]
  have HV := Lib.hid hval
  have K := Lib.hid k
  have HSZ := Lib.hid hsz
  clear hval k hfr hsz
  obtain ⟨b, hb⟩ : ∃ b, Hid (b = numB T) := ⟨_, rfl⟩
  have hpv : pv T = fl b (limbs V) := by rw [hb.out, hV.out]; rfl
  rw [hpv, ← hb.out] at hp
  rw [← hb.out] at HV ⊢
  have HP := Lib.hid hp
  have HC := Lib.hid hcat
  clear hp hpv hD
  cases b with
  | false =>
    clear hcat
    go_enter Tryd.func68, Tryd.ntmps68
    go_wp2_with fail
    rw [HC.out]
    refine HP.out.mono ?_
    rintro e w1 ⟨a1, n1, c1, hn1, rfl, o1, b1⟩
    go_wp2_with fail
    go_ret2
    exact ⟨none, 0, 0, rfl, by omega, own_nil _ _ _ _, b1⟩
  | true =>
    clear hcat
    go_enter Tryd.func68, Tryd.ntmps68
    go_wp2_with fail
    rw [HC.out]
    refine HP.out.mono ?_
    rintro e w1 ⟨a1, n1, c1, hn1, rfl, o1, b1⟩
    rw [show fl true (limbs V) = limbs V from rfl] at o1
    have hsu := sub_ge_c a1 bo n1 c1 m d _ _ w1 o1.lst (K.out.below b1) (by omega) (by rw [val_limbs, val_limbs]; exact (HV.out (by trivial)).1)
    rw [val_limbs, val_limbs] at hsu
    have HS := Lib.hid hsu
    have B1 := Lib.hid b1
    clear hsu o1 b1 HP
    go_wp2_with fail
    refine HS.out.mono ?_
    rintro e w2 ⟨a2, n2, c2, hn2, rfl, o2, b2⟩
    go_wp2_with fail
    go_ret2
    exact ⟨a2, n2, c2, rfl, by omega, o2.low B1.out.size, B1.out.trans (b2.mono B1.out.size)⟩

set_option maxHeartbeats 1600000 in
/-- Parse of the text of v is v. -/
theorem fparse_yes_c (s : ByteArray) (D v : Nat) (w : World) (hs : s.size ≤ 40) (hD : D ≤ 6) (hv : s.data.toList = ftx v D) :
    Calls Tryd.prog 34 #[.string s, .int .i64 D] w fun e w' => ∃ a n c, e = .returned (.tuple #[.slice a n c, .bool true]) ∧ Own 77 .u32 w.heap.size w' a n c (limbs v) ∧ Below w.heap.size w w' := by
  have HS := Lib.hid (scale_c D w hD)
  by_cases h0 : D = 0
  · have hb : ((D : Int) == 0) = true := by simpa using h0
    have hse : s = ⟨(Lib.decDigits v).toArray⟩ := by apply bytes_ext; rw [hv]; unfold ftx; rw [if_pos h0]
    have hnb : numB s = true := by rw [hse]; exact dec_numeral _
    have hng : numG s 0 s.size = v := by rw [hse, dec_size]; exact dec_num _
    have HP := fun w1 => parse_c s w1 hs hnb (numB_numeral hnb).1
    rw [hng] at HP
    have HP := Lib.hid HP
    clear hse hnb hng h0 hv
    go_enter Tryd.func34, Tryd.ntmps34
    go_wp2_with fail
    refine HS.out.mono ?_
    rintro e w1 ⟨a1, n1, c1, hn1, rfl, o1, b1⟩
    have B1 := Lib.hid b1
    clear o1 b1 HS
    go_wp2_with fail
    refine (HP.out w1).mono ?_
    rintro e w2 ⟨a2, n2, c2, hn2, rfl, o2, b2⟩
    go_wp2_with fail
    go_ret2
    exact ⟨a2, n2, c2, rfl, o2.low B1.out.size, B1.out.trans (b2.mono B1.out.size)⟩
  · have hb : ((D : Int) == 0) = false := by simpa using h0
    obtain ⟨hp1, hp2, hp3, hp4⟩ := ftx_parts h0 hv
    have hcut := fun w1 => cut_c s 46 w1 (by omega)
    have hz := cut_size s 46
    obtain ⟨S1, hS1⟩ : ∃ S, Hid (S = (cutB s 46).1) := ⟨_, rfl⟩
    obtain ⟨S2, hS2⟩ : ∃ S, Hid (S = (cutB s 46).2.1) := ⟨_, rfl⟩
    rw [hp4] at hcut
    rw [← hS1.out] at hcut hz hp1
    rw [← hS2.out] at hcut hz hp2 hp3
    obtain ⟨hf1, hf2⟩ := frac_low hp2
    have hnb : numB S1 = true := by rw [hp1]; exact dec_numeral _
    have hng : numG S1 0 S1.size = v / 10 ^ D := by rw [hp1, dec_size]; exact dec_num _
    have HP1 := fun w1 => parse_c S1 w1 (by omega) hnb (numB_numeral hnb).1
    have HP2 := fun (w1 : World) (a : Option Addr) (n c : Nat) (k : Lst .u32 w1 a n c (limbs (10 ^ D))) (hn : n ≤ 62) => pfrac_c S2 a n c D w1 k hn (by omega) hp3
    have hfr : frac S2 D = v % 10 ^ D := by unfold frac; rw [hf2]; omega
    rw [hng] at HP1
    rw [hf1, hfr] at HP2
    have hsum : v / 10 ^ D * 10 ^ D + v % 10 ^ D = v := by rw [Nat.mul_comm]; exact Nat.div_add_mod _ _
    have HSUM := Lib.hid hsum
    have HP1 := Lib.hid HP1; have HP2 := Lib.hid HP2; have HCUT := Lib.hid hcut; have H3 := Lib.hid hp3
    have hne : ((S2.size : Int) == (D : Int)) = true := by rw [hp3]; simp
    have hne2 : ((S2.size : Int) != (D : Int)) = false := by rw [hp3]; simp
    have hne3 : (!((S2.size : Int) == (D : Int))) = false := by rw [hp3]; simp
    clear hp1 hp2 hp4 hz hf1 hf2 hnb hng hfr hsum hcut h0 hv hp3
    go_enter Tryd.func34, Tryd.ntmps34
    go_wp2_with fail
    refine HS.out.mono ?_
    rintro e w1 ⟨a1, n1, c1, hn1, rfl, o1, b1⟩
    have B1 := Lib.hid b1; have O1 := Lib.hid o1
    clear o1 b1 HS
    go_wp2_with fail
    refine (HCUT.out w1).mono ?_
    rintro e w2 ⟨rfl, q, rfl⟩
    have B2 := Lib.hid (below_drewN B1.out q); have O2 := Lib.hid (O1.out.drewN q)
    clear B1 O1
    go_wp2_with fail
    refine (HP1.out _).mono ?_
    rintro e w3 ⟨a3, n3, c3, hn3, rfl, o3, b3⟩
    have B3 := Lib.hid (B2.out.trans (b3.mono B2.out.size)); have O3 := Lib.hid (O2.out.kept b3); have P3 := Lib.hid o3.lst
    clear B2 O2 b3 o3
    go_wp2_with fail
    refine (HP2.out w3 a1 n1 c1 O3.out.lst hn1).mono ?_
    rintro e w4 ⟨a4, n4, c4, rfl, hn4, o4, b4⟩
    have B4 := Lib.hid (B3.out.trans (b4.mono B3.out.size)); have O4 := Lib.hid (O3.out.kept b4); have P4 := Lib.hid (P3.out.below b4); have R4 := Lib.hid (show Lst .u32 w4 a4 n4 c4 (limbs (v % 10 ^ D)) from o4.lst)
    clear B3 O3 P3 b4 o4
    have hm := mul_c a3 a1 n3 c3 n1 c1 _ _ w4 P4.out O4.out.lst (by omega) (by omega)
    rw [val_limbs, val_limbs] at hm
    have HM := Lib.hid hm
    clear hm
    go_wp2_with fail
    refine HM.out.mono ?_
    rintro e w5 ⟨a5, n5, c5, rfl, hn5, o5, b5⟩
    have B5 := Lib.hid (B4.out.trans (b5.mono B4.out.size)); have R5 := Lib.hid (R4.out.below b5)
    have ha := add_c a5 a4 n5 c5 n4 c4 _ _ w5 o5.lst R5.out (by omega) (by omega)
    rw [val_limbs, val_limbs, HSUM.out] at ha
    have HA := Lib.hid ha
    clear ha o5 b5
    go_wp2_with fail
    refine HA.out.mono ?_
    rintro e w6 ⟨a6, n6, c6, rfl, hn6, o6, b6⟩
    go_wp2_with fail
    go_ret2
    exact ⟨a6, n6, c6, rfl, o6.low B5.out.size, B5.out.trans (b6.mono B5.out.size)⟩

set_option maxHeartbeats 1600000 in
/-- Parse of what is no text is refused. -/
theorem fparse_no_c (s : ByteArray) (D : Nat) (w : World) (hs : s.size ≤ 40) (hD : D ≤ 6) (hv : ∀ v, s.data.toList ≠ ftx v D) :
    Calls Tryd.prog 34 #[.string s, .int .i64 D] w fun e w' => e = .returned (.tuple #[.slice none 0 0, .bool false]) ∧ Below w.heap.size w w' := by
  have HS := Lib.hid (scale_c D w hD)
  by_cases h0 : D = 0
  · have hb : ((D : Int) == 0) = true := by simpa using h0
    have hnb : numB s = false := by
      by_cases h : numB s = true
      · exfalso
        obtain ⟨hd, h1, hh⟩ := numB_numeral h
        have ht := dec_take hd h1 hh s.size h1 (Nat.le_refl _)
        rw [List.take_of_length_le (by simp)] at ht
        exact hv (numG s 0 s.size) (by unfold ftx; rw [if_pos h0, ht])
      · simpa using h
    have HP := Lib.hid (fun w1 => parse_no_c s w1 hs hnb)
    clear hnb h0 hv
    go_enter Tryd.func34, Tryd.ntmps34
    go_wp2_with fail
    refine HS.out.mono ?_
    rintro e w1 ⟨a1, n1, c1, hn1, rfl, o1, b1⟩
    have B1 := Lib.hid b1
    clear o1 b1 HS
    go_wp2_with fail
    refine (HP.out w1).mono ?_
    rintro e w2 ⟨rfl, rfl⟩
    go_wp2_with fail
    go_ret2
    exact ⟨rfl, B1.out⟩
  · have hb : ((D : Int) == 0) = false := by simpa using h0
    have hcut := fun w1 => cut_c s 46 w1 (by omega)
    have hz := cut_size s 46
    have hno := fun h1 h2 h3 => (ftx_of_parts (s := s) h0 h1 h2 h3).elim (fun v h => hv v h.1)
    obtain ⟨S1, hS1⟩ : ∃ S, Hid (S = (cutB s 46).1) := ⟨_, rfl⟩
    obtain ⟨S2, hS2⟩ : ∃ S, Hid (S = (cutB s 46).2.1) := ⟨_, rfl⟩
    obtain ⟨f2, hf2⟩ : ∃ S, Hid (S = (cutB s 46).2.2) := ⟨_, rfl⟩
    rw [← hS1.out] at hcut hz hno
    rw [← hS2.out] at hcut hz hno
    rw [← hf2.out] at hcut
    have HCUT := Lib.hid hcut
    clear hcut hv h0
    by_cases hl : S2.size = D
    · have hne : ((S2.size : Int) == (D : Int)) = true := by rw [hl]; simp
      have hne2 : ((S2.size : Int) != (D : Int)) = false := by rw [hl]; simp
      have hne3 : (!((S2.size : Int) == (D : Int))) = false := by rw [hl]; simp
      have HP1 := Lib.hid (fun w1 => parseU_c S1 w1 (by omega))
      have HP2 := Lib.hid (fun (w1 : World) (a : Option Addr) (n c : Nat) (k : Lst .u32 w1 a n c (limbs (10 ^ D))) (hn : n ≤ 62) => pfrac_c S2 a n c D w1 k hn (by omega) hl)
      have hno := Lib.hid (hno hl)
      obtain ⟨t1, ht1⟩ : ∃ t, Hid (t = numB S1) := ⟨_, rfl⟩
      obtain ⟨t2, ht2⟩ : ∃ t, Hid (t = numB (oneT S2)) := ⟨_, rfl⟩
      have hbb : t1 = true → t2 = true → False := fun e1 e2 => hno.out (by rw [← ht1.out]; exact e1) (by rw [← ht2.out]; exact e2)
      have HBB := Lib.hid hbb
      clear hbb hl hz
      go_enter Tryd.func34, Tryd.ntmps34
      go_wp2_with fail
      refine HS.out.mono ?_
      rintro e w1 ⟨a1, n1, c1, hn1, rfl, o1, b1⟩
      have B1 := Lib.hid b1; have O1 := Lib.hid o1
      clear o1 b1 HS
      go_wp2_with fail
      refine (HCUT.out w1).mono ?_
      rintro e w2 ⟨rfl, q, rfl⟩
      have B2 := Lib.hid (below_drewN B1.out q); have O2 := Lib.hid (O1.out.drewN q)
      clear B1 O1
      go_wp2_with fail
      have hp1 := HP1.out (w1.drewN q)
      rw [← ht1.out] at hp1
      refine hp1.mono ?_
      rintro e w3 ⟨a3, n3, c3, hn3, rfl, o3, b3⟩
      have B3 := Lib.hid (B2.out.trans (b3.mono B2.out.size)); have O3 := Lib.hid (O2.out.kept b3)
      clear B2 O2 b3 o3 hp1
      go_wp2_with fail
      have hp2 := HP2.out w3 a1 n1 c1 O3.out.lst hn1
      rw [← ht2.out] at hp2
      refine hp2.mono ?_
      rintro e w4 ⟨a4, n4, c4, rfl, hn4, o4, b4⟩
      have B4 := Lib.hid (B3.out.trans (b4.mono B3.out.size))
      clear B3 O3 b4 o4 hp2
      cases t1 with
      | false =>
        go_wp2_with fail
        go_ret2
        exact ⟨rfl, B4.out⟩
      | true =>
        cases t2 with
        | false =>
          go_wp2_with fail
          go_ret2
          exact ⟨rfl, B4.out⟩
        | true => exact (HBB.out rfl rfl).elim
    · have hne : ((S2.size : Int) == (D : Int)) = false := by simp; omega
      have hne2 : ((S2.size : Int) != (D : Int)) = true := by simp; omega
      have hne3 : (!((S2.size : Int) == (D : Int))) = true := by simp; omega
      clear hno hl hz
      go_enter Tryd.func34, Tryd.ntmps34
      go_wp2_with fail
      refine HS.out.mono ?_
      rintro e w1 ⟨a1, n1, c1, hn1, rfl, o1, b1⟩
      have B1 := Lib.hid b1
      clear o1 b1 HS
      go_wp2_with fail
      refine (HCUT.out w1).mono ?_
      rintro e w2 ⟨rfl, q, rfl⟩
      go_wp2_with fail
      go_ret2
      exact ⟨rfl, below_drewN B1.out q⟩
end Go.Proofs.YtmojcnlddfijjaaDoor
