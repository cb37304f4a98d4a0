import Derived.Test.YtgjndondonehhaaDoorPk1
import Derived.Test.YtgjndondonehhaaDoorShelf
import Derived.Lib.IndexLaws
import Derived.Deep.QuietTactic
import Derived.BigQuiet
import Derived.Test.YtgjndondonehhaaDoorNatParse
import Derived.Test.YtgjndondonehhaaDoorNatText
import Derived.Test.YtgjndondonehhaaDoorNatDec
import Derived.Deep.RegionHeld3
import Derived.Test.YtgjndondonehhaaDoorNatRead
import Derived.Test.YtgjndondonehhaaDoorNatRefGcd
import Derived.Test.YtgjndondonehhaaDoorNatCmp
import Derived.Test.YtgjndondonehhaaDoorNatHelp
/-
  strings.Cut at a text and one byte.
-/
namespace Go.Proofs.YtgjndondonehhaaDoor
open Go.RowKit NatMath

/-- The two parts of a text around the first byte c, and whether there is one. -/
def cutB (b : ByteArray) (c : UInt8) : ByteArray × ByteArray × Bool :=
  if 0 ≤ Lib.indexByte b.data.toList c then (b.extract 0 (Lib.indexByte b.data.toList c).toNat, b.extract ((Lib.indexByte b.data.toList c).toNat + 1) b.size, true) else (b, ⟨#[]⟩, false)

set_option maxHeartbeats 1600000 in
set_option maxRecDepth 100000 in
theorem cutLite_c (s : ByteArray) (c : UInt8) (w : World) (hs : s.size ≤ 1048576) :
    Calls Tryd.prog 94 #[.string s, .string ⟨#[c]⟩] w fun e w' => e = .returned (.tuple #[.string (cutB s c).1, .string (cutB s c).2.1, .bool (cutB s c).2.2]) ∧ ∃ q, w.drewN q = w' := by
  obtain ⟨i, hi⟩ : ∃ i, Hid (i = Lib.indexByte s.data.toList c) := ⟨_, rfl⟩
  have HI := Tryd.stringslite_Index_one s c w
  rw [← hi.out] at HI
  have HI := Lib.hid HI
  obtain ⟨r, hr⟩ : ∃ r, Hid (r = cutB s c) := ⟨_, rfl⟩
  have hrr : r = if 0 ≤ i then (s.extract 0 i.toNat, s.extract (i.toNat + 1) s.size, true) else (s, ⟨#[]⟩, false) := by rw [hr.out, hi.out]; rfl
  have HR := Lib.hid hrr
  rw [← hr.out]
  clear hrr
  by_cases h0 : 0 ≤ i
  · obtain ⟨k, rfl⟩ : ∃ k : Nat, i = k := ⟨i.toNat, by omega⟩
    have hb : k < s.size := by
      have h1 := (Lib.indexByte_some hi.out.symm).1
      have h2 := (List.getElem?_eq_some_iff.mp h1).1
      simpa using h2
    have e := HR.out
    rw [if_pos h0] at e
    rw [show ((k : Int)).toNat = k from rfl] at e
    subst e
    have hd : decide ((0 : Int) ≤ (k : Int)) = true := by simp
    have c1 : (0 : Int) ≤ (k : Int) := by omega
    have c2 : (k : Int) ≤ (s.size : Int) := by omega
    have c3 : (0 : Int) ≤ (k : Int) + 1 := by omega
    have c4 : (k : Int) + 1 ≤ (s.size : Int) := by omega
    have c5 : IntKind.i64.wrap ((k : Int) + 1) = (k : Int) + 1 := IntWalk.i64_in _ (by omega)
    have c6 : ((k : Int) + 1).toNat = k + 1 := by omega
    go_enter Tryd.func94, Tryd.ntmps94
    go_wp2_with fail
    refine HI.out.mono ?_
    rintro e w' ⟨rfl, rfl⟩
    go_wp2_with fail
    go_quiet (fail)
    go_wp2_with fail
    go_ret3
    exact ⟨rfl, _, rfl⟩
  · have hd : decide (0 ≤ i) = false := by simpa using h0
    have e := HR.out
    rw [if_neg h0] at e
    subst e
    go_enter Tryd.func94, Tryd.ntmps94
    go_wp2_with fail
    refine HI.out.mono ?_
    rintro e w' ⟨rfl, rfl⟩
    go_wp2_with fail
    go_ret3
    exact ⟨rfl, 0, rfl⟩

theorem cut_c (s : ByteArray) (c : UInt8) (w : World) (hs : s.size ≤ 1048576) :
    Calls Tryd.prog 75 #[.string s, .string ⟨#[c]⟩] w fun e w' => e = .returned (.tuple #[.string (cutB s c).1, .string (cutB s c).2.1, .bool (cutB s c).2.2]) ∧ ∃ q, w.drewN q = w' := by
  have H := Lib.hid (cutLite_c s c w hs)
  go_enter Tryd.func75, Tryd.ntmps75
  go_wp2_with fail
  refine H.out.mono ?_
  rintro e w' ⟨rfl, n, rfl⟩
  go_wp2_with fail
  go_ret3
  exact ⟨rfl, n, rfl⟩
end Go.Proofs.YtgjndondonehhaaDoor

/-
  ratio.Parse.
-/
namespace Go.Proofs.YtgjndondonehhaaDoor
open Go.RowKit NatMath RatMath

/-- The limbs of a text's number; none where it is no numeral. -/
noncomputable def pv (s : ByteArray) : List Int := if numB s then limbs (numG s 0 s.size) else []

theorem parseU_c (s : ByteArray) (w : World) (hs : s.size ≤ 40) :
    Calls Tryd.prog 76 #[.string s] w fun e w' => ∃ a n c, n ≤ 42 ∧ e = .returned (.tuple #[.slice a n c, .bool (numB s)]) ∧ Own 75 .u32 w.heap.size w' a n c (pv s) ∧ Below w.heap.size w w' := by
  by_cases hn : numB s = true
  · have hd : DigTo s s.size := by
      by_cases h : Numeral s
      · exact h.1
      · rw [numB_false h] at hn; cases hn
    refine (parse_c s w hs hn hd).mono ?_
    rintro e w' ⟨a, n, c, h1, rfl, o, b⟩
    exact ⟨a, n, c, h1, by rw [hn], by rw [pv, if_pos hn]; exact o, b⟩
  · have hf : numB s = false := by simpa using hn
    refine (parse_no_c s w hs hf).mono ?_
    rintro e w' ⟨rfl, rfl⟩
    exact ⟨none, 0, 0, by omega, by rw [hf], by rw [pv, if_neg hn]; exact own_nil _ _ _ _, Below.refl _ _⟩

/-- The text behind a leading '-'. -/
def unsigned (s : ByteArray) : ByteArray := ⟨(Lib.trimPrefix s.data.toList [45]).toArray⟩
def signed (s : ByteArray) : Bool := Lib.hasPrefix s.data.toList [45]
/-- The parts that Parse reads. -/
def numT (s : ByteArray) : ByteArray := (cutB (unsigned s) 47).1
def denT (s : ByteArray) : ByteArray := if (cutB (unsigned s) 47).2.2 then (cutB (unsigned s) 47).2.1 else ⟨#[49]⟩
/-- Whether Parse takes s. -/
noncomputable def okP (s : ByteArray) : Bool := numB (numT s) && numB (denT s) && !(decide (denT s = ⟨#[49]⟩) && (cutB (unsigned s) 47).2.2) && validR (signed s) (pv (numT s)) (pv (denT s))

theorem unsigned_size (s : ByteArray) : (unsigned s).size ≤ s.size := by
  unfold unsigned Lib.trimPrefix
  show (List.toArray _).size ≤ s.data.size
  split <;> simp
theorem cut_size (s : ByteArray) (c : UInt8) : (cutB s c).1.size ≤ s.size ∧ (cutB s c).2.1.size ≤ s.size := by
  unfold cutB
  split
  · simp only [ByteArray.size_extract]; omega
  · exact ⟨Nat.le_refl _, Nat.zero_le _⟩

theorem toList_49 (b : ByteArray) : b.toList = [49] ↔ b = ⟨#[49]⟩ := by
  rw [ByteArray.toList_eq]
  constructor
  · intro h
    obtain ⟨⟨l⟩⟩ := b
    simp at h
    rw [h]
  · intro h
    rw [h]

set_option maxHeartbeats 6400000 in
set_option maxRecDepth 100000 in
theorem rparse_c (s : ByteArray) (w : World) (hs : s.size ≤ 1048576) (hnt : (numT s).size ≤ 40) (hdt : (denT s).size ≤ 40) :
    Calls Tryd.prog 44 #[.string s] w fun e w' => ∃ b a n c a' n' c', e = .returned (.tuple #[.agg #[.bool b, .slice a n c, .slice a' n' c'], .bool (okP s)]) ∧ n ≤ 42 ∧ n' ≤ 42 ∧ (okP s = true → b = signed s ∧ Own 75 .u32 w.heap.size w' a n c (pv (numT s)) ∧ Own 75 .u32 w.heap.size w' a' n' c' (pv (denT s))) ∧ (okP s = false → b = false ∧ Own 75 .u32 w.heap.size w' a n c [] ∧ Own 75 .u32 w.heap.size w' a' n' c' []) ∧ Below w.heap.size w w' := by
  have s0 := unsigned_size s
  obtain ⟨s1, s2⟩ := cut_size (unsigned s) 47
  have hp := fun w => Tryd.strings_CutPrefix s ⟨#[45]⟩ w
  obtain ⟨U, hU⟩ : ∃ U, Hid (U = unsigned s) := ⟨_, rfl⟩
  obtain ⟨G, hG⟩ : ∃ G, Hid (G = signed s) := ⟨_, rfl⟩
  have HP : Hid (∀ w, Calls Tryd.prog 74 #[.string s, .string ⟨#[45]⟩] w fun e w' => e = .returned (.tuple #[.string U, .bool G]) ∧ w' = w) := by
    show ∀ w, _
    rw [hU.out, hG.out]
    exact hp
  clear hp
  have HC := Lib.hid (fun w => cut_c U 47 w (by rw [hU.out]; omega))
  obtain ⟨K, hK⟩ : ∃ K, Hid (K = okP s) := ⟨_, rfl⟩
  have hden : denT s = if (cutB U 47).2.2 then (cutB U 47).2.1 else ⟨#[49]⟩ := by rw [hU.out]; rfl
  have hnum : numT s = (cutB U 47).1 := by rw [hU.out]; rfl
  have hkk : K = (numB (numT s) && numB (denT s) && !(decide (denT s = ⟨#[49]⟩) && (cutB U 47).2.2) && validR G (pv (numT s)) (pv (denT s))) := by rw [hK.out, hU.out, hG.out]; rfl
  rw [hden, hnum] at hkk
  rw [hnum] at hnt
  rw [hden] at hdt
  rw [hden, hnum, ← hK.out, ← hG.out]
  rw [← hU.out] at s0 s1 s2
  obtain ⟨⟨NT, D0, F⟩, hT⟩ : ∃ z, Hid (z = cutB U 47) := ⟨_, rfl⟩
  rw [← hT.out] at hkk s1 s2 HC hnt hdt ⊢
  dsimp only at hkk s1 s2 HC hnt hdt ⊢
  clear hden hnum hT hK
  clear hU hG
  have HN := Lib.hid (fun w => parseU_c NT w hnt)
  clear hnt
  cases F with
  | true =>
    have hds : (D0 : ByteArray).size ≤ 40 := by simpa using hdt
    have HD := Lib.hid (fun w => parseU_c D0 w hds)
    simp only [if_true, Bool.and_true] at hkk ⊢
    have HK := Lib.hid hkk
    clear hkk s0 s1 s2 hds hdt
    obtain ⟨N1, hN1⟩ : ∃ z, Hid (z = numB NT) := ⟨_, rfl⟩
    obtain ⟨N2, hN2⟩ : ∃ z, Hid (z = numB D0) := ⟨_, rfl⟩
    rw [← hN1.out] at HN HK
    rw [← hN2.out] at HD HK
    clear hN1 hN2
    obtain ⟨X, hX⟩ : ∃ z, Hid (z = pv NT) := ⟨_, rfl⟩
    obtain ⟨Y, hY⟩ : ∃ z, Hid (z = pv D0) := ⟨_, rfl⟩
    rw [← hX.out] at HN HK ⊢
    rw [← hY.out] at HD HK ⊢
    clear hX hY
    obtain ⟨E, hE⟩ : ∃ z, Hid (z = decide (D0 = ⟨#[49]⟩)) := ⟨_, rfl⟩
    rw [← hE.out] at HK
    go_enter Tryd.func44, Tryd.ntmps44
    go_wp2_with fail
    have kZ := Blk.new w 47 #[.bool false, .slice none 0 0, .slice none 0 0]
    have bb := (Below.refl w.heap.size w).alloc (Nat.le_refl _) (.cells #[.bool false, .slice none 0 0, .slice none 0 0] 47)
    obtain ⟨W0, hW0⟩ : ∃ W0, W0 = w.alloc (.cells #[.bool false, .slice none 0 0, .slice none 0 0] 47) := ⟨_, rfl⟩
    rw [← hW0] at kZ bb ⊢
    clear hW0
    refine (HP.out _).mono ?_
    rintro e w' ⟨rfl, rfl⟩
    go_wp2_with fail
    refine (HC.out _).mono ?_
    rintro e w' ⟨rfl, q, rfl⟩
    have kZ := kZ.drewN q
    have bb := below_drewN bb q
    go_wp2_with fail
    refine (HN.out _).mono ?_
    rintro e w1 ⟨a1, n1, c1, hn1, rfl, o1, B1⟩
    have o1 := o1.low kZ.lt
    have kZ := kZ.on B1
    have bb := bb.trans (B1.mono bb.size)
    clear B1
    go_wp2_with fail
    refine (HD.out _).mono ?_
    rintro e w2 ⟨a2, n2, c2, hn2, rfl, o2, B2⟩
    have o2 := o2.low kZ.lt
    have kZ := kZ.on B2
    have o1 := o1.kept B2
    have bb := bb.trans (B2.mono bb.size)
    clear B2
    have o1 := o1.kept ((Below.refl w2.heap.size w2).alloc (Nat.le_refl _) (.cells #[.bool G, .slice a1 n1 c1, .slice a2 n2 c2] 47))
    have o2 := o2.kept ((Below.refl w2.heap.size w2).alloc (Nat.le_refl _) (.cells #[.bool G, .slice a1 n1 c1, .slice a2 n2 c2] 47))
    have kA := Blk.new w2 47 #[.bool G, .slice a1 n1 c1, .slice a2 n2 c2]
    have kZ := kZ.alloc (.cells #[.bool G, .slice a1 n1 c1, .slice a2 n2 c2] 47)
    have bb := bb.alloc bb.size (.cells #[.bool G, .slice a1 n1 c1, .slice a2 n2 c2] 47)
    have HB := Lib.hid bb
    have HO1 := Lib.hid o1
    have HO2 := Lib.hid o2
    obtain ⟨y0, y1, y2⟩ := kA.cells3
    obtain ⟨q0, q1, q2, q3, q4, q5⟩ := kZ.store3 (.bool false) (.slice none 0 0)
    have HA := Lib.hid kA
    have HZ := Lib.hid kZ
    clear bb o1 o2 kA kZ
    cases N1 with
    | false =>
      go_wp2_with fail
      have pbox := HZ.out.put3 (.bool false) (.slice none 0 0) (.slice none 0 0)
      have pbel := below_put3 HB.out (Nat.le_refl _) (.bool false) (.slice none 0 0) (.slice none 0 0)
      change bodyPost _ _ _ _ _ (put3 (w2.alloc (.cells #[.bool G, .slice a1 n1 c1, .slice a2 n2 c2] 47)) w.heap.size (.bool false) (.slice none 0 0) (.slice none 0 0))
      obtain ⟨W, hW⟩ : ∃ W, W = put3 (w2.alloc (.cells #[.bool G, .slice a1 n1 c1, .slice a2 n2 c2] 47)) w.heap.size (.bool false) (.slice none 0 0) (.slice none 0 0) := ⟨_, rfl⟩
      rw [← hW] at pbox pbel ⊢
      obtain ⟨r0, r1, r2⟩ := pbox.cells3
      refine bodyPost_ret (v := .tuple #[.agg #[.bool false, .slice none 0 0, .slice none 0 0], .bool false]) (by simp [results, Tryd.results44, go_sem, r0, r1, r2]) rfl ?_
      have hk : K = false := by rw [HK.out]; rfl
      exact ⟨false, none, 0, 0, none, 0, 0, by rw [hk], by omega, by omega, (fun h => by rw [hk] at h; cases h), fun _ => ⟨rfl, own_nil _ _ _ _, own_nil _ _ _ _⟩, pbel⟩
    | true =>
      cases N2 with
      | false =>
        go_wp2_with fail
        have pbox := HZ.out.put3 (.bool false) (.slice none 0 0) (.slice none 0 0)
        have pbel := below_put3 HB.out (Nat.le_refl _) (.bool false) (.slice none 0 0) (.slice none 0 0)
        change bodyPost _ _ _ _ _ (put3 (w2.alloc (.cells #[.bool G, .slice a1 n1 c1, .slice a2 n2 c2] 47)) w.heap.size (.bool false) (.slice none 0 0) (.slice none 0 0))
        obtain ⟨W, hW⟩ : ∃ W, W = put3 (w2.alloc (.cells #[.bool G, .slice a1 n1 c1, .slice a2 n2 c2] 47)) w.heap.size (.bool false) (.slice none 0 0) (.slice none 0 0) := ⟨_, rfl⟩
        rw [← hW] at pbox pbel ⊢
        obtain ⟨r0, r1, r2⟩ := pbox.cells3
        refine bodyPost_ret (v := .tuple #[.agg #[.bool false, .slice none 0 0, .slice none 0 0], .bool false]) (by simp [results, Tryd.results44, go_sem, r0, r1, r2]) rfl ?_
        have hk : K = false := by rw [HK.out]; rfl
        exact ⟨false, none, 0, 0, none, 0, 0, by rw [hk], by omega, by omega, (fun h => by rw [hk] at h; cases h), fun _ => ⟨rfl, own_nil _ _ _ _, own_nil _ _ _ _⟩, pbel⟩
      | true =>
        by_cases hE49 : D0.toList = [49]
        · have he : E = true := by rw [hE.out]; exact decide_eq_true ((toList_49 D0).mp hE49)
          subst he
          go_wp2_with fail
          have pbox := HZ.out.put3 (.bool false) (.slice none 0 0) (.slice none 0 0)
          have pbel := below_put3 HB.out (Nat.le_refl _) (.bool false) (.slice none 0 0) (.slice none 0 0)
          change bodyPost _ _ _ _ _ (put3 (w2.alloc (.cells #[.bool G, .slice a1 n1 c1, .slice a2 n2 c2] 47)) w.heap.size (.bool false) (.slice none 0 0) (.slice none 0 0))
          obtain ⟨W, hW⟩ : ∃ W, W = put3 (w2.alloc (.cells #[.bool G, .slice a1 n1 c1, .slice a2 n2 c2] 47)) w.heap.size (.bool false) (.slice none 0 0) (.slice none 0 0) := ⟨_, rfl⟩
          rw [← hW] at pbox pbel ⊢
          obtain ⟨r0, r1, r2⟩ := pbox.cells3
          refine bodyPost_ret (v := .tuple #[.agg #[.bool false, .slice none 0 0, .slice none 0 0], .bool false]) (by simp [results, Tryd.results44, go_sem, r0, r1, r2]) rfl ?_
          have hk : K = false := by rw [HK.out]; rfl
          exact ⟨false, none, 0, 0, none, 0, 0, by rw [hk], by omega, by omega, (fun h => by rw [hk] at h; cases h), fun _ => ⟨rfl, own_nil _ _ _ _, own_nil _ _ _ _⟩, pbel⟩
        · have he : E = false := by rw [hE.out]; exact decide_eq_false (fun h => hE49 ((toList_49 D0).mpr h))
          subst he
          have HVC := Lib.hid (valid_c G a1 a2 n1 c1 n2 c2 X Y _ HO1.out.lst HO2.out.lst (by omega) (by omega))
          obtain ⟨V, hV⟩ : ∃ V, Hid (V = validR G X Y) := ⟨_, rfl⟩
          rw [← hV.out] at HVC HK
          clear hV
          go_wp2_with fail
          refine HVC.out.mono ?_
          rintro e w3 ⟨rfl, B3⟩
          have HB3 := Lib.hid (HB.out.trans (B3.mono HB.out.size))
          have HO13 := Lib.hid (HO1.out.kept B3)
          have HO23 := Lib.hid (HO2.out.kept B3)
          have hZ3 := HZ.out.on B3
          obtain ⟨y0, y1, y2⟩ := (HA.out.on B3).cells3
          have HZ3 := Lib.hid hZ3
          clear B3
          cases V with
          | false =>
            obtain ⟨q0, q1, q2, q3, q4, q5⟩ := HZ3.out.store3 (.bool false) (.slice none 0 0)
            clear hZ3
            go_wp2_with fail
            have pbox := HZ3.out.put3 (.bool false) (.slice none 0 0) (.slice none 0 0)
            have pbel := below_put3 HB3.out (Nat.le_refl _) (.bool false) (.slice none 0 0) (.slice none 0 0)
            change bodyPost _ _ _ _ _ (put3 w3 w.heap.size (.bool false) (.slice none 0 0) (.slice none 0 0))
            obtain ⟨W, hW⟩ : ∃ W, W = put3 w3 w.heap.size (.bool false) (.slice none 0 0) (.slice none 0 0) := ⟨_, rfl⟩
            rw [← hW] at pbox pbel ⊢
            obtain ⟨r0, r1, r2⟩ := pbox.cells3
            refine bodyPost_ret (v := .tuple #[.agg #[.bool false, .slice none 0 0, .slice none 0 0], .bool false]) (by simp [results, Tryd.results44, go_sem, r0, r1, r2]) rfl ?_
            have hk : K = false := by rw [HK.out]; rfl
            exact ⟨false, none, 0, 0, none, 0, 0, by rw [hk], by omega, by omega, (fun h => by rw [hk] at h; cases h), fun _ => ⟨rfl, own_nil _ _ _ _, own_nil _ _ _ _⟩, pbel⟩
          | true =>
            obtain ⟨q0, q1, q2, q3, q4, q5⟩ := HZ3.out.store3 (.bool G) (.slice a1 n1 c1)
            clear hZ3
            go_wp2_with fail
            have pbox := HZ3.out.put3 (.bool G) (.slice a1 n1 c1) (.slice a2 n2 c2)
            have pbel := below_put3 HB3.out (Nat.le_refl _) (.bool G) (.slice a1 n1 c1) (.slice a2 n2 c2)
            have p1 := (HO13.out.put3 (HO13.out.hi (g := w.heap.size) (Nat.lt_succ_self _)) (.bool G) (.slice a1 n1 c1) (.slice a2 n2 c2)).low (Nat.le_succ _)
            have p2 := (HO23.out.put3 (HO23.out.hi (g := w.heap.size) (Nat.lt_succ_self _)) (.bool G) (.slice a1 n1 c1) (.slice a2 n2 c2)).low (Nat.le_succ _)
            change bodyPost _ _ _ _ _ (put3 w3 w.heap.size (.bool G) (.slice a1 n1 c1) (.slice a2 n2 c2))
            obtain ⟨W, hW⟩ : ∃ W, W = put3 w3 w.heap.size (.bool G) (.slice a1 n1 c1) (.slice a2 n2 c2) := ⟨_, rfl⟩
            rw [← hW] at pbox pbel p1 p2 ⊢
            obtain ⟨r0, r1, r2⟩ := pbox.cells3
            refine bodyPost_ret (v := .tuple #[.agg #[.bool G, .slice a1 n1 c1, .slice a2 n2 c2], .bool true]) (by simp [results, Tryd.results44, go_sem, r0, r1, r2]) rfl ?_
            have hk : K = true := by rw [HK.out]; rfl
            exact ⟨G, a1, n1, c1, a2, n2, c2, by rw [hk], hn1, hn2, fun _ => ⟨rfl, p1, p2⟩, (fun h => by rw [hk] at h; cases h), pbel⟩
  | false =>
    have hds : (⟨#[49]⟩ : ByteArray).size ≤ 40 := by show (1 : Nat) ≤ 40; omega
    have HD := Lib.hid (fun w => parseU_c ⟨#[49]⟩ w hds)
    simp only [Bool.false_eq_true, if_false, Bool.and_false, Bool.not_false, Bool.and_true] at hkk ⊢
    have HK := Lib.hid hkk
    clear hkk s0 s1 s2 hds hdt
    obtain ⟨N1, hN1⟩ : ∃ z, Hid (z = numB NT) := ⟨_, rfl⟩
    obtain ⟨N2, hN2⟩ : ∃ z, Hid (z = numB ⟨#[49]⟩) := ⟨_, rfl⟩
    rw [← hN1.out] at HN HK
    rw [← hN2.out] at HD HK
    clear hN1 hN2
    obtain ⟨X, hX⟩ : ∃ z, Hid (z = pv NT) := ⟨_, rfl⟩
    obtain ⟨Y, hY⟩ : ∃ z, Hid (z = pv ⟨#[49]⟩) := ⟨_, rfl⟩
    rw [← hX.out] at HN HK ⊢
    rw [← hY.out] at HD HK ⊢
    clear hX hY
    go_enter Tryd.func44, Tryd.ntmps44
    go_wp2_with fail
    have kZ := Blk.new w 47 #[.bool false, .slice none 0 0, .slice none 0 0]
    have bb := (Below.refl w.heap.size w).alloc (Nat.le_refl _) (.cells #[.bool false, .slice none 0 0, .slice none 0 0] 47)
    obtain ⟨W0, hW0⟩ : ∃ W0, W0 = w.alloc (.cells #[.bool false, .slice none 0 0, .slice none 0 0] 47) := ⟨_, rfl⟩
    rw [← hW0] at kZ bb ⊢
    clear hW0
    refine (HP.out _).mono ?_
    rintro e w' ⟨rfl, rfl⟩
    go_wp2_with fail
    refine (HC.out _).mono ?_
    rintro e w' ⟨rfl, q, rfl⟩
    have kZ := kZ.drewN q
    have bb := below_drewN bb q
    go_wp2_with fail
    refine (HN.out _).mono ?_
    rintro e w1 ⟨a1, n1, c1, hn1, rfl, o1, B1⟩
    have o1 := o1.low kZ.lt
    have kZ := kZ.on B1
    have bb := bb.trans (B1.mono bb.size)
    clear B1
    go_wp2_with fail
    refine (HD.out _).mono ?_
    rintro e w2 ⟨a2, n2, c2, hn2, rfl, o2, B2⟩
    have o2 := o2.low kZ.lt
    have kZ := kZ.on B2
    have o1 := o1.kept B2
    have bb := bb.trans (B2.mono bb.size)
    clear B2
    have o1 := o1.kept ((Below.refl w2.heap.size w2).alloc (Nat.le_refl _) (.cells #[.bool G, .slice a1 n1 c1, .slice a2 n2 c2] 47))
    have o2 := o2.kept ((Below.refl w2.heap.size w2).alloc (Nat.le_refl _) (.cells #[.bool G, .slice a1 n1 c1, .slice a2 n2 c2] 47))
    have kA := Blk.new w2 47 #[.bool G, .slice a1 n1 c1, .slice a2 n2 c2]
    have kZ := kZ.alloc (.cells #[.bool G, .slice a1 n1 c1, .slice a2 n2 c2] 47)
    have bb := bb.alloc bb.size (.cells #[.bool G, .slice a1 n1 c1, .slice a2 n2 c2] 47)
    have HB := Lib.hid bb
    have HO1 := Lib.hid o1
    have HO2 := Lib.hid o2
    obtain ⟨y0, y1, y2⟩ := kA.cells3
    obtain ⟨q0, q1, q2, q3, q4, q5⟩ := kZ.store3 (.bool false) (.slice none 0 0)
    have HA := Lib.hid kA
    have HZ := Lib.hid kZ
    clear bb o1 o2 kA kZ
    cases N1 with
    | false =>
      go_wp2_with fail
      have pbox := HZ.out.put3 (.bool false) (.slice none 0 0) (.slice none 0 0)
      have pbel := below_put3 HB.out (Nat.le_refl _) (.bool false) (.slice none 0 0) (.slice none 0 0)
      change bodyPost _ _ _ _ _ (put3 (w2.alloc (.cells #[.bool G, .slice a1 n1 c1, .slice a2 n2 c2] 47)) w.heap.size (.bool false) (.slice none 0 0) (.slice none 0 0))
      obtain ⟨W, hW⟩ : ∃ W, W = put3 (w2.alloc (.cells #[.bool G, .slice a1 n1 c1, .slice a2 n2 c2] 47)) w.heap.size (.bool false) (.slice none 0 0) (.slice none 0 0) := ⟨_, rfl⟩
      rw [← hW] at pbox pbel ⊢
      obtain ⟨r0, r1, r2⟩ := pbox.cells3
      refine bodyPost_ret (v := .tuple #[.agg #[.bool false, .slice none 0 0, .slice none 0 0], .bool false]) (by simp [results, Tryd.results44, go_sem, r0, r1, r2]) rfl ?_
      have hk : K = false := by rw [HK.out]; rfl
      exact ⟨false, none, 0, 0, none, 0, 0, by rw [hk], by omega, by omega, (fun h => by rw [hk] at h; cases h), fun _ => ⟨rfl, own_nil _ _ _ _, own_nil _ _ _ _⟩, pbel⟩
    | true =>
      cases N2 with
      | false =>
        go_wp2_with fail
        have pbox := HZ.out.put3 (.bool false) (.slice none 0 0) (.slice none 0 0)
        have pbel := below_put3 HB.out (Nat.le_refl _) (.bool false) (.slice none 0 0) (.slice none 0 0)
        change bodyPost _ _ _ _ _ (put3 (w2.alloc (.cells #[.bool G, .slice a1 n1 c1, .slice a2 n2 c2] 47)) w.heap.size (.bool false) (.slice none 0 0) (.slice none 0 0))
        obtain ⟨W, hW⟩ : ∃ W, W = put3 (w2.alloc (.cells #[.bool G, .slice a1 n1 c1, .slice a2 n2 c2] 47)) w.heap.size (.bool false) (.slice none 0 0) (.slice none 0 0) := ⟨_, rfl⟩
        rw [← hW] at pbox pbel ⊢
        obtain ⟨r0, r1, r2⟩ := pbox.cells3
        refine bodyPost_ret (v := .tuple #[.agg #[.bool false, .slice none 0 0, .slice none 0 0], .bool false]) (by simp [results, Tryd.results44, go_sem, r0, r1, r2]) rfl ?_
        have hk : K = false := by rw [HK.out]; rfl
        exact ⟨false, none, 0, 0, none, 0, 0, by rw [hk], by omega, by omega, (fun h => by rw [hk] at h; cases h), fun _ => ⟨rfl, own_nil _ _ _ _, own_nil _ _ _ _⟩, pbel⟩
      | true =>
        have HVC := Lib.hid (valid_c G a1 a2 n1 c1 n2 c2 X Y _ HO1.out.lst HO2.out.lst (by omega) (by omega))
        obtain ⟨V, hV⟩ : ∃ V, Hid (V = validR G X Y) := ⟨_, rfl⟩
        rw [← hV.out] at HVC HK
        clear hV
        go_wp2_with fail
        refine HVC.out.mono ?_
        rintro e w3 ⟨rfl, B3⟩
        have HB3 := Lib.hid (HB.out.trans (B3.mono HB.out.size))
        have HO13 := Lib.hid (HO1.out.kept B3)
        have HO23 := Lib.hid (HO2.out.kept B3)
        have hZ3 := HZ.out.on B3
        obtain ⟨y0, y1, y2⟩ := (HA.out.on B3).cells3
        have HZ3 := Lib.hid hZ3
        clear B3
        cases V with
        | false =>
          obtain ⟨q0, q1, q2, q3, q4, q5⟩ := HZ3.out.store3 (.bool false) (.slice none 0 0)
          clear hZ3
          go_wp2_with fail
          have pbox := HZ3.out.put3 (.bool false) (.slice none 0 0) (.slice none 0 0)
          have pbel := below_put3 HB3.out (Nat.le_refl _) (.bool false) (.slice none 0 0) (.slice none 0 0)
          change bodyPost _ _ _ _ _ (put3 w3 w.heap.size (.bool false) (.slice none 0 0) (.slice none 0 0))
          obtain ⟨W, hW⟩ : ∃ W, W = put3 w3 w.heap.size (.bool false) (.slice none 0 0) (.slice none 0 0) := ⟨_, rfl⟩
          rw [← hW] at pbox pbel ⊢
          obtain ⟨r0, r1, r2⟩ := pbox.cells3
          refine bodyPost_ret (v := .tuple #[.agg #[.bool false, .slice none 0 0, .slice none 0 0], .bool false]) (by simp [results, Tryd.results44, go_sem, r0, r1, r2]) rfl ?_
          have hk : K = false := by rw [HK.out]; rfl
          exact ⟨false, none, 0, 0, none, 0, 0, by rw [hk], by omega, by omega, (fun h => by rw [hk] at h; cases h), fun _ => ⟨rfl, own_nil _ _ _ _, own_nil _ _ _ _⟩, pbel⟩
        | true =>
          obtain ⟨q0, q1, q2, q3, q4, q5⟩ := HZ3.out.store3 (.bool G) (.slice a1 n1 c1)
          clear hZ3
          go_wp2_with fail
          have pbox := HZ3.out.put3 (.bool G) (.slice a1 n1 c1) (.slice a2 n2 c2)
          have pbel := below_put3 HB3.out (Nat.le_refl _) (.bool G) (.slice a1 n1 c1) (.slice a2 n2 c2)
          have p1 := (HO13.out.put3 (HO13.out.hi (g := w.heap.size) (Nat.lt_succ_self _)) (.bool G) (.slice a1 n1 c1) (.slice a2 n2 c2)).low (Nat.le_succ _)
          have p2 := (HO23.out.put3 (HO23.out.hi (g := w.heap.size) (Nat.lt_succ_self _)) (.bool G) (.slice a1 n1 c1) (.slice a2 n2 c2)).low (Nat.le_succ _)
          change bodyPost _ _ _ _ _ (put3 w3 w.heap.size (.bool G) (.slice a1 n1 c1) (.slice a2 n2 c2))
          obtain ⟨W, hW⟩ : ∃ W, W = put3 w3 w.heap.size (.bool G) (.slice a1 n1 c1) (.slice a2 n2 c2) := ⟨_, rfl⟩
          rw [← hW] at pbox pbel p1 p2 ⊢
          obtain ⟨r0, r1, r2⟩ := pbox.cells3
          refine bodyPost_ret (v := .tuple #[.agg #[.bool G, .slice a1 n1 c1, .slice a2 n2 c2], .bool true]) (by simp [results, Tryd.results44, go_sem, r0, r1, r2]) rfl ?_
          have hk : K = true := by rw [HK.out]; rfl
          exact ⟨G, a1, n1, c1, a2, n2, c2, by rw [hk], hn1, hn2, fun _ => ⟨rfl, p1, p2⟩, (fun h => by rw [hk] at h; cases h), pbel⟩
end Go.Proofs.YtgjndondonehhaaDoor

/-
  ratio.Text.
-/
namespace Go.Proofs.YtgjndondonehhaaDoor
open Go.RowKit NatMath RatMath

/-- Decimal digits. -/
def dg (v : Nat) : ByteArray := ⟨(Lib.decDigits v).toArray⟩
/-- The text of a number in normal form. -/
def tx (z : R) : ByteArray := if z.q = 1 then (if z.s then ⟨#[45]⟩ ++ dg z.p else dg z.p) else (if z.s then ⟨#[45]⟩ ++ dg z.p else dg z.p) ++ (⟨#[47]⟩ ++ dg z.q)
theorem dg_size {v : Nat} (h : v < 2 ^ 160) : (dg v).size ≤ 49 := by
  rw [dg, dec_size]
  exact dec_len 48 v (Nat.lt_of_lt_of_le h (by decide))

set_option maxHeartbeats 3200000 in
set_option maxRecDepth 100000 in
theorem rtext_c (s : Bool) (ao bo : Option Addr) (n c m d : Nat) (xs ys : List Int) (w : World) (h : Lst .u32 w ao n c xs) (k : Lst .u32 w bo m d ys) (hn : n ≤ 4) (hm : m ≤ 4) (htab : Tab w) :
    Calls Tryd.prog 43 #[.agg #[.bool s, .slice ao n c, .slice bo m d]] w fun e w' => e = .returned (.string (tx (nf ⟨s, val xs, val ys⟩))) ∧ Below w.heap.size w w' := by
  obtain ⟨z, hz⟩ : ∃ z, Hid (z = nf ⟨s, val xs, val ys⟩) := ⟨_, rfl⟩
  have HN := fun w1 (hb : Below w.heap.size w w1) => normal_c s ao bo n c m d xs ys w1 (h.below hb) (k.below hb) (by omega) (by omega)
  rw [← hz.out] at HN ⊢
  clear h k hz
  obtain ⟨t0, P, Q⟩ := z
  dsimp only at HN
  obtain ⟨T, hT⟩ : ∃ T, Hid (T = tx ⟨t0, P, Q⟩) := ⟨_, rfl⟩
  rw [← hT.out]
  have HN := Lib.hid HN
  have HT := Lib.hid htab
  clear htab
  go_enter Tryd.func43, Tryd.ntmps43
  go_wp2_with fail
  have kA := Blk.new w 47 #[.bool s, .slice ao n c, .slice bo m d]
  have bb := (Below.refl w.heap.size w).alloc (Nat.le_refl _) (.cells #[.bool s, .slice ao n c, .slice bo m d] 47)
  obtain ⟨W0, hW0⟩ : ∃ W0, W0 = w.alloc (.cells #[.bool s, .slice ao n c, .slice bo m d] 47) := ⟨_, rfl⟩
  rw [← hW0] at kA bb ⊢
  refine (HN.out W0 bb).mono ?_
  rintro e w1 ⟨t, a1, n1, c1, b1, m1, d1, rfl, ht, o1, o2, hn1, hm1, B1⟩
  have K1 := kA.on B1
  have BB1 := bb.trans (B1.mono bb.size)
  obtain ⟨q0, q1, q2, q3, q4, q5⟩ := K1.store3 (.bool t) (.slice a1 n1 c1)
  have h3 := o1.hi (g := w.heap.size) kA.lt
  have h4 := o2.hi (g := w.heap.size) kA.lt
  have O1 := (o1.low bb.size).put3 h3 (.bool t) (.slice a1 n1 c1) (.slice b1 m1 d1)
  have O2 := (o2.low bb.size).put3 h4 (.bool t) (.slice a1 n1 c1) (.slice b1 m1 d1)
  have K2 := K1.put3 (.bool t) (.slice a1 n1 c1) (.slice b1 m1 d1)
  have BB2 := below_put3 BB1 (Nat.le_refl _) (.bool t) (.slice a1 n1 c1) (.slice b1 m1 d1)
  obtain ⟨r0, r1, r2⟩ := K2.cells3
  subst ht
  have HO1 := Lib.hid O1; have HO2 := Lib.hid O2; have HB2 := Lib.hid BB2; have HK2 := Lib.hid K2
  have hx1 := text_c _ _ _ _ _ O1.lst (by omega) (HT.out.below BB2)
  rw [val_limbs] at hx1
  unfold put3 at r0 r1 r2 hx1
  have HX1 := Lib.hid hx1
  clear o1 o2 B1 hW0 bb kA O1 O2 BB2 BB1 K1 K2 h3 h4 hx1
  go_wp2_with fail
  refine HX1.out.mono ?_
  obtain ⟨D1, hD1⟩ : ∃ D1, Hid (D1 = dg P) := ⟨_, rfl⟩
  obtain ⟨D2, hD2⟩ : ∃ D2, Hid (D2 = dg Q) := ⟨_, rfl⟩
  have hPb : P < 2 ^ 160 := by
    have h1 := val_lt (limbs_ok P)
    rw [val_limbs, HO1.out.len] at h1
    have h2 : 4294967296 ^ n1 ≤ 4294967296 ^ 5 := Nat.pow_le_pow_right (by omega) (by omega)
    have h3 : (4294967296 : Nat) ^ 5 ≤ 2 ^ 160 := by decide
    omega
  have hQb : Q < 2 ^ 160 := by
    have h1 := val_lt (limbs_ok Q)
    rw [val_limbs, HO2.out.len] at h1
    have h2 : 4294967296 ^ m1 ≤ 4294967296 ^ 5 := Nat.pow_le_pow_right (by omega) (by omega)
    have h3 : (4294967296 : Nat) ^ 5 ≤ 2 ^ 160 := by decide
    omega
  have hs1 := dg_size hPb
  have hs2 := dg_size hQb
  rw [← hD1.out] at hs1
  rw [← hD2.out] at hs2
  clear hPb hQb
  rintro e w2 ⟨he, B2⟩
  have he2 : e = .returned (.string D1) := by rw [he, hD1.out]; rfl
  clear he
  subst he2
  have K3 := HK2.out.on B2
  have O1 := Lib.hid (HO1.out.kept B2)
  have O2 := Lib.hid (HO2.out.kept B2)
  have BB3 := Lib.hid (HB2.out.trans (B2.mono HB2.out.size))
  obtain ⟨y0, y1, y2⟩ := K3.cells3
  have DK : Hid (Blk w2.drew w.heap.size 47 #[.bool t, .slice a1 n1 c1, .slice b1 m1 d1]) := K3
  have DL : Hid (Lst .u32 w2.drew b1 m1 d1 (limbs Q)) := O2.out.lst.drewN 1
  have DB : Hid (Below w.heap.size w w2.drew) := BB3.out.drew
  clear K3 B2 r0 r1 r2 HO1 HO2 HB2 HK2
  cases t with
  | true =>
    have hcat : (({ data := #[45] } : ByteArray) ++ D1).size = 1 + D1.size := by rw [ByteArray.size_append]; rfl
    by_cases hq : Q = 1
    · have hc : cmpI (Q : Int) ((Int.toNat 1 : Nat) : Int) = 0 := by rw [hq]; decide
      have HTX : Hid (T = (⟨#[45]⟩ ++ D1)) := by show _ = _; rw [hT.out, hD1.out]; unfold tx; rw [if_pos hq]; rfl
      clear hq
      go_wp2_with fail
      go_region_held3 (fun w' => w'.cell? ⟨w.heap.size, 0, none⟩ = some (.bool true) ∧ w'.cell? ⟨w.heap.size, 1, none⟩ = some (.slice a1 n1 c1) ∧ w'.cell? ⟨w.heap.size, 2, none⟩ = some (.slice b1 m1 d1)) (go_keep) (first
        | (go_at_call 53; refine (of_c 1 w2.drew (by omega) (by omega)).mono ?_; rintro e v1 ⟨a3, n3, c3, hn3, rfl, o3, B1⟩; have A1 := DK.out.on B1; obtain ⟨z0, z1, z2⟩ := A1.cells3; have BB1 := DB.out.trans (B1.mono DB.out.size); have L1 := DL.out.below B1; have L3 := o3.lst)
        | (go_at_call 19; have hcm := cmp_c b1 a3 m1 d1 n3 c3 (limbs Q) (limbs (Int.toNat 1)) v1 L1 L3; rw [val_limbs, val_limbs, hc] at hcm; refine hcm.mono ?_; rintro e v2 ⟨rfl, q, rfl⟩; have BB2 := below_drewN BB1 q; clear hcm))
      go_wp2_with fail
      go_ret
      refine ⟨?_, ?_⟩
      · rw [HTX.out]; rfl
      · first
        | exact BB2
        | (rw [World.drewN_drewN] at BB2; exact BB2)
    · obtain ⟨g, hg⟩ : ∃ g, Hid (g = cmpI (Q : Int) ((Int.toNat 1 : Nat) : Int)) := ⟨_, rfl⟩
      have hg0 : (g == 0) = false := by
        rw [hg.out]
        unfold cmpI
        have : Int.toNat 1 = 1 := rfl
        rw [this]
        split
        · rfl
        · split
          · rfl
          · omega
      have HTX : Hid (T = (⟨#[45]⟩ ++ D1) ++ (⟨#[47]⟩ ++ D2)) := by show _ = _; rw [hT.out, hD1.out, hD2.out]; unfold tx; rw [if_neg hq]; rfl
      have hcat2 : (({ data := #[47] } : ByteArray) ++ D2).size = 1 + D2.size := by rw [ByteArray.size_append]; rfl
      clear hq
      go_wp2_with fail
      go_region_held3 (fun w' => w'.cell? ⟨w.heap.size, 0, none⟩ = some (.bool true) ∧ w'.cell? ⟨w.heap.size, 1, none⟩ = some (.slice a1 n1 c1) ∧ w'.cell? ⟨w.heap.size, 2, none⟩ = some (.slice b1 m1 d1)) (go_keep) (first
        | (go_at_call 53; refine (of_c 1 w2.drew (by omega) (by omega)).mono ?_; rintro e v1 ⟨a3, n3, c3, hn3, rfl, o3, B1⟩; have A1 := DK.out.on B1; obtain ⟨z0, z1, z2⟩ := A1.cells3; have BB1 := DB.out.trans (B1.mono DB.out.size); have L1 := DL.out.below B1; have L3 := o3.lst)
        | (go_at_call 19; have hcm := cmp_c b1 a3 m1 d1 n3 c3 (limbs Q) (limbs (Int.toNat 1)) v1 L1 L3; rw [val_limbs, val_limbs, ← hg.out] at hcm; refine hcm.mono ?_; rintro e v2 ⟨rfl, q, rfl⟩; have BB2 := below_drewN BB1 q; have A2 := A1.drewN q; obtain ⟨k0, k1, k2⟩ := A2.cells3; have L2 := L1.drewN q; clear hcm))
      have htb : Tab (v1.drewN q) := HT.out.below BB2
      have hx2 := text_c b1 m1 d1 (limbs Q) (v1.drewN q) L2 (by omega) htb
      rw [val_limbs] at hx2
      have HX2 := Lib.hid hx2
      clear hx2 htb
      go_wp2_with fail
      refine HX2.out.mono ?_
      rintro e v3 ⟨he, B3⟩
      have he2 : e = .returned (.string D2) := by rw [he, hD2.out]; rfl
      clear he
      subst he2
      go_wp2_with fail
      go_ret
      refine ⟨?_, BB2.trans (B3.mono BB2.size)⟩
      rw [HTX.out]
      rfl
  | false =>
    have hcat : (({ data := #[45] } : ByteArray) ++ D1).size = 1 + D1.size := by rw [ByteArray.size_append]; rfl
    by_cases hq : Q = 1
    · have hc : cmpI (Q : Int) ((Int.toNat 1 : Nat) : Int) = 0 := by rw [hq]; decide
      have HTX : Hid (T = D1) := by show _ = _; rw [hT.out, hD1.out]; unfold tx; rw [if_pos hq]; rfl
      clear hq
      go_wp2_with fail
      go_region_held3 (fun w' => w'.cell? ⟨w.heap.size, 0, none⟩ = some (.bool false) ∧ w'.cell? ⟨w.heap.size, 1, none⟩ = some (.slice a1 n1 c1) ∧ w'.cell? ⟨w.heap.size, 2, none⟩ = some (.slice b1 m1 d1)) (go_keep) (first
        | (go_at_call 53; refine (of_c 1 w2.drew (by omega) (by omega)).mono ?_; rintro e v1 ⟨a3, n3, c3, hn3, rfl, o3, B1⟩; have A1 := DK.out.on B1; obtain ⟨z0, z1, z2⟩ := A1.cells3; have BB1 := DB.out.trans (B1.mono DB.out.size); have L1 := DL.out.below B1; have L3 := o3.lst)
        | (go_at_call 19; have hcm := cmp_c b1 a3 m1 d1 n3 c3 (limbs Q) (limbs (Int.toNat 1)) v1 L1 L3; rw [val_limbs, val_limbs, hc] at hcm; refine hcm.mono ?_; rintro e v2 ⟨rfl, q, rfl⟩; have BB2 := below_drewN BB1 q; clear hcm))
      go_wp2_with fail
      go_ret
      refine ⟨?_, ?_⟩
      · rw [HTX.out]; rfl
      · first
        | exact BB2
        | (rw [World.drewN_drewN] at BB2; exact BB2)
    · obtain ⟨g, hg⟩ : ∃ g, Hid (g = cmpI (Q : Int) ((Int.toNat 1 : Nat) : Int)) := ⟨_, rfl⟩
      have hg0 : (g == 0) = false := by
        rw [hg.out]
        unfold cmpI
        have : Int.toNat 1 = 1 := rfl
        rw [this]
        split
        · rfl
        · split
          · rfl
          · omega
      have HTX : Hid (T = D1 ++ (⟨#[47]⟩ ++ D2)) := by show _ = _; rw [hT.out, hD1.out, hD2.out]; unfold tx; rw [if_neg hq]; rfl
      have hcat2 : (({ data := #[47] } : ByteArray) ++ D2).size = 1 + D2.size := by rw [ByteArray.size_append]; rfl
      clear hq
      go_wp2_with fail
      go_region_held3 (fun w' => w'.cell? ⟨w.heap.size, 0, none⟩ = some (.bool false) ∧ w'.cell? ⟨w.heap.size, 1, none⟩ = some (.slice a1 n1 c1) ∧ w'.cell? ⟨w.heap.size, 2, none⟩ = some (.slice b1 m1 d1)) (go_keep) (first
        | (go_at_call 53; refine (of_c 1 w2.drew (by omega) (by omega)).mono ?_; rintro e v1 ⟨a3, n3, c3, hn3, rfl, o3, B1⟩; have A1 := DK.out.on B1; obtain ⟨z0, z1, z2⟩ := A1.cells3; have BB1 := DB.out.trans (B1.mono DB.out.size); have L1 := DL.out.below B1; have L3 := o3.lst)
        | (go_at_call 19; have hcm := cmp_c b1 a3 m1 d1 n3 c3 (limbs Q) (limbs (Int.toNat 1)) v1 L1 L3; rw [val_limbs, val_limbs, ← hg.out] at hcm; refine hcm.mono ?_; rintro e v2 ⟨rfl, q, rfl⟩; have BB2 := below_drewN BB1 q; have A2 := A1.drewN q; obtain ⟨k0, k1, k2⟩ := A2.cells3; have L2 := L1.drewN q; clear hcm))
      have htb : Tab (v1.drewN q) := HT.out.below BB2
      have hx2 := text_c b1 m1 d1 (limbs Q) (v1.drewN q) L2 (by omega) htb
      rw [val_limbs] at hx2
      have HX2 := Lib.hid hx2
      clear hx2 htb
      go_wp2_with fail
      refine HX2.out.mono ?_
      rintro e v3 ⟨he, B3⟩
      have he2 : e = .returned (.string D2) := by rw [he, hD2.out]; rfl
      clear he
      subst he2
      go_wp2_with fail
      go_ret
      refine ⟨?_, BB2.trans (B3.mono BB2.size)⟩
      rw [HTX.out]
      rfl
end Go.Proofs.YtgjndondonehhaaDoor

/-
  ratio.Parse reads back what ratio.Text writes.
-/
namespace Go.Proofs.YtgjndondonehhaaDoor
open Go.RowKit NatMath RatMath

theorem indexByte_app (c : UInt8) (T : List UInt8) : ∀ (A : List UInt8), (∀ b ∈ A, b ≠ c) → Lib.indexByte (A ++ c :: T) c = A.length
  | [], _ => by simp [Lib.indexByte]
  | b :: A, h => by
    have ih := indexByte_app c T A (fun x hx => h x (List.mem_cons_of_mem _ hx))
    have hb : (b == c) = false := by simpa using h b (List.mem_cons_self ..)
    show Lib.indexByte (b :: (A ++ c :: T)) c = _
    unfold Lib.indexByte
    rw [hb, ih]
    have : (((A.length : Nat) : Int) == -1) = false := by simp
    simp [this]
theorem indexByte_not (c : UInt8) : ∀ (A : List UInt8), (∀ b ∈ A, b ≠ c) → Lib.indexByte A c = -1
  | [], _ => by simp [Lib.indexByte]
  | b :: A, h => by
    have ih := indexByte_not c A (fun x hx => h x (List.mem_cons_of_mem _ hx))
    have hb : (b == c) = false := by simpa using h b (List.mem_cons_self ..)
    unfold Lib.indexByte
    rw [hb, ih]
    rfl

theorem bytes_ext {a b : ByteArray} (h : a.data.toList = b.data.toList) : a = b := by
  obtain ⟨⟨x⟩⟩ := a
  obtain ⟨⟨y⟩⟩ := b
  simp at h
  rw [h]
theorem extract_list (b : ByteArray) (i j : Nat) : (b.extract i j).data.toList = (b.data.toList.drop i).take (j - i) := by
  simp [ByteArray.data_extract, List.extract_eq_take_drop]

theorem cutB_hit1 (b : ByteArray) (c : UInt8) (A T : List UInt8) (hb : b.data.toList = A ++ c :: T) (hA : ∀ x ∈ A, x ≠ c) : cutB b c = (⟨A.toArray⟩, ⟨T.toArray⟩, true) := by
  have hi := indexByte_app c T A hA
  rw [← hb] at hi
  unfold cutB
  rw [hi, if_pos (by omega)]
  have hs : b.size = A.length + (T.length + 1) := by
    have : b.data.toList.length = A.length + (T.length + 1) := by rw [hb]; simp
    simpa using this
  have e1 : b.extract 0 ((A.length : Nat) : Int).toNat = ⟨A.toArray⟩ := by
    apply bytes_ext
    rw [extract_list, hb]
    simp
  have e2 : b.extract (((A.length : Nat) : Int).toNat + 1) b.size = ⟨T.toArray⟩ := by
    apply bytes_ext
    rw [extract_list, hb, hs]
    simp
    exact List.take_of_length_le (by omega)
  rw [e1, e2]
theorem cutB_miss1 (b : ByteArray) (c : UInt8) (hA : ∀ x ∈ b.data.toList, x ≠ c) : cutB b c = (b, ⟨#[]⟩, false) := by
  have hi := indexByte_not c b.data.toList hA
  unfold cutB
  rw [hi, if_neg (by decide)]

theorem dg_list (v : Nat) : (dg v).data.toList = Lib.decDigits v := rfl
theorem tx_list (z : R) : (tx z).data.toList = (if z.s then [45] else []) ++ Lib.decDigits z.p ++ (if z.q = 1 then [] else 47 :: Lib.decDigits z.q) := by
  unfold tx
  by_cases hq : z.q = 1
  · rw [if_pos hq, if_pos hq]
    cases z.s <;> simp [ByteArray.data_append, dg_list]
  · rw [if_neg hq, if_neg hq]
    cases z.s <;> simp [ByteArray.data_append, dg_list]
theorem dec_not {v : Nat} {c : UInt8} (hc : c.toNat < 48) : ∀ b ∈ Lib.decDigits v, b ≠ c := by
  intro b hb e
  have := (dec_digs v b hb).1
  rw [e] at this
  omega
theorem dec_ne (v : Nat) : Lib.decDigits v ≠ [] := by
  intro h
  have h1 := dec_numeral v
  have h2 : Numeral ⟨(Lib.decDigits v).toArray⟩ := by
    by_cases h3 : Numeral ⟨(Lib.decDigits v).toArray⟩
    · exact h3
    · rw [numB_false h3] at h1; cases h1
  obtain ⟨h4, _⟩ := h2.2
  rw [dec_size, h] at h4
  exact absurd h4 (Nat.lt_irrefl _)

/-- The text without its sign. -/
def bodyT (z : R) : List UInt8 := Lib.decDigits z.p ++ (if z.q = 1 then [] else 47 :: Lib.decDigits z.q)
theorem tx_sign (z : R) : signed (tx z) = z.s ∧ (unsigned (tx z)).data.toList = bodyT z := by
  have hl := tx_list z
  unfold signed unsigned Lib.trimPrefix Lib.hasPrefix
  rw [hl]
  cases hs : z.s with
  | true => simp [bodyT]
  | false =>
    obtain ⟨x, l, hx⟩ : ∃ x l, Lib.decDigits z.p = x :: l := by
      cases h : Lib.decDigits z.p with
      | nil => exact absurd h (dec_ne _)
      | cons x l => exact ⟨x, l, rfl⟩
    have hne := dec_not (v := z.p) (c := 45) (by decide) x (by rw [hx]; exact List.mem_cons_self ..)
    have hb : ((45 : UInt8) == x) = false := by simpa using fun e => hne e.symm
    simp [bodyT, hx, hb, List.isPrefixOf]
theorem tx_cut (z : R) : cutB (unsigned (tx z)) 47 = (dg z.p, (if z.q = 1 then ⟨#[]⟩ else dg z.q), decide (z.q ≠ 1)) := by
  have hu := (tx_sign z).2
  unfold bodyT at hu
  by_cases hq : z.q = 1
  · rw [if_pos hq, List.append_nil] at hu
    rw [cutB_miss1 _ _ (by rw [hu]; exact dec_not (by decide)), if_pos hq]
    have : unsigned (tx z) = dg z.p := bytes_ext hu
    rw [this]
    simp [hq]
  · rw [if_neg hq] at hu
    rw [cutB_hit1 _ _ _ _ hu (dec_not (by decide)), if_neg hq]
    simp [hq, dg]
theorem dg_1 : dg 1 = ⟨#[49]⟩ := by
  unfold dg
  rw [Lib.decDigits_one (by omega)]
  rfl
theorem dg_inj {a b : Nat} (h : dg a = dg b) : a = b := by
  have h1 := dec_num a
  have h2 := dec_num b
  have e : Lib.decDigits a = Lib.decDigits b := congrArg (fun z => z.data.toList) h
  rw [← h1, ← h2, e]
theorem pv_dg (v : Nat) : pv (dg v) = limbs v := by
  unfold pv
  have hn : numB (dg v) = true := dec_numeral v
  rw [if_pos hn]
  congr 1
  have := dec_num v
  rw [← dec_size] at this
  exact this
theorem tx_parts (z : R) : numT (tx z) = dg z.p ∧ denT (tx z) = dg z.q := by
  unfold numT denT
  rw [tx_cut]
  refine ⟨rfl, ?_⟩
  by_cases hq : z.q = 1
  · simp [hq, dg_1]
  · simp [hq]
theorem dg_size20 {v : Nat} (h : v < 2 ^ 64) : (dg v).size ≤ 20 := by
  rw [dg, dec_size]
  exact dec_len 19 v (Nat.lt_of_lt_of_le h (by decide))
theorem parts_size (s : ByteArray) : (numT s).size ≤ s.size ∧ (denT s).size ≤ max s.size 1 := by
  have h0 := unsigned_size s
  obtain ⟨h1, h2⟩ := cut_size (unsigned s) 47
  refine ⟨Nat.le_trans h1 h0, ?_⟩
  unfold denT
  split
  · omega
  · exact Nat.le_max_right _ _
theorem tx_size {z : R} (h1 : z.p < 2 ^ 64) (h2 : z.q < 2 ^ 64) : (tx z).size ≤ 42 := by
  have e1 := dg_size20 h1
  have e2 := dg_size20 h2
  have e45 : (⟨#[45]⟩ : ByteArray).size = 1 := rfl
  have e47 : (⟨#[47]⟩ : ByteArray).size = 1 := rfl
  unfold tx
  split <;> split <;> (try simp only [ByteArray.size_append, e45, e47]) <;> omega
theorem tx_ok {z : R} (hz : nf z = z) : okP (tx z) = true := by
  unfold okP
  obtain ⟨e1, e2⟩ := tx_parts z
  rw [e1, e2, tx_cut, (tx_sign z).1, pv_dg, pv_dg]
  have n1 : numB (dg z.p) = true := dec_numeral _
  have n2 : numB (dg z.q) = true := dec_numeral _
  rw [n1, n2]
  have v : validR z.s (limbs z.p) (limbs z.q) = true := by
    unfold validR
    rw [val_limbs, val_limbs]
    have : nf ⟨z.s, z.p, z.q⟩ = z := hz
    rw [this]
    simp
  rw [v]
  have d : (decide (dg z.q = ⟨#[49]⟩) && decide (z.q ≠ 1)) = false := by
    by_cases hq : z.q = 1
    · simp [hq]
    · have : dg z.q ≠ ⟨#[49]⟩ := by
        rw [← dg_1]
        exact fun h => hq (dg_inj h)
      simp [this]
  show (true && true && !(decide (dg z.q = ⟨#[49]⟩) && decide (z.q ≠ 1)) && true) = true
  rw [d]
  rfl
end Go.Proofs.YtgjndondonehhaaDoor

/-
  electionref02.norm, electionref02.From, electionref02.To, electionref02.Eq.
-/
namespace Go.Proofs.YtgjndondonehhaaDoor
open Go.RowKit NatMath RatMath

theorem OwnT.grown {B : Nat} {w w' : World} {ao : Option Addr} {n c : Nat} {xs : List Bool} {row : Option Nat} (h : OwnT B w ao n c xs) (hg : w.grownBy w' row) (hne : ∀ a, ao = some a → row ≠ some a.block) : OwnT B w' ao n c xs := by
  refine World.ownsRow.kept h hg ?_
  rcases h.cases with ⟨rfl, rfl, rfl, rfl⟩ | ⟨q, rfl, _⟩
  · exact Or.inl rfl
  · exact Or.inr (fun e => hne _ rfl e.symm)
theorem OwnT.put3 {B : Nat} {w : World} {ao : Option Addr} {n c : Nat} {xs : List Bool} (h : OwnT B w ao n c xs) {g : Nat} (hne : ∀ a, ao = some a → g ≠ a.block) (u0 u1 u2 : Value) : OwnT B (put3 w g u0 u1 u2) ao n c xs :=
  h.grown (put3_grown w g u0 u1 u2) (fun a ha => by simpa using hne a ha)
theorem OwnT.hi {B : Nat} {w : World} {ao : Option Addr} {n c : Nat} {xs : List Bool} (h : OwnT B w ao n c xs) {g : Nat} (hg : g < B) : ∀ a, ao = some a → g ≠ a.block := by
  intro a ha
  rcases h.cases with ⟨h0, _⟩ | ⟨q, hq, h1, _⟩
  · rw [h0] at ha; cases ha
  · rw [hq] at ha
    cases ha
    show g ≠ q
    omega

set_option maxHeartbeats 3200000 in
set_option maxRecDepth 100000 in
theorem norm2_c (s : Bool) (ao bo : Option Addr) (n c m d X Y : Nat) (w : World) (h : LstB w ao n c (bitsN X)) (k : LstB w bo m d (bitsN Y)) (hn : n ≤ 1000000) (hm : m ≤ 1000000) :
    Calls Tryd.prog 68 #[.bool s, .slice ao n c, .slice bo m d] w fun e w' => ∃ s' a n' c' b m' d', e = .returned (.agg #[.bool s', .slice a n' c', .slice b m' d']) ∧ s' = (nf ⟨s, X, Y⟩).s ∧ OwnT w.heap.size w' a n' c' (bitsN (nf ⟨s, X, Y⟩).p) ∧ OwnT w.heap.size w' b m' d' (bitsN (nf ⟨s, X, Y⟩).q) ∧ Below w.heap.size w w' := by
  have hlX := h.len
  have hlY := k.len
  have hr1 := h.room; have hc1 := h.cap; have hr2 := k.room; have hc2 := k.cap
  have HG := Lib.hid (fun w1 (hb : Below w.heap.size w w1) => gcdT_c ao bo n c m d X Y w1 (h.below hb) (k.below hb) (by omega) (by omega))
  have H := Lib.hid h; have K := Lib.hid k
  have kZ := Blk.new w 50 #[.bool false, .slice none 0 0, .slice none 0 0]
  have bb := (Below.refl w.heap.size w).alloc (Nat.le_refl _) (.cells #[.bool false, .slice none 0 0, .slice none 0 0] 50)
  obtain ⟨W0, hW0⟩ : ∃ W0, W0 = w.alloc (.cells #[.bool false, .slice none 0 0, .slice none 0 0] 50) := ⟨_, rfl⟩
  rw [← hW0] at kZ bb
  clear h k
  by_cases hx : X = 0
  · have hn0 : n = 0 := by rw [← hlX, hx, bitsN_zero]; rfl
    have HN := Lib.hid (nf_zero (x := ⟨s, X, Y⟩) (Or.inl hx))
    clear hlX hlY H HG
    subst hn0
    clear hx
    go_enter Tryd.func68, Tryd.ntmps68
    go_wp2_with fail
    rw [← hW0]
    clear hW0
    refine (small_c 1 _ (by omega)).mono ?_
    rintro e w2 ⟨a2, n2, c2, rfl, o2, b2⟩
    have k2 := kZ.on b2
    have BB := bb.trans (b2.mono bb.size)
    have h2 := o2.hi (g := w.heap.size) kZ.lt
    have hl2 := o2.bound (k := 1) (by decide)
    have O2 := Lib.hid (o2.low bb.size)
    obtain ⟨s0, s1, s2, s3, s4, s5⟩ := k2.store3 (.bool false) (.slice none 0 0)
    clear kZ o2 b2 bb
    go_wp2_with fail
    have pbox := k2.put3 (.bool false) (.slice none 0 0) (.slice a2 n2 c2)
    have pbel := below_put3 BB (Nat.le_refl _) (.bool false) (.slice none 0 0) (.slice a2 n2 c2)
    have p2 := O2.out.put3 h2 (.bool false) (.slice none 0 0) (.slice a2 n2 c2)
    obtain ⟨W, hW⟩ : ∃ W, W = put3 w2 w.heap.size (.bool false) (.slice none 0 0) (.slice a2 n2 c2) := ⟨_, rfl⟩
    change bodyPost _ _ _ _ _ (put3 w2 w.heap.size (.bool false) (.slice none 0 0) (.slice a2 n2 c2))
    rw [← hW] at pbox pbel p2 ⊢
    obtain ⟨r0, r1, r2⟩ := pbox.cells3
    refine bodyPost_ret (v := .agg #[.bool false, .slice none 0 0, .slice a2 n2 c2]) (by simp [results, Tryd.results68, go_sem, r0, r1, r2]) rfl ?_
    refine ⟨_, none, 0, 0, a2, n2, c2, rfl, by rw [HN.out]; rfl, ?_, ?_, pbel⟩
    · rw [HN.out, show zero.p = 0 from rfl, bitsN_zero]; exact OwnT.nil _ _
    · rw [HN.out, show zero.q = 1 from rfl]; exact p2
  have hn0 : n ≠ 0 := by rw [← hlX, bitsN_pos hx]; simp
  have hnb : ((n : Int) == 0) = false := by simp; omega
  by_cases hy : Y = 0
  · have hm0 : m = 0 := by rw [← hlY, hy, bitsN_zero]; rfl
    have HN := Lib.hid (nf_zero (x := ⟨s, X, Y⟩) (Or.inr hy))
    clear hlX hlY K HG
    subst hm0
    clear hx hy
    go_enter Tryd.func68, Tryd.ntmps68
    go_wp2_with fail
    rw [← hW0]
    clear hW0
    refine (small_c 1 _ (by omega)).mono ?_
    rintro e w2 ⟨a2, n2, c2, rfl, o2, b2⟩
    have k2 := kZ.on b2
    have BB := bb.trans (b2.mono bb.size)
    have h2 := o2.hi (g := w.heap.size) kZ.lt
    have hl2 := o2.bound (k := 1) (by decide)
    have O2 := Lib.hid (o2.low bb.size)
    obtain ⟨s0, s1, s2, s3, s4, s5⟩ := k2.store3 (.bool false) (.slice none 0 0)
    clear kZ o2 b2 bb
    go_wp2_with fail
    have pbox := k2.put3 (.bool false) (.slice none 0 0) (.slice a2 n2 c2)
    have pbel := below_put3 BB (Nat.le_refl _) (.bool false) (.slice none 0 0) (.slice a2 n2 c2)
    have p2 := O2.out.put3 h2 (.bool false) (.slice none 0 0) (.slice a2 n2 c2)
    obtain ⟨W, hW⟩ : ∃ W, W = put3 w2 w.heap.size (.bool false) (.slice none 0 0) (.slice a2 n2 c2) := ⟨_, rfl⟩
    change bodyPost _ _ _ _ _ (put3 w2 w.heap.size (.bool false) (.slice none 0 0) (.slice a2 n2 c2))
    rw [← hW] at pbox pbel p2 ⊢
    obtain ⟨r0, r1, r2⟩ := pbox.cells3
    refine bodyPost_ret (v := .agg #[.bool false, .slice none 0 0, .slice a2 n2 c2]) (by simp [results, Tryd.results68, go_sem, r0, r1, r2]) rfl ?_
    refine ⟨_, none, 0, 0, a2, n2, c2, rfl, by rw [HN.out]; rfl, ?_, ?_, pbel⟩
    · rw [HN.out, show zero.p = 0 from rfl, bitsN_zero]; exact OwnT.nil _ _
    · rw [HN.out, show zero.q = 1 from rfl]; exact p2
  · have hm0 : m ≠ 0 := by rw [← hlY, bitsN_pos hy]; simp
    have hmb : ((m : Int) == 0) = false := by simp; omega
    have HN := Lib.hid (nf_pos (x := ⟨s, X, Y⟩) hx hy)
    have hg0 : 0 < Nat.gcd X Y := Nat.gcd_pos_of_pos_left _ (Nat.pos_of_ne_zero hx)
    have hgl : (bitsN (Nat.gcd X Y)).length ≤ n := by
      rw [← hlX]
      rcases Nat.lt_or_ge (bitsN X).length (bitsN (Nat.gcd X Y)).length with h1 | h1
      · have := bitsN_lt_of_length h1
        have := Nat.gcd_le_left Y (Nat.pos_of_ne_zero hx)
        omega
      · exact h1
    obtain ⟨G, hG⟩ : ∃ G, Hid (G = Nat.gcd X Y) := ⟨_, rfl⟩
    rw [← hG.out] at HG hg0 hgl
    have HG0 := Lib.hid hg0
    have HGL := Lib.hid hgl
    clear hlX hlY hx hy hg0 hgl
    go_enter Tryd.func68, Tryd.ntmps68
    go_wp2_with fail
    rw [← hW0]
    clear hW0
    refine (HG.out W0 bb).mono ?_
    rintro e w2 ⟨a2, n2, c2, rfl, o2, b2⟩
    have k2 := kZ.on b2
    have BB := bb.trans (b2.mono bb.size)
    have hn2 : n2 ≤ n := by rw [← o2.len]; exact HGL.out
    have D := o2.lst
    have hd1 := divT_c ao a2 n c n2 c2 (bitsN X) (bitsN G) w2 (H.out.below BB) D (by omega) (by omega) (by rw [bval_bitsN]; exact HG0.out)
    rw [bval_bitsN, bval_bitsN] at hd1
    have HD1 := Lib.hid hd1
    clear hd1 o2 b2 kZ
    go_wp2_with fail
    refine HD1.out.mono ?_
    rintro e w3 ⟨a3, n3, c3, a4, n4, c4, rfl, o3, _, b3⟩
    have BB3 := BB.trans (b3.mono BB.size)
    have k3 := k2.on b3
    have D3 := D.below b3
    have h3 := o3.hi (g := w.heap.size) k2.lt
    have O3 := o3.low BB.size
    have hd2 := divT_c bo a2 m d n2 c2 (bitsN Y) (bitsN G) w3 (K.out.below BB3) D3 (by omega) (by omega) (by rw [bval_bitsN]; exact HG0.out)
    rw [bval_bitsN, bval_bitsN] at hd2
    have HD2 := Lib.hid hd2
    clear hd2 o3 b3 k2 D D3 HD1
    go_wp2_with fail
    refine HD2.out.mono ?_
    rintro e w4 ⟨a5, n5, c5, a6, n6, c6, rfl, o5, _, b4⟩
    have BB4 := BB3.trans (b4.mono BB3.size)
    have k4 := k3.on b4
    have O3' := Lib.hid (O3.kept b4)
    have h5 := o5.hi (g := w.heap.size) k3.lt
    have O5 := Lib.hid (o5.low BB3.size)
    obtain ⟨s0, s1, s2, s3, s4, s5⟩ := k4.store3 (.bool s) (.slice a3 n3 c3)
    clear o5 b4 k3 HD2 O3 BB BB3 bb
    go_wp2_with fail
    have pbox := k4.put3 (.bool s) (.slice a3 n3 c3) (.slice a5 n5 c5)
    have pbel := below_put3 BB4 (Nat.le_refl _) (.bool s) (.slice a3 n3 c3) (.slice a5 n5 c5)
    have p3 := O3'.out.put3 h3 (.bool s) (.slice a3 n3 c3) (.slice a5 n5 c5)
    have p5 := O5.out.put3 h5 (.bool s) (.slice a3 n3 c3) (.slice a5 n5 c5)
    obtain ⟨W, hW⟩ : ∃ W, W = put3 w4 w.heap.size (.bool s) (.slice a3 n3 c3) (.slice a5 n5 c5) := ⟨_, rfl⟩
    change bodyPost _ _ _ _ _ (put3 w4 w.heap.size (.bool s) (.slice a3 n3 c3) (.slice a5 n5 c5))
    rw [← hW] at pbox pbel p3 p5 ⊢
    obtain ⟨r0, r1, r2⟩ := pbox.cells3
    refine bodyPost_ret (v := .agg #[.bool s, .slice a3 n3 c3, .slice a5 n5 c5]) (by simp [results, Tryd.results68, go_sem, r0, r1, r2]) rfl ?_
    refine ⟨_, a3, n3, c3, a5, n5, c5, rfl, by rw [HN.out], ?_, ?_, pbel⟩
    · rw [HN.out, ← hG.out]; exact p3
    · rw [HN.out, ← hG.out]; exact p5

set_option maxHeartbeats 3200000 in
set_option maxRecDepth 100000 in
theorem from2_c (s : Bool) (ao bo : Option Addr) (n c m d : Nat) (xs ys : List Int) (w : World) (h : Lst .u32 w ao n c xs) (k : Lst .u32 w bo m d ys) (hn : n ≤ 30000) (hm : m ≤ 30000) :
    Calls Tryd.prog 30 #[.agg #[.bool s, .slice ao n c, .slice bo m d]] w fun e w' => ∃ s' a n' c' b m' d', e = .returned (.agg #[.bool s', .slice a n' c', .slice b m' d']) ∧ s' = (nf ⟨s, val xs, val ys⟩).s ∧ OwnT w.heap.size w' a n' c' (bitsN (nf ⟨s, val xs, val ys⟩).p) ∧ OwnT w.heap.size w' b m' d' (bitsN (nf ⟨s, val xs, val ys⟩).q) ∧ Below w.heap.size w w' := by
  have H := Lib.hid h; have K := Lib.hid k
  clear h k
  go_enter Tryd.func30, Tryd.ntmps30
  go_wp2_with fail
  have kA := Blk.new w 47 #[.bool s, .slice ao n c, .slice bo m d]
  have kZ := Blk.new (w.alloc (.cells #[.bool s, .slice ao n c, .slice bo m d] 47)) 50 #[.bool false, .slice none 0 0, .slice none 0 0]
  have bb : Below w.heap.size w ((w.alloc (.cells #[.bool s, .slice ao n c, .slice bo m d] 47)).alloc (.cells #[.bool false, .slice none 0 0, .slice none 0 0] 50)) := ((Below.refl w.heap.size w).alloc (Nat.le_refl _) _).alloc (by simp) _
  replace kA := kA.alloc (.cells #[.bool false, .slice none 0 0, .slice none 0 0] 50)
  rw [show (w.alloc (.cells #[.bool s, .slice ao n c, .slice bo m d] 47)).heap.size = w.heap.size + 1 by simp] at kZ
  obtain ⟨W0, hW0⟩ : ∃ W0, W0 = (w.alloc (.cells #[.bool s, .slice ao n c, .slice bo m d] 47)).alloc (.cells #[.bool false, .slice none 0 0, .slice none 0 0] 50) := ⟨_, rfl⟩
  rw [← hW0] at kA kZ bb ⊢
  clear hW0
  obtain ⟨g2, hg2⟩ : ∃ g2, g2 = w.heap.size + 1 := ⟨_, rfl⟩
  rw [← hg2] at kZ ⊢
  have hge : w.heap.size ≤ g2 := by omega
  have hne0 : w.heap.size ≠ g2 := by omega
  have hne2 : g2 ≠ w.heap.size := by omega
  clear hg2
  have DA : Hid (Blk W0.drew w.heap.size 47 #[.bool s, .slice ao n c, .slice bo m d]) := kA
  have DZ : Hid (Blk W0.drew g2 50 #[.bool false, .slice none 0 0, .slice none 0 0]) := kZ
  have DB : Hid (Below w.heap.size w W0.drew) := bb.drew
  have BX := Lib.hid (val_lt_two H.out.ok H.out.len (Nat.le_refl n))
  have BY := Lib.hid (val_lt_two K.out.ok K.out.len (Nat.le_refl m))
  obtain ⟨y0, y1, y2⟩ := kA.cells3
  clear kA kZ bb
  go_region_held3 (fun w' => w'.cell? ⟨w.heap.size, 0, none⟩ = some (.bool s) ∧ w'.cell? ⟨w.heap.size, 1, none⟩ = some (.slice ao n c) ∧ w'.cell? ⟨w.heap.size, 2, none⟩ = some (.slice bo m d)) (go_keep) (first
    | (go_at_call_of 15 (Value.slice ao n c); refine (from_c ao n c xs W0.drew (H.out.below DB.out) (by omega)).mono ?_; rintro e v1 ⟨a3, n3, c3, rfl, o3, B1⟩; have A1 := DA.out.on B1; obtain ⟨z0, z1, z2⟩ := A1.cells3; have Z1 := DZ.out.on B1; have BB1 := DB.out.trans (B1.mono DB.out.size); have hn3 := o3.bound BX.out)
    | (go_at_call 15; refine (from_c bo m d ys v1 (K.out.below BB1) (by omega)).mono ?_; rintro e v2 ⟨a4, n4, c4, rfl, o4, B2⟩; have A2 := A1.on B2; obtain ⟨k0, k1, k2⟩ := A2.cells3; have Z2 := Z1.on B2; have BB2 := BB1.trans (B2.mono BB1.size); have o3' := o3.kept B2; have hn4 := o4.bound BY.out)
    | (go_at_call 68; refine (norm2_c s a3 a4 n3 c3 n4 c4 (val xs) (val ys) v2 o3'.lst o4.lst (by omega) (by omega)).mono ?_; rintro e v3 ⟨s5, a5, n5, c5, b5, m5, d5, rfl, hs5, o5, o6, B3⟩; have A3 := A2.on B3; obtain ⟨l0, l1, l2⟩ := A3.cells3; have Z3 := Z2.on B3; have BB3 := BB2.trans (B3.mono BB2.size); obtain ⟨q0, q1, q2, q3, q4, q5⟩ := Z3.store3 (.bool s5) (.slice a5 n5 c5); have HS5 := Lib.hid hs5; clear hs5))
  go_wp2_with fail
  have h3 := o5.hi (g := g2) Z2.lt
  have h4 := o6.hi (g := g2) Z2.lt
  have O3 := o5.low BB2.size
  have O4 := o6.low BB2.size
  have pbox := Z3.put3 (.bool s5) (.slice a5 n5 c5) (.slice b5 m5 d5)
  have pbel := below_put3 BB3 hge (.bool s5) (.slice a5 n5 c5) (.slice b5 m5 d5)
  have p3 := O3.put3 h3 (.bool s5) (.slice a5 n5 c5) (.slice b5 m5 d5)
  have p4 := O4.put3 h4 (.bool s5) (.slice a5 n5 c5) (.slice b5 m5 d5)
  obtain ⟨W, hW⟩ : ∃ W, W = put3 v3 g2 (.bool s5) (.slice a5 n5 c5) (.slice b5 m5 d5) := ⟨_, rfl⟩
  change bodyPost _ _ _ _ _ (put3 v3 g2 (.bool s5) (.slice a5 n5 c5) (.slice b5 m5 d5))
  rw [← hW] at pbox pbel p3 p4 ⊢
  obtain ⟨r0, r1, r2⟩ := pbox.cells3
  refine bodyPost_ret (v := .agg #[.bool s5, .slice a5 n5 c5, .slice b5 m5 d5]) (by simp [results, Tryd.results30, go_sem, r0, r1, r2]) rfl ?_
  exact ⟨s5, a5, n5, c5, b5, m5, d5, rfl, HS5.out, p3, p4, pbel⟩

set_option maxHeartbeats 3200000 in
set_option maxRecDepth 100000 in
theorem to2_c (s : Bool) (ao bo : Option Addr) (n c m d X Y : Nat) (w : World) (h : LstB w ao n c (bitsN X)) (k : LstB w bo m d (bitsN Y)) (hn : n ≤ 1000000) (hm : m ≤ 1000000) :
    Calls Tryd.prog 36 #[.agg #[.bool s, .slice ao n c, .slice bo m d]] w fun e w' => ∃ a n' c' b m' d', e = .returned (.agg #[.bool s, .slice a n' c', .slice b m' d']) ∧ Own 75 .u32 w.heap.size w' a n' c' (limbs X) ∧ Own 75 .u32 w.heap.size w' b m' d' (limbs Y) ∧ Below w.heap.size w w' := by
  have H := Lib.hid h; have K := Lib.hid k
  clear h k
  go_enter Tryd.func36, Tryd.ntmps36
  go_wp2_with fail
  have kA := Blk.new w 50 #[.bool s, .slice ao n c, .slice bo m d]
  have kZ := Blk.new (w.alloc (.cells #[.bool s, .slice ao n c, .slice bo m d] 50)) 47 #[.bool false, .slice none 0 0, .slice none 0 0]
  have bb : Below w.heap.size w ((w.alloc (.cells #[.bool s, .slice ao n c, .slice bo m d] 50)).alloc (.cells #[.bool false, .slice none 0 0, .slice none 0 0] 47)) := ((Below.refl w.heap.size w).alloc (Nat.le_refl _) _).alloc (by simp) _
  replace kA := kA.alloc (.cells #[.bool false, .slice none 0 0, .slice none 0 0] 47)
  rw [show (w.alloc (.cells #[.bool s, .slice ao n c, .slice bo m d] 50)).heap.size = w.heap.size + 1 by simp] at kZ
  obtain ⟨W0, hW0⟩ : ∃ W0, W0 = (w.alloc (.cells #[.bool s, .slice ao n c, .slice bo m d] 50)).alloc (.cells #[.bool false, .slice none 0 0, .slice none 0 0] 47) := ⟨_, rfl⟩
  rw [← hW0] at kA kZ bb ⊢
  clear hW0
  obtain ⟨g2, hg2⟩ : ∃ g2, g2 = w.heap.size + 1 := ⟨_, rfl⟩
  rw [← hg2] at kZ ⊢
  have hge : w.heap.size ≤ g2 := by omega
  have hne0 : w.heap.size ≠ g2 := by omega
  have hne2 : g2 ≠ w.heap.size := by omega
  clear hg2
  have DA : Hid (Blk W0.drew w.heap.size 50 #[.bool s, .slice ao n c, .slice bo m d]) := kA
  have DZ : Hid (Blk W0.drew g2 47 #[.bool false, .slice none 0 0, .slice none 0 0]) := kZ
  have DB : Hid (Below w.heap.size w W0.drew) := bb.drew
  obtain ⟨y0, y1, y2⟩ := kA.cells3
  clear kA kZ bb
  go_region_held3 (fun w' => w'.cell? ⟨w.heap.size, 0, none⟩ = some (.bool s) ∧ w'.cell? ⟨w.heap.size, 1, none⟩ = some (.slice ao n c) ∧ w'.cell? ⟨w.heap.size, 2, none⟩ = some (.slice bo m d)) (go_keep) (first
    | (go_at_call_of 42 (Value.slice ao n c); refine (to_c ao n c (bitsN X) W0.drew (H.out.below DB.out) (by omega)).mono ?_; rintro e v1 ⟨a3, n3, c3, rfl, o3, B1⟩; have A1 := DA.out.on B1; obtain ⟨z0, z1, z2⟩ := A1.cells3; have Z1 := DZ.out.on B1; have BB1 := DB.out.trans (B1.mono DB.out.size))
    | (go_at_call 42; refine (to_c bo m d (bitsN Y) v1 (K.out.below BB1) (by omega)).mono ?_; rintro e v2 ⟨a4, n4, c4, rfl, o4, B2⟩; have A2 := A1.on B2; obtain ⟨k0, k1, k2⟩ := A2.cells3; have Z2 := Z1.on B2; have BB2 := BB1.trans (B2.mono BB1.size); have o3' := o3.kept B2; obtain ⟨q0, q1, q2, q3, q4, q5⟩ := Z2.store3 (.bool s) (.slice a3 n3 c3)))
  go_wp2_with fail
  have h3 := o3.hi (g := g2) DZ.out.lt
  have h4 := o4.hi (g := g2) Z1.lt
  have O3 := o3'.low DB.out.size
  have O4 := o4.low BB1.size
  rw [bval_bitsN] at O3 O4
  have pbox := Z2.put3 (.bool s) (.slice a3 n3 c3) (.slice a4 n4 c4)
  have pbel := below_put3 BB2 hge (.bool s) (.slice a3 n3 c3) (.slice a4 n4 c4)
  have p3 := O3.put3 h3 (.bool s) (.slice a3 n3 c3) (.slice a4 n4 c4)
  have p4 := O4.put3 h4 (.bool s) (.slice a3 n3 c3) (.slice a4 n4 c4)
  obtain ⟨W, hW⟩ : ∃ W, W = put3 v2 g2 (.bool s) (.slice a3 n3 c3) (.slice a4 n4 c4) := ⟨_, rfl⟩
  change bodyPost _ _ _ _ _ (put3 v2 g2 (.bool s) (.slice a3 n3 c3) (.slice a4 n4 c4))
  rw [← hW] at pbox pbel p3 p4 ⊢
  obtain ⟨r0, r1, r2⟩ := pbox.cells3
  refine bodyPost_ret (v := .agg #[.bool s, .slice a3 n3 c3, .slice a4 n4 c4]) (by simp [results, Tryd.results36, go_sem, r0, r1, r2]) rfl ?_
  exact ⟨a3, n3, c3, a4, n4, c4, rfl, p3, p4, pbel⟩

set_option maxHeartbeats 3200000 in
set_option maxRecDepth 100000 in
theorem eq2_c (s1 s2 : Bool) (a1 b1 a2 b2 : Option Addr) (n1 c1 m1 d1 n2 c2 m2 d2 : Nat) (xs1 ys1 xs2 ys2 : List Int) (w : World)
    (h1 : Lst .u32 w a1 n1 c1 xs1) (k1 : Lst .u32 w b1 m1 d1 ys1) (h2 : Lst .u32 w a2 n2 c2 xs2) (k2 : Lst .u32 w b2 m2 d2 ys2) :
    Calls Tryd.prog 35 #[.agg #[.bool s1, .slice a1 n1 c1, .slice b1 m1 d1], .agg #[.bool s2, .slice a2 n2 c2, .slice b2 m2 d2]] w fun e w' => e = .returned (.bool (decide (s1 = s2 ∧ xs1 = xs2 ∧ ys1 = ys2))) ∧ Below w.heap.size w w' := by
  have H1 := Lib.hid (fun w1 (hb : Below w.heap.size w w1) => eq_c a1 a2 n1 c1 n2 c2 xs1 xs2 w1 (h1.below hb) (h2.below hb))
  have H2 := Lib.hid (fun w1 (hb : Below w.heap.size w w1) => eq_c b1 b2 m1 d1 m2 d2 ys1 ys2 w1 (k1.below hb) (k2.below hb))
  clear h1 k1 h2 k2
  by_cases hs : s1 = s2
  · subst hs
    have hbb : (s1 == s1) = true := by simp
    by_cases hx : xs1 = xs2
    · have hd1 : decide (xs1 = xs2) = true := by simpa using hx
      obtain ⟨r, hr⟩ : ∃ r, Hid (r = decide (s1 = s1 ∧ xs1 = xs2 ∧ ys1 = ys2)) := ⟨_, rfl⟩
      have hry : Hid (r = decide (ys1 = ys2)) := by show _ = _; rw [hr.out]; simp [hx]
      rw [← hr.out]
      rw [hd1] at H1
      rw [← hry.out] at H2
      clear hx hd1
      go_enter Tryd.func35, Tryd.ntmps35
      go_wp2_with fail
      obtain ⟨W0, hW0, kA, kB, bb⟩ := boxed2 w 47 #[.bool s1, .slice a1 n1 c1, .slice b1 m1 d1] #[.bool s1, .slice a2 n2 c2, .slice b2 m2 d2]
      rw [← hW0]
      obtain ⟨y0, y1, y2⟩ := kA.cells3
      obtain ⟨yy0, yy1, yy2⟩ := kB.cells3
      refine (H1.out W0 bb).mono ?_
      rintro e w' ⟨rfl, q, rfl⟩
      have bb2 := below_drewN bb q
      clear hW0
      go_wp2_with fail
      refine (H2.out _ bb2).mono ?_
      rintro e w' ⟨rfl, q2, rfl⟩
      have bb3 := below_drewN bb2 q2
      go_wp2_with fail
      go_ret
      first
      | exact ⟨rfl, bb3⟩
      | (rw [World.drewN_drewN] at bb3; exact ⟨rfl, bb3⟩)
    · have hd1 : decide (xs1 = xs2) = false := by simpa using hx
      have hd2 : decide (s1 = s1 ∧ xs1 = xs2 ∧ ys1 = ys2) = false := by simp [hx]
      rw [hd1] at H1
      rw [hd2]
      clear hx hd1 hd2 H2
      go_enter Tryd.func35, Tryd.ntmps35
      go_wp2_with fail
      obtain ⟨W0, hW0, kA, kB, bb⟩ := boxed2 w 47 #[.bool s1, .slice a1 n1 c1, .slice b1 m1 d1] #[.bool s1, .slice a2 n2 c2, .slice b2 m2 d2]
      rw [← hW0]
      obtain ⟨y0, y1, y2⟩ := kA.cells3
      obtain ⟨yy0, yy1, yy2⟩ := kB.cells3
      refine (H1.out W0 bb).mono ?_
      rintro e w' ⟨rfl, q, rfl⟩
      have bb2 := below_drewN bb q
      clear hW0
      go_wp2_with fail
      go_ret
      exact ⟨rfl, bb2⟩
  · have hbb : (s1 == s2) = false := by simpa using hs
    have hd2 : decide (s1 = s2 ∧ xs1 = xs2 ∧ ys1 = ys2) = false := by simp [hs]
    rw [hd2]
    clear hs hd2 H1 H2
    go_enter Tryd.func35, Tryd.ntmps35
    go_wp2_with fail
    go_ret
    exact ⟨rfl, ((Below.refl w.heap.size w).alloc (Nat.le_refl _) _).alloc (by simp) _⟩
end Go.Proofs.YtgjndondonehhaaDoor

/-
  electionlaw02.Short, electionlaw02.is.
-/
namespace Go.Proofs.YtgjndondonehhaaDoor
open Go.RowKit NatMath RatMath

theorem Lst.retake {k : IntKind} {w W : World} {ao : Option Addr} {n c n' m : Nat} {xs : List Int} (h : Lst k w ao n c xs) (h' : Lst k W ao n' c (xs.take m)) : Lst k w ao n' c (xs.take m) := by
  have e := h'.len
  have hl := h.len
  rw [List.length_take] at e
  have ht := h.take (m := n') (by omega)
  have e2 : xs.take n' = xs.take m := by
    rw [List.take_eq_take_iff]
    omega
  rw [e2] at ht
  exact ht

set_option maxHeartbeats 3200000 in
set_option maxRecDepth 100000 in
theorem short2_c (s : Bool) (ao bo : Option Addr) (n c m d : Nat) (xs ys : List Int) (k : Nat) (w : World) (h : Lst .u32 w ao n c xs) (k' : Lst .u32 w bo m d ys) :
    Calls Tryd.prog 29 #[.agg #[.bool s, .slice ao n c, .slice bo m d], .int .i64 k] w fun e w' => ∃ n' m', e = .returned (.agg #[.bool s, .slice ao n' c, .slice bo m' d]) ∧ n' ≤ k ∧ m' ≤ k ∧ Lst .u32 w ao n' c (xs.take k) ∧ Lst .u32 w bo m' d (ys.take k) ∧ Below w.heap.size w w' := by
  have H := Lib.hid h; have K := Lib.hid k'
  clear h k'
  go_enter Tryd.func29, Tryd.ntmps29
  go_wp2_with fail
  obtain ⟨W0, hW0, kA, kZ, bb⟩ := boxed2 w 47 #[.bool s, .slice ao n c, .slice bo m d] #[.bool false, .slice none 0 0, .slice none 0 0]
  rw [← hW0]
  clear hW0
  obtain ⟨g2, hg2⟩ : ∃ g2, g2 = w.heap.size + 1 := ⟨_, rfl⟩
  rw [← hg2] at kZ ⊢
  have hge : w.heap.size ≤ g2 := by omega
  have hne0 : w.heap.size ≠ g2 := by omega
  have hne2 : g2 ≠ w.heap.size := by omega
  clear hg2
  have DA : Hid (Blk W0.drew w.heap.size 47 #[.bool s, .slice ao n c, .slice bo m d]) := kA
  have DZ : Hid (Blk W0.drew g2 47 #[.bool false, .slice none 0 0, .slice none 0 0]) := kZ
  have DB : Hid (Below w.heap.size w W0.drew) := bb.drew
  obtain ⟨y0, y1, y2⟩ := kA.cells3
  clear kA kZ bb
  go_region_held3 (fun w' => w'.cell? ⟨w.heap.size, 0, none⟩ = some (.bool s) ∧ w'.cell? ⟨w.heap.size, 1, none⟩ = some (.slice ao n c) ∧ w'.cell? ⟨w.heap.size, 2, none⟩ = some (.slice bo m d)) (go_keep) (first
    | (go_at_call_of 13 (Value.slice ao n c); refine (short_c ao n c xs k W0.drew (H.out.below DB.out)).mono ?_; rintro e v1 ⟨hw, n1, hn1, rfl, o1⟩; have A1 := hw ▸ DA.out; have Z1 := hw ▸ DZ.out; have BB1 := hw ▸ DB.out; clear hw; obtain ⟨z0, z1, z2⟩ := A1.cells3)
    | (go_at_call 13; refine (short_c bo m d ys k v1 (K.out.below BB1)).mono ?_; rintro e v2 ⟨hw, m1, hm1, rfl, o2⟩; have A2 := hw ▸ A1; have Z2 := hw ▸ Z1; have BB2 := hw ▸ BB1; clear hw; obtain ⟨k0, k1, k2⟩ := A2.cells3; obtain ⟨q0, q1, q2, q3, q4, q5⟩ := Z2.store3 (.bool s) (.slice ao n1 c)))
  go_wp2_with fail
  have pbox := Z2.put3 (.bool s) (.slice ao n1 c) (.slice bo m1 d)
  have pbel := below_put3 BB2 hge (.bool s) (.slice ao n1 c) (.slice bo m1 d)
  obtain ⟨W, hW⟩ : ∃ W, W = put3 v2 g2 (.bool s) (.slice ao n1 c) (.slice bo m1 d) := ⟨_, rfl⟩
  change bodyPost _ _ _ _ _ (put3 v2 g2 (.bool s) (.slice ao n1 c) (.slice bo m1 d))
  rw [← hW] at pbox pbel ⊢
  obtain ⟨r0, r1, r2⟩ := pbox.cells3
  refine bodyPost_ret (v := .agg #[.bool s, .slice ao n1 c, .slice bo m1 d]) (by simp [results, Tryd.results29, go_sem, r0, r1, r2]) rfl ?_
  exact ⟨n1, m1, rfl, hn1, hm1, H.out.retake o1, K.out.retake o2, pbel⟩

set_option maxHeartbeats 3200000 in
set_option maxRecDepth 100000 in
theorem is2_c (s1 s : Bool) (a1 b1 ao bo : Option Addr) (n1 c1 m1 d1 n c m d X Y : Nat) (xs ys : List Int) (w : World) (h : Lst .u32 w a1 n1 c1 xs) (k : Lst .u32 w b1 m1 d1 ys) (h' : LstB w ao n c (bitsN X)) (k' : LstB w bo m d (bitsN Y)) (hn : n ≤ 1000000) (hm : m ≤ 1000000) :
    Calls Tryd.prog 32 #[.agg #[.bool s1, .slice a1 n1 c1, .slice b1 m1 d1], .agg #[.bool s, .slice ao n c, .slice bo m d]] w fun e w' => e = .returned (.bool (decide (s1 = s ∧ xs = limbs X ∧ ys = limbs Y))) ∧ Below w.heap.size w w' := by
  have H := Lib.hid h; have K := Lib.hid k; have H' := Lib.hid h'; have K' := Lib.hid k'
  clear h k h' k'
  go_enter Tryd.func32, Tryd.ntmps32
  go_wp2_with fail
  have kA := Blk.new w 47 #[.bool s1, .slice a1 n1 c1, .slice b1 m1 d1]
  have kB := Blk.new (w.alloc (.cells #[.bool s1, .slice a1 n1 c1, .slice b1 m1 d1] 47)) 50 #[.bool s, .slice ao n c, .slice bo m d]
  have bb : Below w.heap.size w ((w.alloc (.cells #[.bool s1, .slice a1 n1 c1, .slice b1 m1 d1] 47)).alloc (.cells #[.bool s, .slice ao n c, .slice bo m d] 50)) := ((Below.refl w.heap.size w).alloc (Nat.le_refl _) _).alloc (by simp) _
  replace kA := kA.alloc (.cells #[.bool s, .slice ao n c, .slice bo m d] 50)
  rw [show (w.alloc (.cells #[.bool s1, .slice a1 n1 c1, .slice b1 m1 d1] 47)).heap.size = w.heap.size + 1 by simp] at kB
  obtain ⟨W0, hW0⟩ : ∃ W0, W0 = (w.alloc (.cells #[.bool s1, .slice a1 n1 c1, .slice b1 m1 d1] 47)).alloc (.cells #[.bool s, .slice ao n c, .slice bo m d] 50) := ⟨_, rfl⟩
  rw [← hW0] at kA kB bb ⊢
  clear hW0
  have DA : Hid (Blk W0.drew w.heap.size 47 #[.bool s1, .slice a1 n1 c1, .slice b1 m1 d1]) := kA
  have DC : Hid (Blk W0.drew (w.heap.size + 1) 50 #[.bool s, .slice ao n c, .slice bo m d]) := kB
  have DB : Hid (Below w.heap.size w W0.drew) := bb.drew
  obtain ⟨y0, y1, y2⟩ := kA.cells3
  obtain ⟨yy0, yy1, yy2⟩ := kB.cells3
  clear kA kB bb
  go_region_held3 (fun w' => w'.cell? ⟨w.heap.size, 0, none⟩ = some (.bool s1) ∧ w'.cell? ⟨w.heap.size, 1, none⟩ = some (.slice a1 n1 c1) ∧ w'.cell? ⟨w.heap.size, 2, none⟩ = some (.slice b1 m1 d1) ∧ w'.cell? ⟨w.heap.size + 1, 0, none⟩ = some (.bool s) ∧ w'.cell? ⟨w.heap.size + 1, 1, none⟩ = some (.slice ao n c) ∧ w'.cell? ⟨w.heap.size + 1, 2, none⟩ = some (.slice bo m d)) (go_keep) (first
    | (go_at_call 36; refine (to2_c s ao bo n c m d X Y W0.drew (H'.out.below DB.out) (K'.out.below DB.out) hn hm).mono ?_; rintro e v1 ⟨a3, n3, c3, b3, m3, d3, rfl, o3, o4, B1⟩; have A1 := DA.out.on B1; have C1 := DC.out.on B1; obtain ⟨z0, z1, z2⟩ := A1.cells3; obtain ⟨zz0, zz1, zz2⟩ := C1.cells3; have BB1 := DB.out.trans (B1.mono DB.out.size))
    | (go_at_call 35; refine (eq2_c s1 s a1 b1 a3 b3 n1 c1 m1 d1 n3 c3 m3 d3 xs ys (limbs X) (limbs Y) v1 (H.out.below BB1) (K.out.below BB1) o3.lst o4.lst).mono ?_; rintro e v2 ⟨rfl, B2⟩; have A2 := A1.on B2; have C2 := C1.on B2; obtain ⟨k0, k1, k2⟩ := A2.cells3; obtain ⟨kk0, kk1, kk2⟩ := C2.cells3; have BB2 := BB1.trans (B2.mono BB1.size)))
  go_wp2_with fail
  go_ret
  refine ⟨?_, BB2⟩
  show Ending.returned (Value.bool (decide (s1 = s) && (decide (xs = limbs X) && decide (ys = limbs Y)))) = _
  simp only [Bool.decide_and]

theorem nf_p_le (x : R) : (nf x).p ≤ x.p := by
  by_cases h : x.p = 0 ∨ x.q = 0
  · rw [nf_zero h]; exact Nat.zero_le _
  · rw [nf_pos (fun e => h (Or.inl e)) (fun e => h (Or.inr e))]; exact Nat.div_le_self _ _
theorem nf_q_le (x : R) : (nf x).q ≤ max x.q 1 := by
  by_cases h : x.p = 0 ∨ x.q = 0
  · rw [nf_zero h]; exact Nat.le_max_right _ _
  · rw [nf_pos (fun e => h (Or.inl e)) (fun e => h (Or.inr e))]; exact Nat.le_trans (Nat.div_le_self _ _) (Nat.le_max_left _ _)
theorem from2b_c (s : Bool) (ao bo : Option Addr) (n c m d : Nat) (xs ys : List Int) (k : Nat) (w : World) (h : Lst .u32 w ao n c xs) (k' : Lst .u32 w bo m d ys) (hn : n ≤ k) (hm : m ≤ k) (hk : k ≤ 30000) :
    Calls Tryd.prog 30 #[.agg #[.bool s, .slice ao n c, .slice bo m d]] w fun e w' => ∃ s' a n' c' b m' d', e = .returned (.agg #[.bool s', .slice a n' c', .slice b m' d']) ∧ s' = (nf ⟨s, val xs, val ys⟩).s ∧ OwnT w.heap.size w' a n' c' (bitsN (nf ⟨s, val xs, val ys⟩).p) ∧ OwnT w.heap.size w' b m' d' (bitsN (nf ⟨s, val xs, val ys⟩).q) ∧ n' ≤ 32 * k + 1 ∧ m' ≤ 32 * k + 1 ∧ Below w.heap.size w w' := by
  refine (from2_c s ao bo n c m d xs ys w h k' (by omega) (by omega)).mono ?_
  rintro e w' ⟨s', a, n', c', b, m', d', he, hs, o1, o2, hb⟩
  have b1 := val_lt_two h.ok h.len hn
  have b2 := val_lt_two k'.ok k'.len hm
  have p1 := nf_p_le ⟨s, val xs, val ys⟩
  have p2 := nf_q_le ⟨s, val xs, val ys⟩
  have hpow : 2 ^ (32 * k + 1) = 2 ^ (32 * k) * 2 := Nat.pow_succ ..
  have hone : 1 ≤ 2 ^ (32 * k) := Nat.one_le_two_pow
  refine ⟨s', a, n', c', b, m', d', he, hs, o1, o2, o1.bound ?_, o2.bound ?_, hb⟩
  · show _ < _
    simp only at p1
    omega
  · show _ < _
    simp only at p2
    omega
end Go.Proofs.YtgjndondonehhaaDoor

/-
  ratio.magnitude, ratio.Frac, ratio.Of.
-/
namespace Go.Proofs.YtgjndondonehhaaDoor
open Go.RowKit NatMath RatMath

theorem u64_of_neg {n : Int} (h : n < 0) (h0 : -9223372036854775808 ≤ n) : IntKind.u64.wrap n = n + 18446744073709551616 := by
  rw [IntKind.wrap_u64]; omega
theorem u64_of_pos {n : Int} (h : 0 ≤ n) (h1 : n ≤ 9223372036854775807) : IntKind.u64.wrap n = n := by
  rw [IntKind.wrap_u64]; omega

set_option maxHeartbeats 1600000 in
theorem magnitude_c (n : Int) (w : World) (h0 : -9223372036854775808 ≤ n) (h1 : n ≤ 9223372036854775807) :
    Calls Tryd.prog 82 #[.int .i64 n] w fun e w' => ∃ a n' c', n' ≤ 2 ∧ e = .returned (.slice a n' c') ∧ Own 75 .u32 w.heap.size w' a n' c' (limbs n.natAbs) ∧ Below w.heap.size w w' := by
  obtain ⟨m, hm⟩ : ∃ m : Nat, Hid (m = n.natAbs) := ⟨_, rfl⟩
  have hmb : m ≤ 9223372036854775808 := by rw [hm.out]; omega
  have HO := of_c (m : Int) w (by omega) (by omega)
  rw [Int.toNat_natCast] at HO
  rw [← hm.out]
  have HO := Lib.hid HO
  by_cases hn : n < 0
  · have hd : decide (n < 0) = true := by simpa using hn
    have e1 := u64_of_neg hn h0
    have e2 : n = -(m : Int) := by rw [hm.out]; omega
    subst e2
    go_enter Tryd.func82, Tryd.ntmps82
    go_wp2_with fail
    rw [show IntKind.u64.wrap (-(-(m : Int) + 18446744073709551616)) = (m : Int) by rw [IntKind.wrap_u64]; omega]
    refine HO.out.mono ?_
    rintro e w1 ⟨a, n', c', hn', rfl, o, b⟩
    go_wp2_with fail
    go_ret
    exact ⟨a, n', c', hn', rfl, o, b⟩
  · have hd : decide (n < 0) = false := by simpa using hn
    have e2 : n = (m : Int) := by rw [hm.out]; omega
    subst e2
    go_enter Tryd.func82, Tryd.ntmps82
    go_wp2_with fail
    refine HO.out.mono ?_
    rintro e w1 ⟨a, n', c', hn', rfl, o, b⟩
    go_wp2_with fail
    go_ret
    exact ⟨a, n', c', hn', rfl, o, b⟩

set_option maxHeartbeats 3200000 in
set_option maxRecDepth 100000 in
theorem frac_c (x y : Int) (w : World) (x0 : -9223372036854775808 ≤ x) (x1 : x ≤ 9223372036854775807) (y0 : -9223372036854775808 ≤ y) (y1 : y ≤ 9223372036854775807) :
    Calls Tryd.prog 50 #[.int .i64 x, .int .i64 y] w fun e w' => ∃ s a n c b m d, e = .returned (.agg #[.bool s, .slice a n c, .slice b m d]) ∧ s = (nf ⟨decide (x < 0) != decide (y < 0), x.natAbs, y.natAbs⟩).s ∧ Own 75 .u32 w.heap.size w' a n c (limbs (nf ⟨decide (x < 0) != decide (y < 0), x.natAbs, y.natAbs⟩).p) ∧ Own 75 .u32 w.heap.size w' b m d (limbs (nf ⟨decide (x < 0) != decide (y < 0), x.natAbs, y.natAbs⟩).q) ∧ n ≤ 2 ∧ m ≤ 3 ∧ Below w.heap.size w w' := by
  obtain ⟨sg, hsg⟩ : ∃ sg, Hid (sg = (decide (x < 0) != decide (y < 0))) := ⟨_, rfl⟩
  rw [← hsg.out]
  have hsgn : (!(decide (x < 0) == decide (y < 0))) = sg := hsg.out.symm
  go_enter Tryd.func50, Tryd.ntmps50
  go_wp2_with fail
  have kZ := Blk.new w 47 #[.bool false, .slice none 0 0, .slice none 0 0]
  have bb := (Below.refl w.heap.size w).alloc (Nat.le_refl _) (.cells #[.bool false, .slice none 0 0, .slice none 0 0] 47)
  obtain ⟨W0, hW0⟩ : ∃ W0, W0 = w.alloc (.cells #[.bool false, .slice none 0 0, .slice none 0 0] 47) := ⟨_, rfl⟩
  rw [← hW0] at kZ bb ⊢
  clear hW0
  refine (magnitude_c x W0 x0 x1).mono ?_
  rintro e w1 ⟨a1, n1, c1, hn1, rfl, o1, B1⟩
  have K1 := kZ.on B1
  have BB1 := bb.trans (B1.mono bb.size)
  go_wp2_with fail
  refine (magnitude_c y w1 y0 y1).mono ?_
  rintro e w2 ⟨a2, n2, c2, hn2, rfl, o2, B2⟩
  have K2 := K1.on B2
  have BB2 := BB1.trans (B2.mono BB1.size)
  have hmk := make_c sg a1 a2 n1 c1 n2 c2 _ _ w2 (o1.kept B2).lst o2.lst (by omega) (by omega)
  rw [val_limbs, val_limbs] at hmk
  have HM := Lib.hid hmk
  clear hmk o1 o2 B1 B2 K1 kZ bb BB1
  go_wp2_with fail
  try rw [hsgn]
  refine HM.out.mono ?_
  rintro e w3 ⟨s3, a3, n3, c3, b3, m3, d3, rfl, hs3, o3, o4, hn3, hm3, bb3⟩
  have K3 := K2.on bb3
  have BB3 := BB2.trans (bb3.mono BB2.size)
  have h3 := o3.hi (g := w.heap.size) K2.lt
  have h4 := o4.hi (g := w.heap.size) K2.lt
  have O3 := Lib.hid (o3.low BB2.size)
  have O4 := Lib.hid (o4.low BB2.size)
  obtain ⟨q0, q1, q2, q3, q4, q5⟩ := K3.store3 (.bool s3) (.slice a3 n3 c3)
  have HS3 := Lib.hid hs3
  clear hs3 bb3 o3 o4 BB2 K2 HM
  go_wp2_with fail
  have pbox := K3.put3 (.bool s3) (.slice a3 n3 c3) (.slice b3 m3 d3)
  have pbel := below_put3 BB3 (Nat.le_refl _) (.bool s3) (.slice a3 n3 c3) (.slice b3 m3 d3)
  have p3 := O3.out.put3 h3 (.bool s3) (.slice a3 n3 c3) (.slice b3 m3 d3)
  have p4 := O4.out.put3 h4 (.bool s3) (.slice a3 n3 c3) (.slice b3 m3 d3)
  obtain ⟨W, hW⟩ : ∃ W, W = put3 w3 w.heap.size (.bool s3) (.slice a3 n3 c3) (.slice b3 m3 d3) := ⟨_, rfl⟩
  change bodyPost _ _ _ _ _ (put3 w3 w.heap.size (.bool s3) (.slice a3 n3 c3) (.slice b3 m3 d3))
  rw [← hW] at pbox pbel p3 p4 ⊢
  obtain ⟨r0, r1, r2⟩ := pbox.cells3
  refine bodyPost_ret (v := .agg #[.bool s3, .slice a3 n3 c3, .slice b3 m3 d3]) (by simp [results, Tryd.results50, go_sem, r0, r1, r2]) rfl ?_
  exact ⟨s3, a3, n3, c3, b3, m3, d3, rfl, HS3.out, p3, p4, by omega, by omega, pbel⟩

theorem frac_one (x : Int) : nf ⟨decide (x < 0) != decide ((1 : Int) < 0), x.natAbs, (1 : Int).natAbs⟩ = nf ⟨decide (x < 0), x.natAbs, 1⟩ := by
  have : (decide (x < 0) != decide ((1 : Int) < 0)) = decide (x < 0) := by
    rw [show decide ((1 : Int) < 0) = false from rfl]
    cases decide (x < 0) <;> rfl
  rw [this]
  rfl

set_option maxHeartbeats 3200000 in
set_option maxRecDepth 100000 in
theorem rof_c (x : Int) (w : World) (x0 : -9223372036854775808 ≤ x) (x1 : x ≤ 9223372036854775807) :
    Calls Tryd.prog 49 #[.int .i64 x] w fun e w' => ∃ s a n c b m d, e = .returned (.agg #[.bool s, .slice a n c, .slice b m d]) ∧ s = (nf ⟨decide (x < 0), x.natAbs, 1⟩).s ∧ Own 75 .u32 w.heap.size w' a n c (limbs (nf ⟨decide (x < 0), x.natAbs, 1⟩).p) ∧ Own 75 .u32 w.heap.size w' b m d (limbs (nf ⟨decide (x < 0), x.natAbs, 1⟩).q) ∧ n ≤ 2 ∧ m ≤ 3 ∧ Below w.heap.size w w' := by
  go_enter Tryd.func49, Tryd.ntmps49
  go_wp2_with fail
  have kZ := Blk.new w 47 #[.bool false, .slice none 0 0, .slice none 0 0]
  have bb := (Below.refl w.heap.size w).alloc (Nat.le_refl _) (.cells #[.bool false, .slice none 0 0, .slice none 0 0] 47)
  obtain ⟨W0, hW0⟩ : ∃ W0, W0 = w.alloc (.cells #[.bool false, .slice none 0 0, .slice none 0 0] 47) := ⟨_, rfl⟩
  rw [← hW0] at kZ bb ⊢
  clear hW0
  have hfr := frac_c x 1 W0 x0 x1 (by omega) (by omega)
  rw [frac_one] at hfr
  have HM := Lib.hid hfr
  clear hfr
  refine HM.out.mono ?_
  rintro e w3 ⟨s3, a3, n3, c3, b3, m3, d3, rfl, hs3, o3, o4, hn3, hm3, bb3⟩
  have K3 := kZ.on bb3
  have BB3 := bb.trans (bb3.mono bb.size)
  have h3 := o3.hi (g := w.heap.size) kZ.lt
  have h4 := o4.hi (g := w.heap.size) kZ.lt
  have O3 := Lib.hid (o3.low bb.size)
  have O4 := Lib.hid (o4.low bb.size)
  obtain ⟨q0, q1, q2, q3, q4, q5⟩ := K3.store3 (.bool s3) (.slice a3 n3 c3)
  have HS3 := Lib.hid hs3
  clear hs3 bb3 o3 o4 bb kZ HM
  go_wp2_with fail
  have pbox := K3.put3 (.bool s3) (.slice a3 n3 c3) (.slice b3 m3 d3)
  have pbel := below_put3 BB3 (Nat.le_refl _) (.bool s3) (.slice a3 n3 c3) (.slice b3 m3 d3)
  have p3 := O3.out.put3 h3 (.bool s3) (.slice a3 n3 c3) (.slice b3 m3 d3)
  have p4 := O4.out.put3 h4 (.bool s3) (.slice a3 n3 c3) (.slice b3 m3 d3)
  obtain ⟨W, hW⟩ : ∃ W, W = put3 w3 w.heap.size (.bool s3) (.slice a3 n3 c3) (.slice b3 m3 d3) := ⟨_, rfl⟩
  change bodyPost _ _ _ _ _ (put3 w3 w.heap.size (.bool s3) (.slice a3 n3 c3) (.slice b3 m3 d3))
  rw [← hW] at pbox pbel p3 p4 ⊢
  obtain ⟨r0, r1, r2⟩ := pbox.cells3
  refine bodyPost_ret (v := .agg #[.bool s3, .slice a3 n3 c3, .slice b3 m3 d3]) (by simp [results, Tryd.results49, go_sem, r0, r1, r2]) rfl ?_
  exact ⟨s3, a3, n3, c3, b3, m3, d3, rfl, HS3.out, p3, p4, hn3, hm3, pbel⟩
end Go.Proofs.YtgjndondonehhaaDoor

/-
  electionlaw02.Awake.
-/
namespace Go.Proofs.YtgjndondonehhaaDoor
open Go.RowKit NatMath RatMath

theorem tx32 : tx ⟨true, 3, 2⟩ = ⟨#[45, 51, 47, 50]⟩ := by
  apply bytes_ext
  rw [tx_list, Lib.decDigits_one (show (R.mk true 3 2).p < 10 by decide), Lib.decDigits_one (show (R.mk true 3 2).q < 10 by decide)]
  rfl
theorem tx12 : tx ⟨false, 1, 2⟩ = ⟨#[49, 47, 50]⟩ := by
  apply bytes_ext
  rw [tx_list, Lib.decDigits_one (show (R.mk false 1 2).p < 10 by decide), Lib.decDigits_one (show (R.mk false 1 2).q < 10 by decide)]
  rfl
theorem nf32 : nf ⟨true, 3, 2⟩ = ⟨true, 3, 2⟩ := by decide
theorem nf12 : nf (sm (dv ⟨true, 3, 2⟩) (dv ⟨false, 2, 1⟩)) = ⟨false, 1, 2⟩ := by decide
theorem nf64 : nf ⟨true, 6, 4⟩ = ⟨true, 3, 2⟩ := by decide
theorem nf2 : nf ⟨decide ((2 : Int) < 0), (2 : Int).natAbs, 1⟩ = ⟨false, 2, 1⟩ := by decide
theorem nf64' : nf ⟨decide ((-6 : Int) < 0) != decide ((4 : Int) < 0), (-6 : Int).natAbs, (4 : Int).natAbs⟩ = ⟨true, 3, 2⟩ := by decide
theorem cmp32 : RatMath.cmp ⟨true, 3, 2⟩ ⟨true, 3, 2⟩ = 0 := by decide
theorem limbs_small {v : Nat} (h0 : 0 < v) (h : v < 4294967296) : limbs v = [(v : Int)] := by
  rw [limbs_pos (by omega), show v / 4294967296 = 0 by omega, limbs_zero, show v % 4294967296 = v by omega]
theorem parse32_c (w : World) :
    Calls Tryd.prog 44 #[.string ⟨#[45, 51, 47, 50]⟩] w fun e w' => ∃ a n c a' n' c', e = .returned (.tuple #[.agg #[.bool true, .slice a n c, .slice a' n' c'], .bool true]) ∧ Own 75 .u32 w.heap.size w' a n c [3] ∧ Own 75 .u32 w.heap.size w' a' n' c' [2] ∧ Below w.heap.size w w' := by
  have h := rparse_c (tx ⟨true, 3, 2⟩) w (by rw [tx32]; decide) (by rw [(tx_parts _).1]; exact Nat.le_trans (dg_size20 (by decide)) (by omega)) (by rw [(tx_parts _).2]; exact Nat.le_trans (dg_size20 (by decide)) (by omega))
  rw [tx_ok nf32, (tx_parts _).1, (tx_parts _).2, (tx_sign _).1, pv_dg, pv_dg, limbs_small (by decide) (by decide), limbs_small (by decide) (by decide), tx32] at h
  refine h.mono ?_
  rintro e w' ⟨b, a, n, c, a', n', c', rfl, _, _, h1, _, hb⟩
  obtain ⟨rfl, o1, o2⟩ := h1 rfl
  exact ⟨a, n, c, a', n', c', rfl, o1, o2, hb⟩

theorem addS_c {a b a2 b2 : Option Addr} {n c m d n2 c2 m2 d2 : Nat} (w : World) (h1 : Lst .u32 w a n c [3]) (k1 : Lst .u32 w b m d [2]) (h2 : Lst .u32 w a2 n2 c2 (limbs 2)) (k2 : Lst .u32 w b2 m2 d2 (limbs 1)) (hn : 1 = n) (hm : 1 = m) (hn2 : n2 ≤ 2) (hm2 : m2 ≤ 3) :
    Calls Tryd.prog 38 #[.agg #[.bool true, .slice a n c, .slice b m d], .agg #[.bool false, .slice a2 n2 c2, .slice b2 m2 d2]] w fun e w' => ∃ a n c b m d, e = .returned (.agg #[.bool false, .slice a n c, .slice b m d]) ∧ Own 75 .u32 w.heap.size w' a n c [1] ∧ Own 75 .u32 w.heap.size w' b m d [2] ∧ n ≤ 4 ∧ m ≤ 4 ∧ Below w.heap.size w w' := by
  have h := radd_c true false a b a2 b2 n c m d n2 c2 m2 d2 3 _ _ _ _ w h1 k1 h2 k2 (by omega) (by omega) (by omega) (by omega) (by omega)
  rw [val_limbs, val_limbs, show val [3] = 3 from rfl, show val [2] = 2 from rfl, nf12] at h
  refine h.mono ?_
  rintro e w' ⟨s, a, n, c, b, m, d, rfl, rfl, o1, o2, _, _, hb⟩
  rw [show limbs (R.mk false 1 2).p = [1] from limbs_small (v := 1) (by decide) (by decide)] at o1
  rw [show limbs (R.mk false 1 2).q = [2] from limbs_small (v := 2) (by decide) (by decide)] at o2
  have e1 := o1.len
  have e2 := o2.len
  simp only [List.length_cons, List.length_nil] at e1 e2
  exact ⟨a, n, c, b, m, d, rfl, o1, o2, by omega, by omega, hb⟩
theorem cmpS_c {a b a2 b2 : Option Addr} {n c m d n2 c2 m2 d2 : Nat} (w : World) (h1 : Lst .u32 w a n c [3]) (k1 : Lst .u32 w b m d [2]) (h2 : Lst .u32 w a2 n2 c2 (limbs 3)) (k2 : Lst .u32 w b2 m2 d2 (limbs 2)) (hn : 1 = n) (hm : 1 = m) (hn2 : n2 ≤ 2) (hm2 : m2 ≤ 3) :
    Calls Tryd.prog 40 #[.agg #[.bool true, .slice a n c, .slice b m d], .agg #[.bool true, .slice a2 n2 c2, .slice b2 m2 d2]] w fun e w' => e = .returned (.int .i64 0) ∧ Below w.heap.size w w' := by
  have h := rcmp_c true true a b a2 b2 n c m d n2 c2 m2 d2 3 _ _ _ _ w h1 k1 h2 k2 (by omega) (by omega) (by omega) (by omega) (by omega)
  rw [val_limbs, val_limbs, show val [3] = 3 from rfl, show val [2] = 2 from rfl, cmp32] at h
  exact h

set_option maxHeartbeats 6400000 in
set_option maxRecDepth 100000 in
theorem awake2_c (w : World) (htab : Tab w) :
    Calls Tryd.prog 31 #[] w fun e w' => e = .returned (.bool true) ∧ Below w.heap.size w w' := by
  have HT := Lib.hid htab
  clear htab
  go_enter Tryd.func31, Tryd.ntmps31
  go_wp2_with fail
  refine (parse32_c w).mono ?_
  rintro e w1 ⟨a1, n1, c1, b1, m1, d1, rfl, o1, o2, B1⟩
  have N1 : Hid (1 = n1) := o1.len
  have N2 : Hid (1 = m1) := o2.len
  obtain ⟨g, hg⟩ : ∃ g, Hid (g = w1.heap.size) := ⟨_, rfl⟩
  have kA := Blk.new w1 47 #[.bool true, .slice a1 n1 c1, .slice b1 m1 d1]
  have bb := B1.alloc B1.size (.cells #[.bool true, .slice a1 n1 c1, .slice b1 m1 d1] 47)
  have L1 := (o1.kept ((Below.refl w1.heap.size w1).alloc (Nat.le_refl _) (.cells #[.bool true, .slice a1 n1 c1, .slice b1 m1 d1] 47))).lst
  have L2 := (o2.kept ((Below.refl w1.heap.size w1).alloc (Nat.le_refl _) (.cells #[.bool true, .slice a1 n1 c1, .slice b1 m1 d1] 47))).lst
  go_wp2_with fail
  obtain ⟨W0, hW0⟩ : ∃ W0, W0 = w1.alloc (.cells #[.bool true, .slice a1 n1 c1, .slice b1 m1 d1] 47) := ⟨_, rfl⟩
  rw [← hW0] at kA bb L1 L2 ⊢
  rw [← hg.out] at kA ⊢
  clear hW0 o1 o2 B1
  clear hg
  have DA : Hid (Blk W0.drew g 47 #[.bool true, .slice a1 n1 c1, .slice b1 m1 d1]) := kA
  have DB : Hid (Below w.heap.size w W0.drew) := bb.drew
  have DL1 := Lib.hid (L1.drewN 1)
  have DL2 := Lib.hid (L2.drewN 1)
  obtain ⟨y0, y1, y2⟩ := kA.cells3
  clear kA bb L1 L2
  go_region_held3 (fun w' => w'.cell? ⟨g, 0, none⟩ = some (.bool true) ∧ w'.cell? ⟨g, 1, none⟩ = some (.slice a1 n1 c1) ∧ w'.cell? ⟨g, 2, none⟩ = some (.slice b1 m1 d1)) (go_keep) (first
    | (go_at_call 49; have hof := rof_c 2 W0.drew (by omega) (by omega); rw [nf2] at hof; refine hof.mono ?_; rintro e v1 ⟨s2, a2, n2, c2, b2, m2, d2, rfl, rfl, o3, o4, hn2, hm2, B1⟩; clear hof; have A1 := DA.out.on B1; obtain ⟨z0, z1, z2⟩ := A1.cells3; have BB1 := DB.out.trans (B1.mono DB.out.size); have M1 := Lib.hid (DL1.out.below B1); have M2 := Lib.hid (DL2.out.below B1); have O3 := Lib.hid o3.lst; have O4 := Lib.hid o4.lst; clear o3 o4 B1)
    | (go_at_call 38; have had := addS_c v1 M1.out M2.out O3.out O4.out N1.out N2.out hn2 hm2; refine had.mono ?_; rintro e v2 ⟨a3, n3, c3, b3, m3, d3, rfl, o5, o6, hn3, hm3, B2⟩; clear had; have A2 := A1.on B2; obtain ⟨k0, k1, k2⟩ := A2.cells3; have BB2 := BB1.trans (B2.mono BB1.size); have T1 := Lib.hid (M1.out.below B2); have T2 := Lib.hid (M2.out.below B2); have O5 := Lib.hid o5; have O6 := Lib.hid o6; clear o5 o6 B2)
    | (go_at_call 43; have htx := rtext_c false a3 b3 n3 c3 m3 d3 [1] [2] v2 O5.out.lst O6.out.lst hn3 hm3 (HT.out.below BB2); rw [show (nf ⟨false, val [1], val [2]⟩) = ⟨false, 1, 2⟩ by decide, tx12] at htx; refine htx.mono ?_; rintro e v3 ⟨rfl, B3⟩; clear htx; have A3 := A2.on B3; obtain ⟨l0, l1, l2⟩ := A3.cells3; have BB3 := BB2.trans (B3.mono BB2.size); have U1 := Lib.hid (T1.out.below B3); have U2 := Lib.hid (T2.out.below B3); clear B3)
    | (go_at_call 50; have hfr := frac_c (-6) 4 v3 (by omega) (by omega) (by omega) (by omega); rw [nf64'] at hfr; refine hfr.mono ?_; rintro e v4 ⟨s4, a4, n4, c4, b4, m4, d4, rfl, rfl, o7, o8, hn4, hm4, B4⟩; clear hfr; have A4 := A3.on B4; obtain ⟨j0, j1, j2⟩ := A4.cells3; have BB4 := BB3.trans (B4.mono BB3.size); have V1 := Lib.hid (U1.out.below B4); have V2 := Lib.hid (U2.out.below B4); have O7 := Lib.hid o7.lst; have O8 := Lib.hid o8.lst; clear o7 o8 B4)
    | (go_at_call 40; have hcm := cmpS_c v4 V1.out V2.out O7.out O8.out N1.out N2.out hn4 hm4; refine hcm.mono ?_; rintro e v5 ⟨rfl, B5⟩; clear hcm; have A5 := A4.on B5; obtain ⟨i0, i1, i2⟩ := A5.cells3; have BB5 := BB4.trans (B5.mono BB4.size); clear B5))
  go_wp2_with fail
  go_ret
  exact ⟨rfl, BB5⟩
end Go.Proofs.YtgjndondonehhaaDoor
