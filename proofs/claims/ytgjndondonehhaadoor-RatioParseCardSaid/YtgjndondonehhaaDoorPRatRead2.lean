import Derived.Test.YtgjndondonehhaaDoorPRatNumeral
import Derived.Test.YtgjndondonehhaaDoorPRatText2
import Derived.Test.YtgjndondonehhaaDoorPk2
import Derived.Deep.RegionHeld3
/-
  electionref02.Read.
-/
namespace Go.Proofs.YtgjndondonehhaaDoor
open Go.RowKit NatMath RatMath

theorem sign_yes {s : ByteArray} (h0 : 0 < s.size) (h : (s[0]'h0).toNat = 45) : signed s = true ∧ unsigned s = s.extract 1 s.size := by
  have hl : ∃ l, s.data.toList = 45 :: l := by
    have h2 : s.data.toList[0]? = some (s[0]'h0) := by
      rw [List.getElem?_eq_some_iff]
      exact ⟨by simpa using h0, rfl⟩
    cases hs : s.data.toList with
    | nil => rw [hs] at h2; simp at h2
    | cons x l =>
      rw [hs] at h2
      simp at h2
      refine ⟨l, ?_⟩
      rw [h2]
      congr 1
      exact UInt8.toNat_inj.mp (by rw [h]; rfl)
  obtain ⟨l, hl⟩ := hl
  have hp : Lib.hasPrefix s.data.toList [45] = true := by rw [hl]; rfl
  refine ⟨hp, ?_⟩
  apply bytes_ext
  rw [extract_list]
  unfold unsigned Lib.trimPrefix
  rw [if_pos hp, hl]
  have : s.size = l.length + 1 := by
    have : s.data.toList.length = l.length + 1 := by rw [hl]; rfl
    simpa using this
  simp [this]
theorem sign_no {s : ByteArray} (h : ∀ h0 : 0 < s.size, (s[0]'h0).toNat ≠ 45) : signed s = false ∧ unsigned s = s := by
  have hp : Lib.hasPrefix s.data.toList [45] = false := by
    cases hs : s.data.toList with
    | nil => rfl
    | cons x l =>
      have h0 : 0 < s.size := by
        have : s.data.toList.length = l.length + 1 := by rw [hs]; rfl
        have h2 : s.size = s.data.toList.length := by simp
        omega
      have h2 : s.data.toList[0]? = some (s[0]'h0) := by
        rw [List.getElem?_eq_some_iff]
        exact ⟨by simpa using h0, rfl⟩
      rw [hs] at h2
      simp at h2
      have h3 := h h0
      rw [← h2] at h3
      have : ((45 : UInt8) == x) = false := by
        simp
        intro e
        rw [← e] at h3
        exact h3 rfl
      simp [Lib.hasPrefix, List.isPrefixOf, this]
  refine ⟨hp, ?_⟩
  unfold unsigned Lib.trimPrefix
  rw [hp]
  rfl
theorem get_list {U : ByteArray} {j : Nat} (hj : j < U.size) : U.data.toList[j]? = some (U[j]'hj) := by
  rw [List.getElem?_eq_some_iff]
  exact ⟨by simpa using hj, rfl⟩
theorem cut_at {U : ByteArray} {c : UInt8} {j : Nat} (hj : j < U.size) (h : U[j]'hj = c) (hn : ∀ t, t < j → U.data.toList[t]? ≠ some c) : cutB U c = (U.extract 0 j, U.extract (j + 1) U.size, true) := by
  have h1 := get_list hj
  have hs : U.data.toList.length = U.size := by simp
  have hl : U.data.toList = U.data.toList.take j ++ c :: U.data.toList.drop (j + 1) := by
    obtain ⟨h3, h4⟩ := List.getElem?_eq_some_iff.mp h1
    rw [← h, ← h4, List.getElem_cons_drop, List.take_append_drop]
  have hi := indexByte_app c (U.data.toList.drop (j + 1)) (U.data.toList.take j) (fun x hx e => by
    obtain ⟨t, ht, hx⟩ := List.getElem_of_mem hx
    rw [List.length_take] at ht
    refine hn t (by omega) ?_
    rw [List.getElem?_eq_some_iff]
    refine ⟨by omega, ?_⟩
    rw [← e, ← hx, List.getElem_take])
  rw [← hl, List.length_take, hs, show min j U.size = j by omega] at hi
  unfold cutB
  rw [hi, if_pos (by omega)]
  rfl
theorem cut_none {U : ByteArray} {c : UInt8} (hn : ∀ t, t < U.size → U.data.toList[t]? ≠ some c) : cutB U c = (U, ⟨#[]⟩, false) := by
  refine cutB_miss1 _ _ (fun x hx e => ?_)
  obtain ⟨t, ht, hx⟩ := List.getElem_of_mem hx
  refine hn t (by simpa using ht) ?_
  rw [List.getElem?_eq_some_iff]
  exact ⟨ht, by rw [hx, e]⟩
theorem num_small {s : ByteArray} (h : numB s = true) (hs : s.size ≤ 40) : numG s 0 s.size < 2 ^ 160 := by
  have h1 := numG_lt (numB_numeral h).1 0 s.size (by omega)
  have h2 : 10 ^ s.size ≤ 10 ^ 40 := Nat.pow_le_pow_right (by omega) hs
  have h3 : (10 : Nat) ^ 40 ≤ 2 ^ 160 := by decide
  omega
/-- Whether Read takes s is whether Parse does. -/
theorem read_ok (s : ByteArray) : okP s = decide (tx (nf (valP s)) = s) := by
  by_cases h : tx (nf (valP s)) = s
  · rw [decide_eq_true h, ← h]
    exact tx_ok (nf_nf _)
  · rw [decide_eq_false h]
    cases hk : okP s with
    | false => rfl
    | true =>
      obtain ⟨_, _, h4, h5⟩ := okP_spec hk
      rw [h4] at h
      exact absurd h5 h
theorem read_no {s : ByteArray} (h : numB (numT s) = false ∨ numB (denT s) = false ∨ numG (denT s) 0 (denT s).size = 0) : okP s = false := by
  cases hk : okP s with
  | false => rfl
  | true =>
    exfalso
    obtain ⟨h1, h2, h4, _⟩ := okP_spec hk
    rcases h with h | h | h
    · rw [h1] at h; cases h
    · rw [h2] at h; cases h
    · have := nf_q (valP s)
      rw [h4] at this
      exact this h

theorem toList_nil {s : ByteArray} (h : s.size = 0) : s.toList = [] := by
  rw [ByteArray.toList_eq]
  exact List.eq_nil_of_length_eq_zero (by simpa using h)
theorem toList_ne {s : ByteArray} (h : 0 < s.size) : ¬ s.toList = [] := by
  rw [ByteArray.toList_eq]
  intro e
  have : s.data.toList.length = 0 := by rw [e]; rfl
  have h2 : s.size = s.data.toList.length := by simp
  omega

set_option maxHeartbeats 6400000 in
set_option maxRecDepth 100000 in
theorem read2_c (s : ByteArray) (w : World) (hs : s.size ≤ 40) :
    Calls Tryd.prog 46 #[.string s] w fun e w' => ∃ b a n c a' n' c', e = .returned (.tuple #[.agg #[.bool b, .slice a n c, .slice a' n' c'], .bool (okP s)]) ∧ (okP s = true → b = signed s ∧ OwnT w.heap.size w' a n c (bitsN (valP s).p) ∧ OwnT w.heap.size w' a' n' c' (bitsN (valP s).q) ∧ n ≤ 200 ∧ n' ≤ 200) ∧ Below w.heap.size w w' := by
  rcases Nat.eq_zero_or_pos s.size with hz | h0
  · have hie : (!s.toList.isEmpty) = false := by simp [toList_nil hz]
    obtain ⟨e1, e2⟩ := sign_no (s := s) (fun h => by omega)
    have SG := Lib.hid e1; have US := Lib.hid e2
    clear e1 e2 hz
    go_enter Tryd.func46, Tryd.ntmps46
    go_wp2_with fail
    go_loop [4, 5, 7] (fun s4 s5 i => s4 = .string s ∧ s5 = .string ⟨#[49]⟩ ∧ ∃ j : Nat, j ≤ s.size ∧ (∀ t, t < j → s.data.toList[t]? ≠ some 47) ∧ i = .int .i64 j) (fun _ _ i => s.size - (intOf i).toNat)
    case atStart => exact ⟨rfl, rfl, 0, Nat.zero_le _, fun t ht => absurd ht (Nat.not_lt_zero _), rfl⟩
    case round =>
      obtain ⟨rfl, rfl, j, hj, hn, rfl⟩ := hrel
      have HN := Lib.hid hn
      clear hn
      by_cases hlt : j < s.size
      · obtain ⟨Z, hZ⟩ : ∃ Z : Nat, Hid (Z = (s[j]'hlt).toNat) := ⟨_, rfl⟩
        have hZe : (((s[j]'hlt).toNat : Nat) : Int) = (Z : Int) := by rw [hZ.out]
        by_cases h47 : Z = 47
        · have hb : ((Z : Int) == 47) = true := by rw [h47]; rfl
          have hcut := cut_at hlt (UInt8.toNat_inj.mp (show (s[j]'hlt).toNat = (47 : UInt8).toNat by rw [← hZ.out, h47]; rfl)) HN.out
          have c1 : (0 : Int) ≤ (j : Int) := by omega
          have c2 : (j : Int) ≤ (s.size : Int) := by omega
          have c3 : (0 : Int) ≤ (j : Int) + 1 := by omega
          have c4 : (j : Int) + 1 ≤ (s.size : Int) := by omega
          have c5 : IntKind.i64.wrap ((j : Int) + 1) = (j : Int) + 1 := IntWalk.i64_in _ (by omega)
          have c6 : ((j : Int) + 1).toNat = j + 1 := by omega
          have HCUT := Lib.hid hcut
          clear hcut h47
          go_wp2_with fail
          go_quiet (fail)
          go_wp2_with fail
          obtain ⟨Wn, hWn⟩ : ∃ W, W = (w.alloc (.cells #[.bool false, .slice none 0 0, .slice none 0 0] 50)).drewN nq := ⟨_, rfl⟩
          have kZ : Blk Wn w.heap.size 50 #[.bool false, .slice none 0 0, .slice none 0 0] := by rw [hWn]; exact Blk.new w 50 #[.bool false, .slice none 0 0, .slice none 0 0]
          have bb : Below w.heap.size w Wn := by rw [hWn]; exact below_drewN ((Below.refl w.heap.size w).alloc (Nat.le_refl _) _) nq
          rw [← hWn]
          obtain ⟨NT, hNT⟩ : ∃ x : ByteArray, Hid (x = s.extract 0 j) := ⟨_, rfl⟩
          obtain ⟨DT, hDT⟩ : ∃ x : ByteArray, Hid (x = s.extract (j + 1) s.size) := ⟨_, rfl⟩
          rw [← hNT.out, ← hDT.out]
          clear hWn
          have HNT : Hid (numT s = NT) := by show _ = _; unfold numT; rw [US.out, HCUT.out, hNT.out]
          have HDT : Hid (denT s = DT) := by show _ = _; unfold denT; rw [US.out, HCUT.out, hDT.out]; rfl
          have hnt : NT.size ≤ 40 := by rw [hNT.out, ByteArray.size_extract]; omega
          have hdt : DT.size ≤ 40 := by rw [hDT.out, ByteArray.size_extract]; omega
          clear c1 c2 c3 c4 c5 c6 hb HCUT HN hNT hDT hZe hZ hlt hj
          obtain ⟨N1, hN1⟩ : ∃ z, Hid (z = numB NT) := ⟨_, rfl⟩
          obtain ⟨N2, hN2⟩ : ∃ z, Hid (z = numB DT) := ⟨_, rfl⟩
          have HR1 := Lib.hid (fun w => read_c NT w hnt)
          have HR2 := Lib.hid (fun w => read_c DT w hdt)
          have HS1 := Lib.hid hnt; have HS2 := Lib.hid hdt
          clear hnt hdt
          rw [← hN1.out] at HR1
          rw [← hN2.out] at HR2
          refine (HR1.out _).mono ?_
          rintro e w1 ⟨a1, n1, c1, rfl, o1, B1⟩
          have kZ1 := kZ.on B1
          have bb1 := bb.trans (B1.mono bb.size)
          have O1 := Lib.hid (fun h => (o1 h).lst)
          have H1 := Lib.hid o1
          clear o1 B1 kZ bb
          go_wp2_with fail
          refine (HR2.out _).mono ?_
          rintro e w2 ⟨a2, n2, c2, rfl, o2, B2⟩
          have O1' := Lib.hid (fun h => (O1.out h).below B2)
          have H2 := Lib.hid o2
          have kZ2 := kZ1.on B2
          have bb2 := bb1.trans (B2.mono bb1.size)
          obtain ⟨q0, q1, q2, q3, q4, q5⟩ := kZ2.store3 (.bool false) (.slice none 0 0)
          have KZ2 := Lib.hid kZ2; have BB2 := Lib.hid bb2
          clear kZ1 bb1 O1 o2 B2 kZ2 bb2
          cases N1 with
          | false =>
            go_wp2_with fail
            have pbox := KZ2.out.put3 (.bool false) (.slice none 0 0) (.slice none 0 0)
            have pbel := below_put3 BB2.out (Nat.le_refl _) (.bool false) (.slice none 0 0) (.slice none 0 0)
            change bodyPost _ _ _ _ _ (put3 w2 w.heap.size (.bool false) (.slice none 0 0) (.slice none 0 0))
            obtain ⟨W, hW⟩ : ∃ W, W = put3 w2 w.heap.size (.bool false) (.slice none 0 0) (.slice none 0 0) := ⟨_, rfl⟩
            rw [← hW] at pbox pbel ⊢
            obtain ⟨r0, r1, r2⟩ := pbox.cells3
            refine bodyPost_ret (v := .tuple #[.agg #[.bool false, .slice none 0 0, .slice none 0 0], .bool false]) (by simp [results, Tryd.results46, go_sem, r0, r1, r2]) rfl ?_
            have hk : okP s = false := read_no (Or.inl (by rw [HNT.out]; exact hN1.out.symm))
            exact ⟨false, none, 0, 0, none, 0, 0, by rw [hk], (fun h => by rw [hk] at h; cases h), pbel⟩
          | true =>
            cases N2 with
            | false =>
              go_wp2_with fail
              have pbox := KZ2.out.put3 (.bool false) (.slice none 0 0) (.slice none 0 0)
              have pbel := below_put3 BB2.out (Nat.le_refl _) (.bool false) (.slice none 0 0) (.slice none 0 0)
              change bodyPost _ _ _ _ _ (put3 w2 w.heap.size (.bool false) (.slice none 0 0) (.slice none 0 0))
              obtain ⟨W, hW⟩ : ∃ W, W = put3 w2 w.heap.size (.bool false) (.slice none 0 0) (.slice none 0 0) := ⟨_, rfl⟩
              rw [← hW] at pbox pbel ⊢
              obtain ⟨r0, r1, r2⟩ := pbox.cells3
              refine bodyPost_ret (v := .tuple #[.agg #[.bool false, .slice none 0 0, .slice none 0 0], .bool false]) (by simp [results, Tryd.results46, go_sem, r0, r1, r2]) rfl ?_
              have hk : okP s = false := read_no (Or.inr (Or.inl (by rw [HDT.out]; exact hN2.out.symm)))
              exact ⟨false, none, 0, 0, none, 0, 0, by rw [hk], (fun h => by rw [hk] at h; cases h), pbel⟩
            | true =>
              by_cases hd0 : numG DT 0 DT.size = 0
              · have hl : ((n2 : Int) == 0) = true := by
                  have := (H2.out rfl).len
                  rw [hd0, bitsN_zero] at this
                  rw [← this]
                  rfl
                have HD0 := Lib.hid hd0
                clear hd0
                go_wp2_with fail
                have pbox := KZ2.out.put3 (.bool false) (.slice none 0 0) (.slice none 0 0)
                have pbel := below_put3 BB2.out (Nat.le_refl _) (.bool false) (.slice none 0 0) (.slice none 0 0)
                change bodyPost _ _ _ _ _ (put3 w2 w.heap.size (.bool false) (.slice none 0 0) (.slice none 0 0))
                obtain ⟨W, hW⟩ : ∃ W, W = put3 w2 w.heap.size (.bool false) (.slice none 0 0) (.slice none 0 0) := ⟨_, rfl⟩
                rw [← hW] at pbox pbel ⊢
                obtain ⟨r0, r1, r2⟩ := pbox.cells3
                refine bodyPost_ret (v := .tuple #[.agg #[.bool false, .slice none 0 0, .slice none 0 0], .bool false]) (by simp [results, Tryd.results46, go_sem, r0, r1, r2]) rfl ?_
                have hk : okP s = false := read_no (Or.inr (Or.inr (by rw [HDT.out]; exact HD0.out)))
                exact ⟨false, none, 0, 0, none, 0, 0, by rw [hk], (fun h => by rw [hk] at h; cases h), pbel⟩
              · have hl : ((n2 : Int) == 0) = false := by
                  have := (H2.out rfl).len
                  rw [← this, bitsN_len]
                  exact decide_eq_false hd0
                obtain ⟨P, hP⟩ : ∃ P, Hid (P = numG NT 0 NT.size) := ⟨_, rfl⟩
                obtain ⟨Q, hQ⟩ : ∃ Q, Hid (Q = numG DT 0 DT.size) := ⟨_, rfl⟩
                have hPb : P < 2 ^ 160 := by rw [hP.out]; exact num_small hN1.out.symm HS1.out
                have hQb : Q < 2 ^ 160 := by rw [hQ.out]; exact num_small hN2.out.symm HS2.out
                have x1 := O1'.out rfl
                have x2 := (H2.out rfl).lst
                rw [← hP.out] at x1
                rw [← hQ.out] at x2
                have l1 : n1 ≤ 160 := by
                  have h1 := bitsN_length P 160 hPb
                  have h2 := x1.len
                  omega
                have l2 : n2 ≤ 160 := by
                  have h1 := bitsN_length Q 160 hQb
                  have h2 := x2.len
                  omega
                obtain ⟨z, hz⟩ : ∃ z, Hid (nf ⟨false, P, Q⟩ = z) := ⟨_, rfl⟩
                have zb : z.p < 2 ^ 160 ∧ z.q < 2 ^ 160 := by
                  have h1 := nf_p_le ⟨false, P, Q⟩
                  have h2 := nf_q_le ⟨false, P, Q⟩
                  rw [hz.out] at h1 h2
                  simp only at h1 h2
                  have e : 1 ≤ 2 ^ 160 := Nat.one_le_two_pow
                  have e2 : (1 : Nat) < 2 ^ 160 := by decide
                  omega
                have hv : nf (valP s) = z := by
                  have : valP s = ⟨false, P, Q⟩ := by unfold valP; rw [SG.out, HNT.out, HDT.out, ← hP.out, ← hQ.out]
                  rw [this, hz.out]
                have hno := norm2_c false a1 a2 n1 c1 n2 c2 P Q w2 x1 x2 (by omega) (by omega)
                rw [hz.out] at hno
                have HNO := Lib.hid hno; have ZB := Lib.hid zb; have HV := Lib.hid hv
                clear hno zb hv x1 x2 hPb hQb hd0 q0 q1 q2 q3 q4 q5
                go_wp2_with fail
                refine HNO.out.mono ?_
                rintro e w3 ⟨t3, a3, n3, c3, b3, m3, d3, rfl, rfl, o3, o4, B3⟩
                have hn3 := o3.bound ZB.out.1
                have hm3 := o4.bound ZB.out.2
                have kZ3 := KZ2.out.on B3
                have bb3 := BB2.out.trans (B3.mono BB2.out.size)
                have p3 := o3.low KZ2.out.lt
                have p4 := o4.low KZ2.out.lt
                have bz := (Below.refl w3.heap.size w3).alloc (Nat.le_refl _) (.cells #[.bool z.s, .slice a3 n3 c3, .slice b3 m3 d3] 50)
                have kR := Blk.new w3 50 #[.bool z.s, .slice a3 n3 c3, .slice b3 m3 d3]
                have gne : w3.heap.size ≠ w.heap.size := by have := kZ3.lt; omega
                have kZ4 := kZ3.on bz
                have bb4 := bb3.trans (bz.mono bb3.size)
                have p5 := p3.kept bz
                have p6 := p4.kept bz
                obtain ⟨W4, hW4⟩ : ∃ W, W = w3.alloc (.cells #[.bool z.s, .slice a3 n3 c3, .slice b3 m3 d3] 50) := ⟨_, rfl⟩
                rw [← hW4] at kR kZ4 bb4 p5 p6
                have HW4 := Lib.hid hW4
                obtain ⟨g, hg⟩ : ∃ g, Hid (g = w3.heap.size) := ⟨_, rfl⟩
                rw [← hg.out] at kR gne
                have KR := Lib.hid kR; have KZ4 := Lib.hid kZ4; have BB4 := Lib.hid bb4; have P5 := Lib.hid p5; have P6 := Lib.hid p6
                clear o3 o4 B3 kZ3 bb3 p3 p4 bz kR kZ4 bb4 p5 p6 hW4
                go_wp2_with fail
                rw [← HW4.out, ← hg.out]
                have DR : Hid (Blk W4.drew g 50 #[.bool z.s, .slice a3 n3 c3, .slice b3 m3 d3]) := KR.out
                have DZ : Hid (Blk W4.drew w.heap.size 50 #[.bool false, .slice none 0 0, .slice none 0 0]) := KZ4.out
                have DB : Hid (Below w.heap.size w W4.drew) := BB4.out.drew
                have L3 : Hid (OwnT (w.heap.size + 1) W4.drew a3 n3 c3 (bitsN z.p)) := P5.out
                have L4 : Hid (OwnT (w.heap.size + 1) W4.drew b3 m3 d3 (bitsN z.q)) := P6.out
                have htt := text2_c z.s a3 b3 n3 c3 m3 d3 z.p z.q W4.drew L3.out.lst L4.out.lst (by omega) (by omega) ZB.out.1 ZB.out.2
                obtain ⟨y0, y1, y2⟩ := KR.out.cells3
                clear HW4 KR KZ4 BB4 P5 P6
                by_cases hT : tx z = s
                · rw [show tx ⟨z.s, z.p, z.q⟩ = s from hT] at htt
                  have HTT := Lib.hid htt
                  have HOK : Hid (okP s = true) := by show _ = _; rw [read_ok s, HV.out]; exact decide_eq_true hT
                  clear htt hT
                  go_region_held3 (fun w' => w'.cell? ⟨g, 0, none⟩ = some (.bool z.s) ∧ w'.cell? ⟨g, 1, none⟩ = some (.slice a3 n3 c3) ∧ w'.cell? ⟨g, 2, none⟩ = some (.slice b3 m3 d3)) (go_keep) (first
                    | (go_at_call 45; refine (HTT.out).mono ?_; rintro e v5 ⟨rfl, B5⟩; have A5 := DR.out.on B5; obtain ⟨k0, k1, k2⟩ := A5.cells3; have Z5 := DZ.out.on B5; have BB5 := DB.out.trans (B5.mono DB.out.size); have L5 := Lib.hid (L3.out.kept B5); have L6 := Lib.hid (L4.out.kept B5); obtain ⟨q0, q1, q2, q3, q4, q5⟩ := Z5.store3 (.bool z.s) (.slice a3 n3 c3); obtain ⟨i0, i1, i2⟩ := (put3_other (g := w.heap.size) A5 gne (.bool z.s) (.slice a3 n3 c3) (.slice b3 m3 d3)).cells3; unfold put3 at i0 i1 i2; clear B5))
                  go_wp2_with fail
                  have pbox := Z5.put3 (.bool z.s) (.slice a3 n3 c3) (.slice b3 m3 d3)
                  have pbel := below_put3 BB5 (Nat.le_refl _) (.bool z.s) (.slice a3 n3 c3) (.slice b3 m3 d3)
                  have p3 := (L5.out.put3 (L5.out.hi (g := w.heap.size) (Nat.lt_succ_self _)) (.bool z.s) (.slice a3 n3 c3) (.slice b3 m3 d3)).low (Nat.le_succ _)
                  have p4 := (L6.out.put3 (L6.out.hi (g := w.heap.size) (Nat.lt_succ_self _)) (.bool z.s) (.slice a3 n3 c3) (.slice b3 m3 d3)).low (Nat.le_succ _)
                  change bodyPost _ _ _ _ _ (put3 v5 w.heap.size (.bool z.s) (.slice a3 n3 c3) (.slice b3 m3 d3))
                  obtain ⟨W, hW⟩ : ∃ W, W = put3 v5 w.heap.size (.bool z.s) (.slice a3 n3 c3) (.slice b3 m3 d3) := ⟨_, rfl⟩
                  rw [← hW] at pbox pbel p3 p4 ⊢
                  obtain ⟨r0, r1, r2⟩ := pbox.cells3
                  refine bodyPost_ret (v := .tuple #[.agg #[.bool z.s, .slice a3 n3 c3, .slice b3 m3 d3], .bool true]) (by simp [results, Tryd.results46, go_sem, r0, r1, r2]) rfl ?_
                  obtain ⟨_, _, e4, _⟩ := okP_spec HOK.out
                  have e5 : valP s = z := by rw [← e4, HV.out]
                  exact ⟨z.s, a3, n3, c3, b3, m3, d3, by rw [HOK.out], (fun _ => by rw [e5]; exact ⟨by rw [← e5]; rfl, p3, p4, by omega, by omega⟩), pbel⟩
                · obtain ⟨T, hTT⟩ : ∃ T, Hid (T = tx z) := ⟨_, rfl⟩
                  rw [show tx ⟨z.s, z.p, z.q⟩ = T from hTT.out.symm] at htt
                  have HTT := Lib.hid htt
                  have HOK : Hid (okP s = false) := by show _ = _; rw [read_ok s, HV.out]; exact decide_eq_false hT
                  have hTl : ¬ T.toList = s.toList := by
                    rw [ByteArray.toList_eq, ByteArray.toList_eq]
                    intro e
                    exact hT (by rw [← hTT.out]; exact bytes_ext e)
                  clear htt hT
                  go_region_held3 (fun w' => w'.cell? ⟨g, 0, none⟩ = some (.bool z.s) ∧ w'.cell? ⟨g, 1, none⟩ = some (.slice a3 n3 c3) ∧ w'.cell? ⟨g, 2, none⟩ = some (.slice b3 m3 d3)) (go_keep) (first
                    | (go_at_call 45; refine (HTT.out).mono ?_; rintro e v5 ⟨rfl, B5⟩; have A5 := DR.out.on B5; obtain ⟨k0, k1, k2⟩ := A5.cells3; have Z5 := DZ.out.on B5; have BB5 := DB.out.trans (B5.mono DB.out.size); have L5 := Lib.hid (L3.out.kept B5); have L6 := Lib.hid (L4.out.kept B5); obtain ⟨q0, q1, q2, q3, q4, q5⟩ := Z5.store3 (.bool z.s) (.slice a3 n3 c3); obtain ⟨i0, i1, i2⟩ := (put3_other (g := w.heap.size) A5 gne (.bool z.s) (.slice a3 n3 c3) (.slice b3 m3 d3)).cells3; unfold put3 at i0 i1 i2; clear B5))
                  go_wp2_with fail
                  have pbox := Z5.put3 (.bool z.s) (.slice a3 n3 c3) (.slice b3 m3 d3)
                  have pbel := below_put3 BB5 (Nat.le_refl _) (.bool z.s) (.slice a3 n3 c3) (.slice b3 m3 d3)
                  have p3 := (L5.out.put3 (L5.out.hi (g := w.heap.size) (Nat.lt_succ_self _)) (.bool z.s) (.slice a3 n3 c3) (.slice b3 m3 d3)).low (Nat.le_succ _)
                  have p4 := (L6.out.put3 (L6.out.hi (g := w.heap.size) (Nat.lt_succ_self _)) (.bool z.s) (.slice a3 n3 c3) (.slice b3 m3 d3)).low (Nat.le_succ _)
                  change bodyPost _ _ _ _ _ (put3 v5 w.heap.size (.bool z.s) (.slice a3 n3 c3) (.slice b3 m3 d3))
                  obtain ⟨W, hW⟩ : ∃ W, W = put3 v5 w.heap.size (.bool z.s) (.slice a3 n3 c3) (.slice b3 m3 d3) := ⟨_, rfl⟩
                  rw [← hW] at pbox pbel p3 p4 ⊢
                  obtain ⟨r0, r1, r2⟩ := pbox.cells3
                  refine bodyPost_ret (v := .tuple #[.agg #[.bool z.s, .slice a3 n3 c3, .slice b3 m3 d3], .bool false]) (by simp [results, Tryd.results46, go_sem, r0, r1, r2, hTl]) rfl ?_
                  exact ⟨z.s, a3, n3, c3, b3, m3, d3, by rw [HOK.out], (fun h => by rw [HOK.out] at h; cases h), pbel⟩
        · have hb : ((Z : Int) == 47) = false := by simp; omega
          have hn2 : Hid (∀ t, t < j + 1 → s.data.toList[t]? ≠ some 47) := fun t ht => by
            by_cases e : t = j
            · rw [e, get_list hlt]
              intro h
              have := congrArg UInt8.toNat (Option.some.inj h)
              rw [← hZ.out] at this
              exact h47 this
            · exact HN.out t (by omega)
          clear h47
          go_wp2_with fail
          go_round
          case rel => exact ⟨rfl, rfl, j + 1, by omega, hn2.out, by go_num⟩
          case measure => simp [intOf]; omega
      · obtain rfl : j = s.size := by omega
        have hcut := cut_none HN.out
        have HCUT := Lib.hid hcut
        clear hcut
        go_wp2_with fail
        obtain ⟨Wn, hWn⟩ : ∃ W, W = (w.alloc (.cells #[.bool false, .slice none 0 0, .slice none 0 0] 50)) := ⟨_, rfl⟩
        have kZ : Blk Wn w.heap.size 50 #[.bool false, .slice none 0 0, .slice none 0 0] := by rw [hWn]; exact Blk.new w 50 #[.bool false, .slice none 0 0, .slice none 0 0]
        have bb : Below w.heap.size w Wn := by rw [hWn]; exact (Below.refl w.heap.size w).alloc (Nat.le_refl _) _
        rw [← hWn]
        obtain ⟨DT, hDT⟩ : ∃ x : ByteArray, Hid (x = ⟨#[49]⟩) := ⟨_, rfl⟩
        rw [← hDT.out]
        clear hWn
        have HNT : Hid (numT s = s) := by show _ = _; unfold numT; rw [US.out, HCUT.out]
        have HDT : Hid (denT s = DT) := by show _ = _; unfold denT; rw [US.out, HCUT.out, hDT.out]; rfl
        have hnt : s.size ≤ 40 := hs
        have hdt : DT.size ≤ 40 := by rw [hDT.out]; show (1 : Nat) ≤ 40; omega
        clear HCUT HN hDT hlt hj
        obtain ⟨N1, hN1⟩ : ∃ z, Hid (z = numB s) := ⟨_, rfl⟩
        obtain ⟨N2, hN2⟩ : ∃ z, Hid (z = numB DT) := ⟨_, rfl⟩
        have HR1 := Lib.hid (fun w => read_c s w hnt)
        have HR2 := Lib.hid (fun w => read_c DT w hdt)
        have HS1 := Lib.hid hnt; have HS2 := Lib.hid hdt
        clear hnt hdt
        rw [← hN1.out] at HR1
        rw [← hN2.out] at HR2
        refine (HR1.out _).mono ?_
        rintro e w1 ⟨a1, n1, c1, rfl, o1, B1⟩
        have kZ1 := kZ.on B1
        have bb1 := bb.trans (B1.mono bb.size)
        have O1 := Lib.hid (fun h => (o1 h).lst)
        have H1 := Lib.hid o1
        clear o1 B1 kZ bb
        go_wp2_with fail
        refine (HR2.out _).mono ?_
        rintro e w2 ⟨a2, n2, c2, rfl, o2, B2⟩
        have O1' := Lib.hid (fun h => (O1.out h).below B2)
        have H2 := Lib.hid o2
        have kZ2 := kZ1.on B2
        have bb2 := bb1.trans (B2.mono bb1.size)
        obtain ⟨q0, q1, q2, q3, q4, q5⟩ := kZ2.store3 (.bool false) (.slice none 0 0)
        have KZ2 := Lib.hid kZ2; have BB2 := Lib.hid bb2
        clear kZ1 bb1 O1 o2 B2 kZ2 bb2
        cases N1 with
        | false =>
          go_wp2_with fail
          have pbox := KZ2.out.put3 (.bool false) (.slice none 0 0) (.slice none 0 0)
          have pbel := below_put3 BB2.out (Nat.le_refl _) (.bool false) (.slice none 0 0) (.slice none 0 0)
          change bodyPost _ _ _ _ _ (put3 w2 w.heap.size (.bool false) (.slice none 0 0) (.slice none 0 0))
          obtain ⟨W, hW⟩ : ∃ W, W = put3 w2 w.heap.size (.bool false) (.slice none 0 0) (.slice none 0 0) := ⟨_, rfl⟩
          rw [← hW] at pbox pbel ⊢
          obtain ⟨r0, r1, r2⟩ := pbox.cells3
          refine bodyPost_ret (v := .tuple #[.agg #[.bool false, .slice none 0 0, .slice none 0 0], .bool false]) (by simp [results, Tryd.results46, go_sem, r0, r1, r2]) rfl ?_
          have hk : okP s = false := read_no (Or.inl (by rw [HNT.out]; exact hN1.out.symm))
          exact ⟨false, none, 0, 0, none, 0, 0, by rw [hk], (fun h => by rw [hk] at h; cases h), pbel⟩
        | true =>
          cases N2 with
          | false =>
            go_wp2_with fail
            have pbox := KZ2.out.put3 (.bool false) (.slice none 0 0) (.slice none 0 0)
            have pbel := below_put3 BB2.out (Nat.le_refl _) (.bool false) (.slice none 0 0) (.slice none 0 0)
            change bodyPost _ _ _ _ _ (put3 w2 w.heap.size (.bool false) (.slice none 0 0) (.slice none 0 0))
            obtain ⟨W, hW⟩ : ∃ W, W = put3 w2 w.heap.size (.bool false) (.slice none 0 0) (.slice none 0 0) := ⟨_, rfl⟩
            rw [← hW] at pbox pbel ⊢
            obtain ⟨r0, r1, r2⟩ := pbox.cells3
            refine bodyPost_ret (v := .tuple #[.agg #[.bool false, .slice none 0 0, .slice none 0 0], .bool false]) (by simp [results, Tryd.results46, go_sem, r0, r1, r2]) rfl ?_
            have hk : okP s = false := read_no (Or.inr (Or.inl (by rw [HDT.out]; exact hN2.out.symm)))
            exact ⟨false, none, 0, 0, none, 0, 0, by rw [hk], (fun h => by rw [hk] at h; cases h), pbel⟩
          | true =>
            by_cases hd0 : numG DT 0 DT.size = 0
            · have hl : ((n2 : Int) == 0) = true := by
                have := (H2.out rfl).len
                rw [hd0, bitsN_zero] at this
                rw [← this]
                rfl
              have HD0 := Lib.hid hd0
              clear hd0
              go_wp2_with fail
              have pbox := KZ2.out.put3 (.bool false) (.slice none 0 0) (.slice none 0 0)
              have pbel := below_put3 BB2.out (Nat.le_refl _) (.bool false) (.slice none 0 0) (.slice none 0 0)
              change bodyPost _ _ _ _ _ (put3 w2 w.heap.size (.bool false) (.slice none 0 0) (.slice none 0 0))
              obtain ⟨W, hW⟩ : ∃ W, W = put3 w2 w.heap.size (.bool false) (.slice none 0 0) (.slice none 0 0) := ⟨_, rfl⟩
              rw [← hW] at pbox pbel ⊢
              obtain ⟨r0, r1, r2⟩ := pbox.cells3
              refine bodyPost_ret (v := .tuple #[.agg #[.bool false, .slice none 0 0, .slice none 0 0], .bool false]) (by simp [results, Tryd.results46, go_sem, r0, r1, r2]) rfl ?_
              have hk : okP s = false := read_no (Or.inr (Or.inr (by rw [HDT.out]; exact HD0.out)))
              exact ⟨false, none, 0, 0, none, 0, 0, by rw [hk], (fun h => by rw [hk] at h; cases h), pbel⟩
            · have hl : ((n2 : Int) == 0) = false := by
                have := (H2.out rfl).len
                rw [← this, bitsN_len]
                exact decide_eq_false hd0
              obtain ⟨P, hP⟩ : ∃ P, Hid (P = numG s 0 s.size) := ⟨_, rfl⟩
              obtain ⟨Q, hQ⟩ : ∃ Q, Hid (Q = numG DT 0 DT.size) := ⟨_, rfl⟩
              have hPb : P < 2 ^ 160 := by rw [hP.out]; exact num_small hN1.out.symm HS1.out
              have hQb : Q < 2 ^ 160 := by rw [hQ.out]; exact num_small hN2.out.symm HS2.out
              have x1 := O1'.out rfl
              have x2 := (H2.out rfl).lst
              rw [← hP.out] at x1
              rw [← hQ.out] at x2
              have l1 : n1 ≤ 160 := by
                have h1 := bitsN_length P 160 hPb
                have h2 := x1.len
                omega
              have l2 : n2 ≤ 160 := by
                have h1 := bitsN_length Q 160 hQb
                have h2 := x2.len
                omega
              obtain ⟨z, hz⟩ : ∃ z, Hid (nf ⟨false, P, Q⟩ = z) := ⟨_, rfl⟩
              have zb : z.p < 2 ^ 160 ∧ z.q < 2 ^ 160 := by
                have h1 := nf_p_le ⟨false, P, Q⟩
                have h2 := nf_q_le ⟨false, P, Q⟩
                rw [hz.out] at h1 h2
                simp only at h1 h2
                have e : 1 ≤ 2 ^ 160 := Nat.one_le_two_pow
                have e2 : (1 : Nat) < 2 ^ 160 := by decide
                omega
              have hv : nf (valP s) = z := by
                have : valP s = ⟨false, P, Q⟩ := by unfold valP; rw [SG.out, HNT.out, HDT.out, ← hP.out, ← hQ.out]
                rw [this, hz.out]
              have hno := norm2_c false a1 a2 n1 c1 n2 c2 P Q w2 x1 x2 (by omega) (by omega)
              rw [hz.out] at hno
              have HNO := Lib.hid hno; have ZB := Lib.hid zb; have HV := Lib.hid hv
              clear hno zb hv x1 x2 hPb hQb hd0 q0 q1 q2 q3 q4 q5
              go_wp2_with fail
              refine HNO.out.mono ?_
              rintro e w3 ⟨t3, a3, n3, c3, b3, m3, d3, rfl, rfl, o3, o4, B3⟩
              have hn3 := o3.bound ZB.out.1
              have hm3 := o4.bound ZB.out.2
              have kZ3 := KZ2.out.on B3
              have bb3 := BB2.out.trans (B3.mono BB2.out.size)
              have p3 := o3.low KZ2.out.lt
              have p4 := o4.low KZ2.out.lt
              have bz := (Below.refl w3.heap.size w3).alloc (Nat.le_refl _) (.cells #[.bool z.s, .slice a3 n3 c3, .slice b3 m3 d3] 50)
              have kR := Blk.new w3 50 #[.bool z.s, .slice a3 n3 c3, .slice b3 m3 d3]
              have gne : w3.heap.size ≠ w.heap.size := by have := kZ3.lt; omega
              have kZ4 := kZ3.on bz
              have bb4 := bb3.trans (bz.mono bb3.size)
              have p5 := p3.kept bz
              have p6 := p4.kept bz
              obtain ⟨W4, hW4⟩ : ∃ W, W = w3.alloc (.cells #[.bool z.s, .slice a3 n3 c3, .slice b3 m3 d3] 50) := ⟨_, rfl⟩
              rw [← hW4] at kR kZ4 bb4 p5 p6
              have HW4 := Lib.hid hW4
              obtain ⟨g, hg⟩ : ∃ g, Hid (g = w3.heap.size) := ⟨_, rfl⟩
              rw [← hg.out] at kR gne
              have KR := Lib.hid kR; have KZ4 := Lib.hid kZ4; have BB4 := Lib.hid bb4; have P5 := Lib.hid p5; have P6 := Lib.hid p6
              clear o3 o4 B3 kZ3 bb3 p3 p4 bz kR kZ4 bb4 p5 p6 hW4
              go_wp2_with fail
              rw [← HW4.out, ← hg.out]
              have DR : Hid (Blk W4.drew g 50 #[.bool z.s, .slice a3 n3 c3, .slice b3 m3 d3]) := KR.out
              have DZ : Hid (Blk W4.drew w.heap.size 50 #[.bool false, .slice none 0 0, .slice none 0 0]) := KZ4.out
              have DB : Hid (Below w.heap.size w W4.drew) := BB4.out.drew
              have L3 : Hid (OwnT (w.heap.size + 1) W4.drew a3 n3 c3 (bitsN z.p)) := P5.out
              have L4 : Hid (OwnT (w.heap.size + 1) W4.drew b3 m3 d3 (bitsN z.q)) := P6.out
              have htt := text2_c z.s a3 b3 n3 c3 m3 d3 z.p z.q W4.drew L3.out.lst L4.out.lst (by omega) (by omega) ZB.out.1 ZB.out.2
              obtain ⟨y0, y1, y2⟩ := KR.out.cells3
              clear HW4 KR KZ4 BB4 P5 P6
              by_cases hT : tx z = s
              · rw [show tx ⟨z.s, z.p, z.q⟩ = s from hT] at htt
                have HTT := Lib.hid htt
                have HOK : Hid (okP s = true) := by show _ = _; rw [read_ok s, HV.out]; exact decide_eq_true hT
                clear htt hT
                go_region_held3 (fun w' => w'.cell? ⟨g, 0, none⟩ = some (.bool z.s) ∧ w'.cell? ⟨g, 1, none⟩ = some (.slice a3 n3 c3) ∧ w'.cell? ⟨g, 2, none⟩ = some (.slice b3 m3 d3)) (go_keep) (first
                  | (go_at_call 45; refine (HTT.out).mono ?_; rintro e v5 ⟨rfl, B5⟩; have A5 := DR.out.on B5; obtain ⟨k0, k1, k2⟩ := A5.cells3; have Z5 := DZ.out.on B5; have BB5 := DB.out.trans (B5.mono DB.out.size); have L5 := Lib.hid (L3.out.kept B5); have L6 := Lib.hid (L4.out.kept B5); obtain ⟨q0, q1, q2, q3, q4, q5⟩ := Z5.store3 (.bool z.s) (.slice a3 n3 c3); obtain ⟨i0, i1, i2⟩ := (put3_other (g := w.heap.size) A5 gne (.bool z.s) (.slice a3 n3 c3) (.slice b3 m3 d3)).cells3; unfold put3 at i0 i1 i2; clear B5))
                go_wp2_with fail
                have pbox := Z5.put3 (.bool z.s) (.slice a3 n3 c3) (.slice b3 m3 d3)
                have pbel := below_put3 BB5 (Nat.le_refl _) (.bool z.s) (.slice a3 n3 c3) (.slice b3 m3 d3)
                have p3 := (L5.out.put3 (L5.out.hi (g := w.heap.size) (Nat.lt_succ_self _)) (.bool z.s) (.slice a3 n3 c3) (.slice b3 m3 d3)).low (Nat.le_succ _)
                have p4 := (L6.out.put3 (L6.out.hi (g := w.heap.size) (Nat.lt_succ_self _)) (.bool z.s) (.slice a3 n3 c3) (.slice b3 m3 d3)).low (Nat.le_succ _)
                change bodyPost _ _ _ _ _ (put3 v5 w.heap.size (.bool z.s) (.slice a3 n3 c3) (.slice b3 m3 d3))
                obtain ⟨W, hW⟩ : ∃ W, W = put3 v5 w.heap.size (.bool z.s) (.slice a3 n3 c3) (.slice b3 m3 d3) := ⟨_, rfl⟩
                rw [← hW] at pbox pbel p3 p4 ⊢
                obtain ⟨r0, r1, r2⟩ := pbox.cells3
                refine bodyPost_ret (v := .tuple #[.agg #[.bool z.s, .slice a3 n3 c3, .slice b3 m3 d3], .bool true]) (by simp [results, Tryd.results46, go_sem, r0, r1, r2]) rfl ?_
                obtain ⟨_, _, e4, _⟩ := okP_spec HOK.out
                have e5 : valP s = z := by rw [← e4, HV.out]
                exact ⟨z.s, a3, n3, c3, b3, m3, d3, by rw [HOK.out], (fun _ => by rw [e5]; exact ⟨by rw [← e5]; rfl, p3, p4, by omega, by omega⟩), pbel⟩
              · obtain ⟨T, hTT⟩ : ∃ T, Hid (T = tx z) := ⟨_, rfl⟩
                rw [show tx ⟨z.s, z.p, z.q⟩ = T from hTT.out.symm] at htt
                have HTT := Lib.hid htt
                have HOK : Hid (okP s = false) := by show _ = _; rw [read_ok s, HV.out]; exact decide_eq_false hT
                have hTl : ¬ T.toList = s.toList := by
                  rw [ByteArray.toList_eq, ByteArray.toList_eq]
                  intro e
                  exact hT (by rw [← hTT.out]; exact bytes_ext e)
                clear htt hT
                go_region_held3 (fun w' => w'.cell? ⟨g, 0, none⟩ = some (.bool z.s) ∧ w'.cell? ⟨g, 1, none⟩ = some (.slice a3 n3 c3) ∧ w'.cell? ⟨g, 2, none⟩ = some (.slice b3 m3 d3)) (go_keep) (first
                  | (go_at_call 45; refine (HTT.out).mono ?_; rintro e v5 ⟨rfl, B5⟩; have A5 := DR.out.on B5; obtain ⟨k0, k1, k2⟩ := A5.cells3; have Z5 := DZ.out.on B5; have BB5 := DB.out.trans (B5.mono DB.out.size); have L5 := Lib.hid (L3.out.kept B5); have L6 := Lib.hid (L4.out.kept B5); obtain ⟨q0, q1, q2, q3, q4, q5⟩ := Z5.store3 (.bool z.s) (.slice a3 n3 c3); obtain ⟨i0, i1, i2⟩ := (put3_other (g := w.heap.size) A5 gne (.bool z.s) (.slice a3 n3 c3) (.slice b3 m3 d3)).cells3; unfold put3 at i0 i1 i2; clear B5))
                go_wp2_with fail
                have pbox := Z5.put3 (.bool z.s) (.slice a3 n3 c3) (.slice b3 m3 d3)
                have pbel := below_put3 BB5 (Nat.le_refl _) (.bool z.s) (.slice a3 n3 c3) (.slice b3 m3 d3)
                have p3 := (L5.out.put3 (L5.out.hi (g := w.heap.size) (Nat.lt_succ_self _)) (.bool z.s) (.slice a3 n3 c3) (.slice b3 m3 d3)).low (Nat.le_succ _)
                have p4 := (L6.out.put3 (L6.out.hi (g := w.heap.size) (Nat.lt_succ_self _)) (.bool z.s) (.slice a3 n3 c3) (.slice b3 m3 d3)).low (Nat.le_succ _)
                change bodyPost _ _ _ _ _ (put3 v5 w.heap.size (.bool z.s) (.slice a3 n3 c3) (.slice b3 m3 d3))
                obtain ⟨W, hW⟩ : ∃ W, W = put3 v5 w.heap.size (.bool z.s) (.slice a3 n3 c3) (.slice b3 m3 d3) := ⟨_, rfl⟩
                rw [← hW] at pbox pbel p3 p4 ⊢
                obtain ⟨r0, r1, r2⟩ := pbox.cells3
                refine bodyPost_ret (v := .tuple #[.agg #[.bool z.s, .slice a3 n3 c3, .slice b3 m3 d3], .bool false]) (by simp [results, Tryd.results46, go_sem, r0, r1, r2, hTl]) rfl ?_
                exact ⟨z.s, a3, n3, c3, b3, m3, d3, by rw [HOK.out], (fun h => by rw [HOK.out] at h; cases h), pbel⟩
  · have hne := toList_ne h0
    have hie : (!s.toList.isEmpty) = true := by simp [hne]
    by_cases h45 : (s[0]'h0).toNat = 45
    · obtain ⟨X, hX⟩ : ∃ X : Nat, Hid (X = (s[0]'h0).toNat) := ⟨_, rfl⟩
      have hXe : (((s[0]'h0).toNat : Nat) : Int) = (X : Int) := by rw [hX.out]
      have hX45 : ((X : Int) == 45) = true := by rw [hX.out, h45]; rfl
      obtain ⟨e1, e2⟩ := sign_yes h0 h45
      have SG := Lib.hid e1; have US := Lib.hid e2
      clear e1 e2 h45
      go_enter Tryd.func46, Tryd.ntmps46
      go_wp2_with fail
      obtain ⟨U, hU⟩ : ∃ U, Hid (U = s.extract 1 s.size) := ⟨_, rfl⟩
      rw [← hU.out]
      have hsU : U.size ≤ 40 := by rw [hU.out, ByteArray.size_extract]; omega
      go_loop [4, 5, 7] (fun s4 s5 i => s4 = .string U ∧ s5 = .string ⟨#[49]⟩ ∧ ∃ j : Nat, j ≤ U.size ∧ (∀ t, t < j → U.data.toList[t]? ≠ some 47) ∧ i = .int .i64 j) (fun _ _ i => U.size - (intOf i).toNat)
      case atStart => exact ⟨rfl, rfl, 0, Nat.zero_le _, fun t ht => absurd ht (Nat.not_lt_zero _), rfl⟩
      case round =>
        obtain ⟨rfl, rfl, j, hj, hn, rfl⟩ := hrel
        have HN := Lib.hid hn
        clear hn
        by_cases hlt : j < U.size
        · obtain ⟨Z, hZ⟩ : ∃ Z : Nat, Hid (Z = (U[j]'hlt).toNat) := ⟨_, rfl⟩
          have hZe : (((U[j]'hlt).toNat : Nat) : Int) = (Z : Int) := by rw [hZ.out]
          by_cases h47 : Z = 47
          · have hb : ((Z : Int) == 47) = true := by rw [h47]; rfl
            have hcut := cut_at hlt (UInt8.toNat_inj.mp (show (U[j]'hlt).toNat = (47 : UInt8).toNat by rw [← hZ.out, h47]; rfl)) HN.out
            have c1 : (0 : Int) ≤ (j : Int) := by omega
            have c2 : (j : Int) ≤ (U.size : Int) := by omega
            have c3 : (0 : Int) ≤ (j : Int) + 1 := by omega
            have c4 : (j : Int) + 1 ≤ (U.size : Int) := by omega
            have c5 : IntKind.i64.wrap ((j : Int) + 1) = (j : Int) + 1 := IntWalk.i64_in _ (by omega)
            have c6 : ((j : Int) + 1).toNat = j + 1 := by omega
            have HCUT := Lib.hid hcut
            clear hcut h47
            go_wp2_with fail
            go_quiet (fail)
            go_wp2_with fail
            obtain ⟨Wn, hWn⟩ : ∃ W, W = (w.alloc (.cells #[.bool false, .slice none 0 0, .slice none 0 0] 50)).drewN nq := ⟨_, rfl⟩
            have kZ : Blk Wn w.heap.size 50 #[.bool false, .slice none 0 0, .slice none 0 0] := by rw [hWn]; exact Blk.new w 50 #[.bool false, .slice none 0 0, .slice none 0 0]
            have bb : Below w.heap.size w Wn := by rw [hWn]; exact below_drewN ((Below.refl w.heap.size w).alloc (Nat.le_refl _) _) nq
            rw [← hWn]
            obtain ⟨NT, hNT⟩ : ∃ x : ByteArray, Hid (x = U.extract 0 j) := ⟨_, rfl⟩
            obtain ⟨DT, hDT⟩ : ∃ x : ByteArray, Hid (x = U.extract (j + 1) U.size) := ⟨_, rfl⟩
            rw [← hNT.out, ← hDT.out]
            clear hWn
            have HNT : Hid (numT s = NT) := by show _ = _; unfold numT; rw [US.out, ← hU.out, HCUT.out, hNT.out]
            have HDT : Hid (denT s = DT) := by show _ = _; unfold denT; rw [US.out, ← hU.out, HCUT.out, hDT.out]; rfl
            have hnt : NT.size ≤ 40 := by rw [hNT.out, ByteArray.size_extract]; omega
            have hdt : DT.size ≤ 40 := by rw [hDT.out, ByteArray.size_extract]; omega
            clear c1 c2 c3 c4 c5 c6 hb HCUT HN hNT hDT hZe hZ hlt hj
            obtain ⟨N1, hN1⟩ : ∃ z, Hid (z = numB NT) := ⟨_, rfl⟩
            obtain ⟨N2, hN2⟩ : ∃ z, Hid (z = numB DT) := ⟨_, rfl⟩
            have HR1 := Lib.hid (fun w => read_c NT w hnt)
            have HR2 := Lib.hid (fun w => read_c DT w hdt)
            have HS1 := Lib.hid hnt; have HS2 := Lib.hid hdt
            clear hnt hdt
            rw [← hN1.out] at HR1
            rw [← hN2.out] at HR2
            refine (HR1.out _).mono ?_
            rintro e w1 ⟨a1, n1, c1, rfl, o1, B1⟩
            have kZ1 := kZ.on B1
            have bb1 := bb.trans (B1.mono bb.size)
            have O1 := Lib.hid (fun h => (o1 h).lst)
            have H1 := Lib.hid o1
            clear o1 B1 kZ bb
            go_wp2_with fail
            refine (HR2.out _).mono ?_
            rintro e w2 ⟨a2, n2, c2, rfl, o2, B2⟩
            have O1' := Lib.hid (fun h => (O1.out h).below B2)
            have H2 := Lib.hid o2
            have kZ2 := kZ1.on B2
            have bb2 := bb1.trans (B2.mono bb1.size)
            obtain ⟨q0, q1, q2, q3, q4, q5⟩ := kZ2.store3 (.bool false) (.slice none 0 0)
            have KZ2 := Lib.hid kZ2; have BB2 := Lib.hid bb2
            clear kZ1 bb1 O1 o2 B2 kZ2 bb2
            cases N1 with
            | false =>
              go_wp2_with fail
              have pbox := KZ2.out.put3 (.bool false) (.slice none 0 0) (.slice none 0 0)
              have pbel := below_put3 BB2.out (Nat.le_refl _) (.bool false) (.slice none 0 0) (.slice none 0 0)
              change bodyPost _ _ _ _ _ (put3 w2 w.heap.size (.bool false) (.slice none 0 0) (.slice none 0 0))
              obtain ⟨W, hW⟩ : ∃ W, W = put3 w2 w.heap.size (.bool false) (.slice none 0 0) (.slice none 0 0) := ⟨_, rfl⟩
              rw [← hW] at pbox pbel ⊢
              obtain ⟨r0, r1, r2⟩ := pbox.cells3
              refine bodyPost_ret (v := .tuple #[.agg #[.bool false, .slice none 0 0, .slice none 0 0], .bool false]) (by simp [results, Tryd.results46, go_sem, r0, r1, r2]) rfl ?_
              have hk : okP s = false := read_no (Or.inl (by rw [HNT.out]; exact hN1.out.symm))
              exact ⟨false, none, 0, 0, none, 0, 0, by rw [hk], (fun h => by rw [hk] at h; cases h), pbel⟩
            | true =>
              cases N2 with
              | false =>
                go_wp2_with fail
                have pbox := KZ2.out.put3 (.bool false) (.slice none 0 0) (.slice none 0 0)
                have pbel := below_put3 BB2.out (Nat.le_refl _) (.bool false) (.slice none 0 0) (.slice none 0 0)
                change bodyPost _ _ _ _ _ (put3 w2 w.heap.size (.bool false) (.slice none 0 0) (.slice none 0 0))
                obtain ⟨W, hW⟩ : ∃ W, W = put3 w2 w.heap.size (.bool false) (.slice none 0 0) (.slice none 0 0) := ⟨_, rfl⟩
                rw [← hW] at pbox pbel ⊢
                obtain ⟨r0, r1, r2⟩ := pbox.cells3
                refine bodyPost_ret (v := .tuple #[.agg #[.bool false, .slice none 0 0, .slice none 0 0], .bool false]) (by simp [results, Tryd.results46, go_sem, r0, r1, r2]) rfl ?_
                have hk : okP s = false := read_no (Or.inr (Or.inl (by rw [HDT.out]; exact hN2.out.symm)))
                exact ⟨false, none, 0, 0, none, 0, 0, by rw [hk], (fun h => by rw [hk] at h; cases h), pbel⟩
              | true =>
                by_cases hd0 : numG DT 0 DT.size = 0
                · have hl : ((n2 : Int) == 0) = true := by
                    have := (H2.out rfl).len
                    rw [hd0, bitsN_zero] at this
                    rw [← this]
                    rfl
                  have HD0 := Lib.hid hd0
                  clear hd0
                  go_wp2_with fail
                  have pbox := KZ2.out.put3 (.bool false) (.slice none 0 0) (.slice none 0 0)
                  have pbel := below_put3 BB2.out (Nat.le_refl _) (.bool false) (.slice none 0 0) (.slice none 0 0)
                  change bodyPost _ _ _ _ _ (put3 w2 w.heap.size (.bool false) (.slice none 0 0) (.slice none 0 0))
                  obtain ⟨W, hW⟩ : ∃ W, W = put3 w2 w.heap.size (.bool false) (.slice none 0 0) (.slice none 0 0) := ⟨_, rfl⟩
                  rw [← hW] at pbox pbel ⊢
                  obtain ⟨r0, r1, r2⟩ := pbox.cells3
                  refine bodyPost_ret (v := .tuple #[.agg #[.bool false, .slice none 0 0, .slice none 0 0], .bool false]) (by simp [results, Tryd.results46, go_sem, r0, r1, r2]) rfl ?_
                  have hk : okP s = false := read_no (Or.inr (Or.inr (by rw [HDT.out]; exact HD0.out)))
                  exact ⟨false, none, 0, 0, none, 0, 0, by rw [hk], (fun h => by rw [hk] at h; cases h), pbel⟩
                · have hl : ((n2 : Int) == 0) = false := by
                    have := (H2.out rfl).len
                    rw [← this, bitsN_len]
                    exact decide_eq_false hd0
                  obtain ⟨P, hP⟩ : ∃ P, Hid (P = numG NT 0 NT.size) := ⟨_, rfl⟩
                  obtain ⟨Q, hQ⟩ : ∃ Q, Hid (Q = numG DT 0 DT.size) := ⟨_, rfl⟩
                  have hPb : P < 2 ^ 160 := by rw [hP.out]; exact num_small hN1.out.symm HS1.out
                  have hQb : Q < 2 ^ 160 := by rw [hQ.out]; exact num_small hN2.out.symm HS2.out
                  have x1 := O1'.out rfl
                  have x2 := (H2.out rfl).lst
                  rw [← hP.out] at x1
                  rw [← hQ.out] at x2
                  have l1 : n1 ≤ 160 := by
                    have h1 := bitsN_length P 160 hPb
                    have h2 := x1.len
                    omega
                  have l2 : n2 ≤ 160 := by
                    have h1 := bitsN_length Q 160 hQb
                    have h2 := x2.len
                    omega
                  obtain ⟨z, hz⟩ : ∃ z, Hid (nf ⟨true, P, Q⟩ = z) := ⟨_, rfl⟩
                  have zb : z.p < 2 ^ 160 ∧ z.q < 2 ^ 160 := by
                    have h1 := nf_p_le ⟨true, P, Q⟩
                    have h2 := nf_q_le ⟨true, P, Q⟩
                    rw [hz.out] at h1 h2
                    simp only at h1 h2
                    have e : 1 ≤ 2 ^ 160 := Nat.one_le_two_pow
                    have e2 : (1 : Nat) < 2 ^ 160 := by decide
                    omega
                  have hv : nf (valP s) = z := by
                    have : valP s = ⟨true, P, Q⟩ := by unfold valP; rw [SG.out, HNT.out, HDT.out, ← hP.out, ← hQ.out]
                    rw [this, hz.out]
                  have hno := norm2_c true a1 a2 n1 c1 n2 c2 P Q w2 x1 x2 (by omega) (by omega)
                  rw [hz.out] at hno
                  have HNO := Lib.hid hno; have ZB := Lib.hid zb; have HV := Lib.hid hv
                  clear hno zb hv x1 x2 hPb hQb hd0 q0 q1 q2 q3 q4 q5
                  go_wp2_with fail
                  refine HNO.out.mono ?_
                  rintro e w3 ⟨t3, a3, n3, c3, b3, m3, d3, rfl, rfl, o3, o4, B3⟩
                  have hn3 := o3.bound ZB.out.1
                  have hm3 := o4.bound ZB.out.2
                  have kZ3 := KZ2.out.on B3
                  have bb3 := BB2.out.trans (B3.mono BB2.out.size)
                  have p3 := o3.low KZ2.out.lt
                  have p4 := o4.low KZ2.out.lt
                  have bz := (Below.refl w3.heap.size w3).alloc (Nat.le_refl _) (.cells #[.bool z.s, .slice a3 n3 c3, .slice b3 m3 d3] 50)
                  have kR := Blk.new w3 50 #[.bool z.s, .slice a3 n3 c3, .slice b3 m3 d3]
                  have gne : w3.heap.size ≠ w.heap.size := by have := kZ3.lt; omega
                  have kZ4 := kZ3.on bz
                  have bb4 := bb3.trans (bz.mono bb3.size)
                  have p5 := p3.kept bz
                  have p6 := p4.kept bz
                  obtain ⟨W4, hW4⟩ : ∃ W, W = w3.alloc (.cells #[.bool z.s, .slice a3 n3 c3, .slice b3 m3 d3] 50) := ⟨_, rfl⟩
                  rw [← hW4] at kR kZ4 bb4 p5 p6
                  have HW4 := Lib.hid hW4
                  obtain ⟨g, hg⟩ : ∃ g, Hid (g = w3.heap.size) := ⟨_, rfl⟩
                  rw [← hg.out] at kR gne
                  have KR := Lib.hid kR; have KZ4 := Lib.hid kZ4; have BB4 := Lib.hid bb4; have P5 := Lib.hid p5; have P6 := Lib.hid p6
                  clear o3 o4 B3 kZ3 bb3 p3 p4 bz kR kZ4 bb4 p5 p6 hW4
                  go_wp2_with fail
                  rw [← HW4.out, ← hg.out]
                  have DR : Hid (Blk W4.drew g 50 #[.bool z.s, .slice a3 n3 c3, .slice b3 m3 d3]) := KR.out
                  have DZ : Hid (Blk W4.drew w.heap.size 50 #[.bool false, .slice none 0 0, .slice none 0 0]) := KZ4.out
                  have DB : Hid (Below w.heap.size w W4.drew) := BB4.out.drew
                  have L3 : Hid (OwnT (w.heap.size + 1) W4.drew a3 n3 c3 (bitsN z.p)) := P5.out
                  have L4 : Hid (OwnT (w.heap.size + 1) W4.drew b3 m3 d3 (bitsN z.q)) := P6.out
                  have htt := text2_c z.s a3 b3 n3 c3 m3 d3 z.p z.q W4.drew L3.out.lst L4.out.lst (by omega) (by omega) ZB.out.1 ZB.out.2
                  obtain ⟨y0, y1, y2⟩ := KR.out.cells3
                  clear HW4 KR KZ4 BB4 P5 P6
                  by_cases hT : tx z = s
                  · rw [show tx ⟨z.s, z.p, z.q⟩ = s from hT] at htt
                    have HTT := Lib.hid htt
                    have HOK : Hid (okP s = true) := by show _ = _; rw [read_ok s, HV.out]; exact decide_eq_true hT
                    clear htt hT
                    go_region_held3 (fun w' => w'.cell? ⟨g, 0, none⟩ = some (.bool z.s) ∧ w'.cell? ⟨g, 1, none⟩ = some (.slice a3 n3 c3) ∧ w'.cell? ⟨g, 2, none⟩ = some (.slice b3 m3 d3)) (go_keep) (first
                      | (go_at_call 45; refine (HTT.out).mono ?_; rintro e v5 ⟨rfl, B5⟩; have A5 := DR.out.on B5; obtain ⟨k0, k1, k2⟩ := A5.cells3; have Z5 := DZ.out.on B5; have BB5 := DB.out.trans (B5.mono DB.out.size); have L5 := Lib.hid (L3.out.kept B5); have L6 := Lib.hid (L4.out.kept B5); obtain ⟨q0, q1, q2, q3, q4, q5⟩ := Z5.store3 (.bool z.s) (.slice a3 n3 c3); obtain ⟨i0, i1, i2⟩ := (put3_other (g := w.heap.size) A5 gne (.bool z.s) (.slice a3 n3 c3) (.slice b3 m3 d3)).cells3; unfold put3 at i0 i1 i2; clear B5))
                    go_wp2_with fail
                    have pbox := Z5.put3 (.bool z.s) (.slice a3 n3 c3) (.slice b3 m3 d3)
                    have pbel := below_put3 BB5 (Nat.le_refl _) (.bool z.s) (.slice a3 n3 c3) (.slice b3 m3 d3)
                    have p3 := (L5.out.put3 (L5.out.hi (g := w.heap.size) (Nat.lt_succ_self _)) (.bool z.s) (.slice a3 n3 c3) (.slice b3 m3 d3)).low (Nat.le_succ _)
                    have p4 := (L6.out.put3 (L6.out.hi (g := w.heap.size) (Nat.lt_succ_self _)) (.bool z.s) (.slice a3 n3 c3) (.slice b3 m3 d3)).low (Nat.le_succ _)
                    change bodyPost _ _ _ _ _ (put3 v5 w.heap.size (.bool z.s) (.slice a3 n3 c3) (.slice b3 m3 d3))
                    obtain ⟨W, hW⟩ : ∃ W, W = put3 v5 w.heap.size (.bool z.s) (.slice a3 n3 c3) (.slice b3 m3 d3) := ⟨_, rfl⟩
                    rw [← hW] at pbox pbel p3 p4 ⊢
                    obtain ⟨r0, r1, r2⟩ := pbox.cells3
                    refine bodyPost_ret (v := .tuple #[.agg #[.bool z.s, .slice a3 n3 c3, .slice b3 m3 d3], .bool true]) (by simp [results, Tryd.results46, go_sem, r0, r1, r2]) rfl ?_
                    obtain ⟨_, _, e4, _⟩ := okP_spec HOK.out
                    have e5 : valP s = z := by rw [← e4, HV.out]
                    exact ⟨z.s, a3, n3, c3, b3, m3, d3, by rw [HOK.out], (fun _ => by rw [e5]; exact ⟨by rw [← e5]; rfl, p3, p4, by omega, by omega⟩), pbel⟩
                  · obtain ⟨T, hTT⟩ : ∃ T, Hid (T = tx z) := ⟨_, rfl⟩
                    rw [show tx ⟨z.s, z.p, z.q⟩ = T from hTT.out.symm] at htt
                    have HTT := Lib.hid htt
                    have HOK : Hid (okP s = false) := by show _ = _; rw [read_ok s, HV.out]; exact decide_eq_false hT
                    have hTl : ¬ T.toList = s.toList := by
                      rw [ByteArray.toList_eq, ByteArray.toList_eq]
                      intro e
                      exact hT (by rw [← hTT.out]; exact bytes_ext e)
                    clear htt hT
                    go_region_held3 (fun w' => w'.cell? ⟨g, 0, none⟩ = some (.bool z.s) ∧ w'.cell? ⟨g, 1, none⟩ = some (.slice a3 n3 c3) ∧ w'.cell? ⟨g, 2, none⟩ = some (.slice b3 m3 d3)) (go_keep) (first
                      | (go_at_call 45; refine (HTT.out).mono ?_; rintro e v5 ⟨rfl, B5⟩; have A5 := DR.out.on B5; obtain ⟨k0, k1, k2⟩ := A5.cells3; have Z5 := DZ.out.on B5; have BB5 := DB.out.trans (B5.mono DB.out.size); have L5 := Lib.hid (L3.out.kept B5); have L6 := Lib.hid (L4.out.kept B5); obtain ⟨q0, q1, q2, q3, q4, q5⟩ := Z5.store3 (.bool z.s) (.slice a3 n3 c3); obtain ⟨i0, i1, i2⟩ := (put3_other (g := w.heap.size) A5 gne (.bool z.s) (.slice a3 n3 c3) (.slice b3 m3 d3)).cells3; unfold put3 at i0 i1 i2; clear B5))
                    go_wp2_with fail
                    have pbox := Z5.put3 (.bool z.s) (.slice a3 n3 c3) (.slice b3 m3 d3)
                    have pbel := below_put3 BB5 (Nat.le_refl _) (.bool z.s) (.slice a3 n3 c3) (.slice b3 m3 d3)
                    have p3 := (L5.out.put3 (L5.out.hi (g := w.heap.size) (Nat.lt_succ_self _)) (.bool z.s) (.slice a3 n3 c3) (.slice b3 m3 d3)).low (Nat.le_succ _)
                    have p4 := (L6.out.put3 (L6.out.hi (g := w.heap.size) (Nat.lt_succ_self _)) (.bool z.s) (.slice a3 n3 c3) (.slice b3 m3 d3)).low (Nat.le_succ _)
                    change bodyPost _ _ _ _ _ (put3 v5 w.heap.size (.bool z.s) (.slice a3 n3 c3) (.slice b3 m3 d3))
                    obtain ⟨W, hW⟩ : ∃ W, W = put3 v5 w.heap.size (.bool z.s) (.slice a3 n3 c3) (.slice b3 m3 d3) := ⟨_, rfl⟩
                    rw [← hW] at pbox pbel p3 p4 ⊢
                    obtain ⟨r0, r1, r2⟩ := pbox.cells3
                    refine bodyPost_ret (v := .tuple #[.agg #[.bool z.s, .slice a3 n3 c3, .slice b3 m3 d3], .bool false]) (by simp [results, Tryd.results46, go_sem, r0, r1, r2, hTl]) rfl ?_
                    exact ⟨z.s, a3, n3, c3, b3, m3, d3, by rw [HOK.out], (fun h => by rw [HOK.out] at h; cases h), pbel⟩
          · have hb : ((Z : Int) == 47) = false := by simp; omega
            have hn2 : Hid (∀ t, t < j + 1 → U.data.toList[t]? ≠ some 47) := fun t ht => by
              by_cases e : t = j
              · rw [e, get_list hlt]
                intro h
                have := congrArg UInt8.toNat (Option.some.inj h)
                rw [← hZ.out] at this
                exact h47 this
              · exact HN.out t (by omega)
            clear h47
            go_wp2_with fail
            go_round
            case rel => exact ⟨rfl, rfl, j + 1, by omega, hn2.out, by go_num⟩
            case measure => simp [intOf]; omega
        · obtain rfl : j = U.size := by omega
          have hcut := cut_none HN.out
          have HCUT := Lib.hid hcut
          clear hcut
          go_wp2_with fail
          obtain ⟨Wn, hWn⟩ : ∃ W, W = (w.alloc (.cells #[.bool false, .slice none 0 0, .slice none 0 0] 50)) := ⟨_, rfl⟩
          have kZ : Blk Wn w.heap.size 50 #[.bool false, .slice none 0 0, .slice none 0 0] := by rw [hWn]; exact Blk.new w 50 #[.bool false, .slice none 0 0, .slice none 0 0]
          have bb : Below w.heap.size w Wn := by rw [hWn]; exact (Below.refl w.heap.size w).alloc (Nat.le_refl _) _
          rw [← hWn]
          obtain ⟨NT, hNT⟩ : ∃ x : ByteArray, Hid (x = U) := ⟨_, rfl⟩
          obtain ⟨DT, hDT⟩ : ∃ x : ByteArray, Hid (x = ⟨#[49]⟩) := ⟨_, rfl⟩
          rw [← hNT.out, ← hDT.out]
          clear hWn
          have HNT : Hid (numT s = NT) := by show _ = _; unfold numT; rw [US.out, ← hU.out, HCUT.out, hNT.out]
          have HDT : Hid (denT s = DT) := by show _ = _; unfold denT; rw [US.out, ← hU.out, HCUT.out, hDT.out]; rfl
          have hnt : NT.size ≤ 40 := by rw [hNT.out]; omega
          have hdt : DT.size ≤ 40 := by rw [hDT.out]; show (1 : Nat) ≤ 40; omega
          clear HCUT HN hNT hDT hlt hj
          obtain ⟨N1, hN1⟩ : ∃ z, Hid (z = numB NT) := ⟨_, rfl⟩
          obtain ⟨N2, hN2⟩ : ∃ z, Hid (z = numB DT) := ⟨_, rfl⟩
          have HR1 := Lib.hid (fun w => read_c NT w hnt)
          have HR2 := Lib.hid (fun w => read_c DT w hdt)
          have HS1 := Lib.hid hnt; have HS2 := Lib.hid hdt
          clear hnt hdt
          rw [← hN1.out] at HR1
          rw [← hN2.out] at HR2
          refine (HR1.out _).mono ?_
          rintro e w1 ⟨a1, n1, c1, rfl, o1, B1⟩
          have kZ1 := kZ.on B1
          have bb1 := bb.trans (B1.mono bb.size)
          have O1 := Lib.hid (fun h => (o1 h).lst)
          have H1 := Lib.hid o1
          clear o1 B1 kZ bb
          go_wp2_with fail
          refine (HR2.out _).mono ?_
          rintro e w2 ⟨a2, n2, c2, rfl, o2, B2⟩
          have O1' := Lib.hid (fun h => (O1.out h).below B2)
          have H2 := Lib.hid o2
          have kZ2 := kZ1.on B2
          have bb2 := bb1.trans (B2.mono bb1.size)
          obtain ⟨q0, q1, q2, q3, q4, q5⟩ := kZ2.store3 (.bool false) (.slice none 0 0)
          have KZ2 := Lib.hid kZ2; have BB2 := Lib.hid bb2
          clear kZ1 bb1 O1 o2 B2 kZ2 bb2
          cases N1 with
          | false =>
            go_wp2_with fail
            have pbox := KZ2.out.put3 (.bool false) (.slice none 0 0) (.slice none 0 0)
            have pbel := below_put3 BB2.out (Nat.le_refl _) (.bool false) (.slice none 0 0) (.slice none 0 0)
            change bodyPost _ _ _ _ _ (put3 w2 w.heap.size (.bool false) (.slice none 0 0) (.slice none 0 0))
            obtain ⟨W, hW⟩ : ∃ W, W = put3 w2 w.heap.size (.bool false) (.slice none 0 0) (.slice none 0 0) := ⟨_, rfl⟩
            rw [← hW] at pbox pbel ⊢
            obtain ⟨r0, r1, r2⟩ := pbox.cells3
            refine bodyPost_ret (v := .tuple #[.agg #[.bool false, .slice none 0 0, .slice none 0 0], .bool false]) (by simp [results, Tryd.results46, go_sem, r0, r1, r2]) rfl ?_
            have hk : okP s = false := read_no (Or.inl (by rw [HNT.out]; exact hN1.out.symm))
            exact ⟨false, none, 0, 0, none, 0, 0, by rw [hk], (fun h => by rw [hk] at h; cases h), pbel⟩
          | true =>
            cases N2 with
            | false =>
              go_wp2_with fail
              have pbox := KZ2.out.put3 (.bool false) (.slice none 0 0) (.slice none 0 0)
              have pbel := below_put3 BB2.out (Nat.le_refl _) (.bool false) (.slice none 0 0) (.slice none 0 0)
              change bodyPost _ _ _ _ _ (put3 w2 w.heap.size (.bool false) (.slice none 0 0) (.slice none 0 0))
              obtain ⟨W, hW⟩ : ∃ W, W = put3 w2 w.heap.size (.bool false) (.slice none 0 0) (.slice none 0 0) := ⟨_, rfl⟩
              rw [← hW] at pbox pbel ⊢
              obtain ⟨r0, r1, r2⟩ := pbox.cells3
              refine bodyPost_ret (v := .tuple #[.agg #[.bool false, .slice none 0 0, .slice none 0 0], .bool false]) (by simp [results, Tryd.results46, go_sem, r0, r1, r2]) rfl ?_
              have hk : okP s = false := read_no (Or.inr (Or.inl (by rw [HDT.out]; exact hN2.out.symm)))
              exact ⟨false, none, 0, 0, none, 0, 0, by rw [hk], (fun h => by rw [hk] at h; cases h), pbel⟩
            | true =>
              by_cases hd0 : numG DT 0 DT.size = 0
              · have hl : ((n2 : Int) == 0) = true := by
                  have := (H2.out rfl).len
                  rw [hd0, bitsN_zero] at this
                  rw [← this]
                  rfl
                have HD0 := Lib.hid hd0
                clear hd0
                go_wp2_with fail
                have pbox := KZ2.out.put3 (.bool false) (.slice none 0 0) (.slice none 0 0)
                have pbel := below_put3 BB2.out (Nat.le_refl _) (.bool false) (.slice none 0 0) (.slice none 0 0)
                change bodyPost _ _ _ _ _ (put3 w2 w.heap.size (.bool false) (.slice none 0 0) (.slice none 0 0))
                obtain ⟨W, hW⟩ : ∃ W, W = put3 w2 w.heap.size (.bool false) (.slice none 0 0) (.slice none 0 0) := ⟨_, rfl⟩
                rw [← hW] at pbox pbel ⊢
                obtain ⟨r0, r1, r2⟩ := pbox.cells3
                refine bodyPost_ret (v := .tuple #[.agg #[.bool false, .slice none 0 0, .slice none 0 0], .bool false]) (by simp [results, Tryd.results46, go_sem, r0, r1, r2]) rfl ?_
                have hk : okP s = false := read_no (Or.inr (Or.inr (by rw [HDT.out]; exact HD0.out)))
                exact ⟨false, none, 0, 0, none, 0, 0, by rw [hk], (fun h => by rw [hk] at h; cases h), pbel⟩
              · have hl : ((n2 : Int) == 0) = false := by
                  have := (H2.out rfl).len
                  rw [← this, bitsN_len]
                  exact decide_eq_false hd0
                obtain ⟨P, hP⟩ : ∃ P, Hid (P = numG NT 0 NT.size) := ⟨_, rfl⟩
                obtain ⟨Q, hQ⟩ : ∃ Q, Hid (Q = numG DT 0 DT.size) := ⟨_, rfl⟩
                have hPb : P < 2 ^ 160 := by rw [hP.out]; exact num_small hN1.out.symm HS1.out
                have hQb : Q < 2 ^ 160 := by rw [hQ.out]; exact num_small hN2.out.symm HS2.out
                have x1 := O1'.out rfl
                have x2 := (H2.out rfl).lst
                rw [← hP.out] at x1
                rw [← hQ.out] at x2
                have l1 : n1 ≤ 160 := by
                  have h1 := bitsN_length P 160 hPb
                  have h2 := x1.len
                  omega
                have l2 : n2 ≤ 160 := by
                  have h1 := bitsN_length Q 160 hQb
                  have h2 := x2.len
                  omega
                obtain ⟨z, hz⟩ : ∃ z, Hid (nf ⟨true, P, Q⟩ = z) := ⟨_, rfl⟩
                have zb : z.p < 2 ^ 160 ∧ z.q < 2 ^ 160 := by
                  have h1 := nf_p_le ⟨true, P, Q⟩
                  have h2 := nf_q_le ⟨true, P, Q⟩
                  rw [hz.out] at h1 h2
                  simp only at h1 h2
                  have e : 1 ≤ 2 ^ 160 := Nat.one_le_two_pow
                  have e2 : (1 : Nat) < 2 ^ 160 := by decide
                  omega
                have hv : nf (valP s) = z := by
                  have : valP s = ⟨true, P, Q⟩ := by unfold valP; rw [SG.out, HNT.out, HDT.out, ← hP.out, ← hQ.out]
                  rw [this, hz.out]
                have hno := norm2_c true a1 a2 n1 c1 n2 c2 P Q w2 x1 x2 (by omega) (by omega)
                rw [hz.out] at hno
                have HNO := Lib.hid hno; have ZB := Lib.hid zb; have HV := Lib.hid hv
                clear hno zb hv x1 x2 hPb hQb hd0 q0 q1 q2 q3 q4 q5
                go_wp2_with fail
                refine HNO.out.mono ?_
                rintro e w3 ⟨t3, a3, n3, c3, b3, m3, d3, rfl, rfl, o3, o4, B3⟩
                have hn3 := o3.bound ZB.out.1
                have hm3 := o4.bound ZB.out.2
                have kZ3 := KZ2.out.on B3
                have bb3 := BB2.out.trans (B3.mono BB2.out.size)
                have p3 := o3.low KZ2.out.lt
                have p4 := o4.low KZ2.out.lt
                have bz := (Below.refl w3.heap.size w3).alloc (Nat.le_refl _) (.cells #[.bool z.s, .slice a3 n3 c3, .slice b3 m3 d3] 50)
                have kR := Blk.new w3 50 #[.bool z.s, .slice a3 n3 c3, .slice b3 m3 d3]
                have gne : w3.heap.size ≠ w.heap.size := by have := kZ3.lt; omega
                have kZ4 := kZ3.on bz
                have bb4 := bb3.trans (bz.mono bb3.size)
                have p5 := p3.kept bz
                have p6 := p4.kept bz
                obtain ⟨W4, hW4⟩ : ∃ W, W = w3.alloc (.cells #[.bool z.s, .slice a3 n3 c3, .slice b3 m3 d3] 50) := ⟨_, rfl⟩
                rw [← hW4] at kR kZ4 bb4 p5 p6
                have HW4 := Lib.hid hW4
                obtain ⟨g, hg⟩ : ∃ g, Hid (g = w3.heap.size) := ⟨_, rfl⟩
                rw [← hg.out] at kR gne
                have KR := Lib.hid kR; have KZ4 := Lib.hid kZ4; have BB4 := Lib.hid bb4; have P5 := Lib.hid p5; have P6 := Lib.hid p6
                clear o3 o4 B3 kZ3 bb3 p3 p4 bz kR kZ4 bb4 p5 p6 hW4
                go_wp2_with fail
                rw [← HW4.out, ← hg.out]
                have DR : Hid (Blk W4.drew g 50 #[.bool z.s, .slice a3 n3 c3, .slice b3 m3 d3]) := KR.out
                have DZ : Hid (Blk W4.drew w.heap.size 50 #[.bool false, .slice none 0 0, .slice none 0 0]) := KZ4.out
                have DB : Hid (Below w.heap.size w W4.drew) := BB4.out.drew
                have L3 : Hid (OwnT (w.heap.size + 1) W4.drew a3 n3 c3 (bitsN z.p)) := P5.out
                have L4 : Hid (OwnT (w.heap.size + 1) W4.drew b3 m3 d3 (bitsN z.q)) := P6.out
                have htt := text2_c z.s a3 b3 n3 c3 m3 d3 z.p z.q W4.drew L3.out.lst L4.out.lst (by omega) (by omega) ZB.out.1 ZB.out.2
                obtain ⟨y0, y1, y2⟩ := KR.out.cells3
                clear HW4 KR KZ4 BB4 P5 P6
                by_cases hT : tx z = s
                · rw [show tx ⟨z.s, z.p, z.q⟩ = s from hT] at htt
                  have HTT := Lib.hid htt
                  have HOK : Hid (okP s = true) := by show _ = _; rw [read_ok s, HV.out]; exact decide_eq_true hT
                  clear htt hT
                  go_region_held3 (fun w' => w'.cell? ⟨g, 0, none⟩ = some (.bool z.s) ∧ w'.cell? ⟨g, 1, none⟩ = some (.slice a3 n3 c3) ∧ w'.cell? ⟨g, 2, none⟩ = some (.slice b3 m3 d3)) (go_keep) (first
                    | (go_at_call 45; refine (HTT.out).mono ?_; rintro e v5 ⟨rfl, B5⟩; have A5 := DR.out.on B5; obtain ⟨k0, k1, k2⟩ := A5.cells3; have Z5 := DZ.out.on B5; have BB5 := DB.out.trans (B5.mono DB.out.size); have L5 := Lib.hid (L3.out.kept B5); have L6 := Lib.hid (L4.out.kept B5); obtain ⟨q0, q1, q2, q3, q4, q5⟩ := Z5.store3 (.bool z.s) (.slice a3 n3 c3); obtain ⟨i0, i1, i2⟩ := (put3_other (g := w.heap.size) A5 gne (.bool z.s) (.slice a3 n3 c3) (.slice b3 m3 d3)).cells3; unfold put3 at i0 i1 i2; clear B5))
                  go_wp2_with fail
                  have pbox := Z5.put3 (.bool z.s) (.slice a3 n3 c3) (.slice b3 m3 d3)
                  have pbel := below_put3 BB5 (Nat.le_refl _) (.bool z.s) (.slice a3 n3 c3) (.slice b3 m3 d3)
                  have p3 := (L5.out.put3 (L5.out.hi (g := w.heap.size) (Nat.lt_succ_self _)) (.bool z.s) (.slice a3 n3 c3) (.slice b3 m3 d3)).low (Nat.le_succ _)
                  have p4 := (L6.out.put3 (L6.out.hi (g := w.heap.size) (Nat.lt_succ_self _)) (.bool z.s) (.slice a3 n3 c3) (.slice b3 m3 d3)).low (Nat.le_succ _)
                  change bodyPost _ _ _ _ _ (put3 v5 w.heap.size (.bool z.s) (.slice a3 n3 c3) (.slice b3 m3 d3))
                  obtain ⟨W, hW⟩ : ∃ W, W = put3 v5 w.heap.size (.bool z.s) (.slice a3 n3 c3) (.slice b3 m3 d3) := ⟨_, rfl⟩
                  rw [← hW] at pbox pbel p3 p4 ⊢
                  obtain ⟨r0, r1, r2⟩ := pbox.cells3
                  refine bodyPost_ret (v := .tuple #[.agg #[.bool z.s, .slice a3 n3 c3, .slice b3 m3 d3], .bool true]) (by simp [results, Tryd.results46, go_sem, r0, r1, r2]) rfl ?_
                  obtain ⟨_, _, e4, _⟩ := okP_spec HOK.out
                  have e5 : valP s = z := by rw [← e4, HV.out]
                  exact ⟨z.s, a3, n3, c3, b3, m3, d3, by rw [HOK.out], (fun _ => by rw [e5]; exact ⟨by rw [← e5]; rfl, p3, p4, by omega, by omega⟩), pbel⟩
                · obtain ⟨T, hTT⟩ : ∃ T, Hid (T = tx z) := ⟨_, rfl⟩
                  rw [show tx ⟨z.s, z.p, z.q⟩ = T from hTT.out.symm] at htt
                  have HTT := Lib.hid htt
                  have HOK : Hid (okP s = false) := by show _ = _; rw [read_ok s, HV.out]; exact decide_eq_false hT
                  have hTl : ¬ T.toList = s.toList := by
                    rw [ByteArray.toList_eq, ByteArray.toList_eq]
                    intro e
                    exact hT (by rw [← hTT.out]; exact bytes_ext e)
                  clear htt hT
                  go_region_held3 (fun w' => w'.cell? ⟨g, 0, none⟩ = some (.bool z.s) ∧ w'.cell? ⟨g, 1, none⟩ = some (.slice a3 n3 c3) ∧ w'.cell? ⟨g, 2, none⟩ = some (.slice b3 m3 d3)) (go_keep) (first
                    | (go_at_call 45; refine (HTT.out).mono ?_; rintro e v5 ⟨rfl, B5⟩; have A5 := DR.out.on B5; obtain ⟨k0, k1, k2⟩ := A5.cells3; have Z5 := DZ.out.on B5; have BB5 := DB.out.trans (B5.mono DB.out.size); have L5 := Lib.hid (L3.out.kept B5); have L6 := Lib.hid (L4.out.kept B5); obtain ⟨q0, q1, q2, q3, q4, q5⟩ := Z5.store3 (.bool z.s) (.slice a3 n3 c3); obtain ⟨i0, i1, i2⟩ := (put3_other (g := w.heap.size) A5 gne (.bool z.s) (.slice a3 n3 c3) (.slice b3 m3 d3)).cells3; unfold put3 at i0 i1 i2; clear B5))
                  go_wp2_with fail
                  have pbox := Z5.put3 (.bool z.s) (.slice a3 n3 c3) (.slice b3 m3 d3)
                  have pbel := below_put3 BB5 (Nat.le_refl _) (.bool z.s) (.slice a3 n3 c3) (.slice b3 m3 d3)
                  have p3 := (L5.out.put3 (L5.out.hi (g := w.heap.size) (Nat.lt_succ_self _)) (.bool z.s) (.slice a3 n3 c3) (.slice b3 m3 d3)).low (Nat.le_succ _)
                  have p4 := (L6.out.put3 (L6.out.hi (g := w.heap.size) (Nat.lt_succ_self _)) (.bool z.s) (.slice a3 n3 c3) (.slice b3 m3 d3)).low (Nat.le_succ _)
                  change bodyPost _ _ _ _ _ (put3 v5 w.heap.size (.bool z.s) (.slice a3 n3 c3) (.slice b3 m3 d3))
                  obtain ⟨W, hW⟩ : ∃ W, W = put3 v5 w.heap.size (.bool z.s) (.slice a3 n3 c3) (.slice b3 m3 d3) := ⟨_, rfl⟩
                  rw [← hW] at pbox pbel p3 p4 ⊢
                  obtain ⟨r0, r1, r2⟩ := pbox.cells3
                  refine bodyPost_ret (v := .tuple #[.agg #[.bool z.s, .slice a3 n3 c3, .slice b3 m3 d3], .bool false]) (by simp [results, Tryd.results46, go_sem, r0, r1, r2, hTl]) rfl ?_
                  exact ⟨z.s, a3, n3, c3, b3, m3, d3, by rw [HOK.out], (fun h => by rw [HOK.out] at h; cases h), pbel⟩
    · obtain ⟨X, hX⟩ : ∃ X : Nat, Hid (X = (s[0]'h0).toNat) := ⟨_, rfl⟩
      have hXe : (((s[0]'h0).toNat : Nat) : Int) = (X : Int) := by rw [hX.out]
      have hX45 : ((X : Int) == 45) = false := by
        have : X ≠ 45 := by rw [hX.out]; exact h45
        simp; omega
      obtain ⟨e1, e2⟩ := sign_no (s := s) (fun _ => h45)
      have SG := Lib.hid e1; have US := Lib.hid e2
      clear e1 e2 h45
      go_enter Tryd.func46, Tryd.ntmps46
      go_wp2_with fail
      go_loop [4, 5, 7] (fun s4 s5 i => s4 = .string s ∧ s5 = .string ⟨#[49]⟩ ∧ ∃ j : Nat, j ≤ s.size ∧ (∀ t, t < j → s.data.toList[t]? ≠ some 47) ∧ i = .int .i64 j) (fun _ _ i => s.size - (intOf i).toNat)
      case atStart => exact ⟨rfl, rfl, 0, Nat.zero_le _, fun t ht => absurd ht (Nat.not_lt_zero _), rfl⟩
      case round =>
        obtain ⟨rfl, rfl, j, hj, hn, rfl⟩ := hrel
        have HN := Lib.hid hn
        clear hn
        by_cases hlt : j < s.size
        · obtain ⟨Z, hZ⟩ : ∃ Z : Nat, Hid (Z = (s[j]'hlt).toNat) := ⟨_, rfl⟩
          have hZe : (((s[j]'hlt).toNat : Nat) : Int) = (Z : Int) := by rw [hZ.out]
          by_cases h47 : Z = 47
          · have hb : ((Z : Int) == 47) = true := by rw [h47]; rfl
            have hcut := cut_at hlt (UInt8.toNat_inj.mp (show (s[j]'hlt).toNat = (47 : UInt8).toNat by rw [← hZ.out, h47]; rfl)) HN.out
            have c1 : (0 : Int) ≤ (j : Int) := by omega
            have c2 : (j : Int) ≤ (s.size : Int) := by omega
            have c3 : (0 : Int) ≤ (j : Int) + 1 := by omega
            have c4 : (j : Int) + 1 ≤ (s.size : Int) := by omega
            have c5 : IntKind.i64.wrap ((j : Int) + 1) = (j : Int) + 1 := IntWalk.i64_in _ (by omega)
            have c6 : ((j : Int) + 1).toNat = j + 1 := by omega
            have HCUT := Lib.hid hcut
            clear hcut h47
            go_wp2_with fail
            go_quiet (fail)
            go_wp2_with fail
            obtain ⟨Wn, hWn⟩ : ∃ W, W = (w.alloc (.cells #[.bool false, .slice none 0 0, .slice none 0 0] 50)).drewN nq := ⟨_, rfl⟩
            have kZ : Blk Wn w.heap.size 50 #[.bool false, .slice none 0 0, .slice none 0 0] := by rw [hWn]; exact Blk.new w 50 #[.bool false, .slice none 0 0, .slice none 0 0]
            have bb : Below w.heap.size w Wn := by rw [hWn]; exact below_drewN ((Below.refl w.heap.size w).alloc (Nat.le_refl _) _) nq
            rw [← hWn]
            obtain ⟨NT, hNT⟩ : ∃ x : ByteArray, Hid (x = s.extract 0 j) := ⟨_, rfl⟩
            obtain ⟨DT, hDT⟩ : ∃ x : ByteArray, Hid (x = s.extract (j + 1) s.size) := ⟨_, rfl⟩
            rw [← hNT.out, ← hDT.out]
            clear hWn
            have HNT : Hid (numT s = NT) := by show _ = _; unfold numT; rw [US.out, HCUT.out, hNT.out]
            have HDT : Hid (denT s = DT) := by show _ = _; unfold denT; rw [US.out, HCUT.out, hDT.out]; rfl
            have hnt : NT.size ≤ 40 := by rw [hNT.out, ByteArray.size_extract]; omega
            have hdt : DT.size ≤ 40 := by rw [hDT.out, ByteArray.size_extract]; omega
            clear c1 c2 c3 c4 c5 c6 hb HCUT HN hNT hDT hZe hZ hlt hj
            obtain ⟨N1, hN1⟩ : ∃ z, Hid (z = numB NT) := ⟨_, rfl⟩
            obtain ⟨N2, hN2⟩ : ∃ z, Hid (z = numB DT) := ⟨_, rfl⟩
            have HR1 := Lib.hid (fun w => read_c NT w hnt)
            have HR2 := Lib.hid (fun w => read_c DT w hdt)
            have HS1 := Lib.hid hnt; have HS2 := Lib.hid hdt
            clear hnt hdt
            rw [← hN1.out] at HR1
            rw [← hN2.out] at HR2
            refine (HR1.out _).mono ?_
            rintro e w1 ⟨a1, n1, c1, rfl, o1, B1⟩
            have kZ1 := kZ.on B1
            have bb1 := bb.trans (B1.mono bb.size)
            have O1 := Lib.hid (fun h => (o1 h).lst)
            have H1 := Lib.hid o1
            clear o1 B1 kZ bb
            go_wp2_with fail
            refine (HR2.out _).mono ?_
            rintro e w2 ⟨a2, n2, c2, rfl, o2, B2⟩
            have O1' := Lib.hid (fun h => (O1.out h).below B2)
            have H2 := Lib.hid o2
            have kZ2 := kZ1.on B2
            have bb2 := bb1.trans (B2.mono bb1.size)
            obtain ⟨q0, q1, q2, q3, q4, q5⟩ := kZ2.store3 (.bool false) (.slice none 0 0)
            have KZ2 := Lib.hid kZ2; have BB2 := Lib.hid bb2
            clear kZ1 bb1 O1 o2 B2 kZ2 bb2
            cases N1 with
            | false =>
              go_wp2_with fail
              have pbox := KZ2.out.put3 (.bool false) (.slice none 0 0) (.slice none 0 0)
              have pbel := below_put3 BB2.out (Nat.le_refl _) (.bool false) (.slice none 0 0) (.slice none 0 0)
              change bodyPost _ _ _ _ _ (put3 w2 w.heap.size (.bool false) (.slice none 0 0) (.slice none 0 0))
              obtain ⟨W, hW⟩ : ∃ W, W = put3 w2 w.heap.size (.bool false) (.slice none 0 0) (.slice none 0 0) := ⟨_, rfl⟩
              rw [← hW] at pbox pbel ⊢
              obtain ⟨r0, r1, r2⟩ := pbox.cells3
              refine bodyPost_ret (v := .tuple #[.agg #[.bool false, .slice none 0 0, .slice none 0 0], .bool false]) (by simp [results, Tryd.results46, go_sem, r0, r1, r2]) rfl ?_
              have hk : okP s = false := read_no (Or.inl (by rw [HNT.out]; exact hN1.out.symm))
              exact ⟨false, none, 0, 0, none, 0, 0, by rw [hk], (fun h => by rw [hk] at h; cases h), pbel⟩
            | true =>
              cases N2 with
              | false =>
                go_wp2_with fail
                have pbox := KZ2.out.put3 (.bool false) (.slice none 0 0) (.slice none 0 0)
                have pbel := below_put3 BB2.out (Nat.le_refl _) (.bool false) (.slice none 0 0) (.slice none 0 0)
                change bodyPost _ _ _ _ _ (put3 w2 w.heap.size (.bool false) (.slice none 0 0) (.slice none 0 0))
                obtain ⟨W, hW⟩ : ∃ W, W = put3 w2 w.heap.size (.bool false) (.slice none 0 0) (.slice none 0 0) := ⟨_, rfl⟩
                rw [← hW] at pbox pbel ⊢
                obtain ⟨r0, r1, r2⟩ := pbox.cells3
                refine bodyPost_ret (v := .tuple #[.agg #[.bool false, .slice none 0 0, .slice none 0 0], .bool false]) (by simp [results, Tryd.results46, go_sem, r0, r1, r2]) rfl ?_
                have hk : okP s = false := read_no (Or.inr (Or.inl (by rw [HDT.out]; exact hN2.out.symm)))
                exact ⟨false, none, 0, 0, none, 0, 0, by rw [hk], (fun h => by rw [hk] at h; cases h), pbel⟩
              | true =>
                by_cases hd0 : numG DT 0 DT.size = 0
                · have hl : ((n2 : Int) == 0) = true := by
                    have := (H2.out rfl).len
                    rw [hd0, bitsN_zero] at this
                    rw [← this]
                    rfl
                  have HD0 := Lib.hid hd0
                  clear hd0
                  go_wp2_with fail
                  have pbox := KZ2.out.put3 (.bool false) (.slice none 0 0) (.slice none 0 0)
                  have pbel := below_put3 BB2.out (Nat.le_refl _) (.bool false) (.slice none 0 0) (.slice none 0 0)
                  change bodyPost _ _ _ _ _ (put3 w2 w.heap.size (.bool false) (.slice none 0 0) (.slice none 0 0))
                  obtain ⟨W, hW⟩ : ∃ W, W = put3 w2 w.heap.size (.bool false) (.slice none 0 0) (.slice none 0 0) := ⟨_, rfl⟩
                  rw [← hW] at pbox pbel ⊢
                  obtain ⟨r0, r1, r2⟩ := pbox.cells3
                  refine bodyPost_ret (v := .tuple #[.agg #[.bool false, .slice none 0 0, .slice none 0 0], .bool false]) (by simp [results, Tryd.results46, go_sem, r0, r1, r2]) rfl ?_
                  have hk : okP s = false := read_no (Or.inr (Or.inr (by rw [HDT.out]; exact HD0.out)))
                  exact ⟨false, none, 0, 0, none, 0, 0, by rw [hk], (fun h => by rw [hk] at h; cases h), pbel⟩
                · have hl : ((n2 : Int) == 0) = false := by
                    have := (H2.out rfl).len
                    rw [← this, bitsN_len]
                    exact decide_eq_false hd0
                  obtain ⟨P, hP⟩ : ∃ P, Hid (P = numG NT 0 NT.size) := ⟨_, rfl⟩
                  obtain ⟨Q, hQ⟩ : ∃ Q, Hid (Q = numG DT 0 DT.size) := ⟨_, rfl⟩
                  have hPb : P < 2 ^ 160 := by rw [hP.out]; exact num_small hN1.out.symm HS1.out
                  have hQb : Q < 2 ^ 160 := by rw [hQ.out]; exact num_small hN2.out.symm HS2.out
                  have x1 := O1'.out rfl
                  have x2 := (H2.out rfl).lst
                  rw [← hP.out] at x1
                  rw [← hQ.out] at x2
                  have l1 : n1 ≤ 160 := by
                    have h1 := bitsN_length P 160 hPb
                    have h2 := x1.len
                    omega
                  have l2 : n2 ≤ 160 := by
                    have h1 := bitsN_length Q 160 hQb
                    have h2 := x2.len
                    omega
                  obtain ⟨z, hz⟩ : ∃ z, Hid (nf ⟨false, P, Q⟩ = z) := ⟨_, rfl⟩
                  have zb : z.p < 2 ^ 160 ∧ z.q < 2 ^ 160 := by
                    have h1 := nf_p_le ⟨false, P, Q⟩
                    have h2 := nf_q_le ⟨false, P, Q⟩
                    rw [hz.out] at h1 h2
                    simp only at h1 h2
                    have e : 1 ≤ 2 ^ 160 := Nat.one_le_two_pow
                    have e2 : (1 : Nat) < 2 ^ 160 := by decide
                    omega
                  have hv : nf (valP s) = z := by
                    have : valP s = ⟨false, P, Q⟩ := by unfold valP; rw [SG.out, HNT.out, HDT.out, ← hP.out, ← hQ.out]
                    rw [this, hz.out]
                  have hno := norm2_c false a1 a2 n1 c1 n2 c2 P Q w2 x1 x2 (by omega) (by omega)
                  rw [hz.out] at hno
                  have HNO := Lib.hid hno; have ZB := Lib.hid zb; have HV := Lib.hid hv
                  clear hno zb hv x1 x2 hPb hQb hd0 q0 q1 q2 q3 q4 q5
                  go_wp2_with fail
                  refine HNO.out.mono ?_
                  rintro e w3 ⟨t3, a3, n3, c3, b3, m3, d3, rfl, rfl, o3, o4, B3⟩
                  have hn3 := o3.bound ZB.out.1
                  have hm3 := o4.bound ZB.out.2
                  have kZ3 := KZ2.out.on B3
                  have bb3 := BB2.out.trans (B3.mono BB2.out.size)
                  have p3 := o3.low KZ2.out.lt
                  have p4 := o4.low KZ2.out.lt
                  have bz := (Below.refl w3.heap.size w3).alloc (Nat.le_refl _) (.cells #[.bool z.s, .slice a3 n3 c3, .slice b3 m3 d3] 50)
                  have kR := Blk.new w3 50 #[.bool z.s, .slice a3 n3 c3, .slice b3 m3 d3]
                  have gne : w3.heap.size ≠ w.heap.size := by have := kZ3.lt; omega
                  have kZ4 := kZ3.on bz
                  have bb4 := bb3.trans (bz.mono bb3.size)
                  have p5 := p3.kept bz
                  have p6 := p4.kept bz
                  obtain ⟨W4, hW4⟩ : ∃ W, W = w3.alloc (.cells #[.bool z.s, .slice a3 n3 c3, .slice b3 m3 d3] 50) := ⟨_, rfl⟩
                  rw [← hW4] at kR kZ4 bb4 p5 p6
                  have HW4 := Lib.hid hW4
                  obtain ⟨g, hg⟩ : ∃ g, Hid (g = w3.heap.size) := ⟨_, rfl⟩
                  rw [← hg.out] at kR gne
                  have KR := Lib.hid kR; have KZ4 := Lib.hid kZ4; have BB4 := Lib.hid bb4; have P5 := Lib.hid p5; have P6 := Lib.hid p6
                  clear o3 o4 B3 kZ3 bb3 p3 p4 bz kR kZ4 bb4 p5 p6 hW4
                  go_wp2_with fail
                  rw [← HW4.out, ← hg.out]
                  have DR : Hid (Blk W4.drew g 50 #[.bool z.s, .slice a3 n3 c3, .slice b3 m3 d3]) := KR.out
                  have DZ : Hid (Blk W4.drew w.heap.size 50 #[.bool false, .slice none 0 0, .slice none 0 0]) := KZ4.out
                  have DB : Hid (Below w.heap.size w W4.drew) := BB4.out.drew
                  have L3 : Hid (OwnT (w.heap.size + 1) W4.drew a3 n3 c3 (bitsN z.p)) := P5.out
                  have L4 : Hid (OwnT (w.heap.size + 1) W4.drew b3 m3 d3 (bitsN z.q)) := P6.out
                  have htt := text2_c z.s a3 b3 n3 c3 m3 d3 z.p z.q W4.drew L3.out.lst L4.out.lst (by omega) (by omega) ZB.out.1 ZB.out.2
                  obtain ⟨y0, y1, y2⟩ := KR.out.cells3
                  clear HW4 KR KZ4 BB4 P5 P6
                  by_cases hT : tx z = s
                  · rw [show tx ⟨z.s, z.p, z.q⟩ = s from hT] at htt
                    have HTT := Lib.hid htt
                    have HOK : Hid (okP s = true) := by show _ = _; rw [read_ok s, HV.out]; exact decide_eq_true hT
                    clear htt hT
                    go_region_held3 (fun w' => w'.cell? ⟨g, 0, none⟩ = some (.bool z.s) ∧ w'.cell? ⟨g, 1, none⟩ = some (.slice a3 n3 c3) ∧ w'.cell? ⟨g, 2, none⟩ = some (.slice b3 m3 d3)) (go_keep) (first
                      | (go_at_call 45; refine (HTT.out).mono ?_; rintro e v5 ⟨rfl, B5⟩; have A5 := DR.out.on B5; obtain ⟨k0, k1, k2⟩ := A5.cells3; have Z5 := DZ.out.on B5; have BB5 := DB.out.trans (B5.mono DB.out.size); have L5 := Lib.hid (L3.out.kept B5); have L6 := Lib.hid (L4.out.kept B5); obtain ⟨q0, q1, q2, q3, q4, q5⟩ := Z5.store3 (.bool z.s) (.slice a3 n3 c3); obtain ⟨i0, i1, i2⟩ := (put3_other (g := w.heap.size) A5 gne (.bool z.s) (.slice a3 n3 c3) (.slice b3 m3 d3)).cells3; unfold put3 at i0 i1 i2; clear B5))
                    go_wp2_with fail
                    have pbox := Z5.put3 (.bool z.s) (.slice a3 n3 c3) (.slice b3 m3 d3)
                    have pbel := below_put3 BB5 (Nat.le_refl _) (.bool z.s) (.slice a3 n3 c3) (.slice b3 m3 d3)
                    have p3 := (L5.out.put3 (L5.out.hi (g := w.heap.size) (Nat.lt_succ_self _)) (.bool z.s) (.slice a3 n3 c3) (.slice b3 m3 d3)).low (Nat.le_succ _)
                    have p4 := (L6.out.put3 (L6.out.hi (g := w.heap.size) (Nat.lt_succ_self _)) (.bool z.s) (.slice a3 n3 c3) (.slice b3 m3 d3)).low (Nat.le_succ _)
                    change bodyPost _ _ _ _ _ (put3 v5 w.heap.size (.bool z.s) (.slice a3 n3 c3) (.slice b3 m3 d3))
                    obtain ⟨W, hW⟩ : ∃ W, W = put3 v5 w.heap.size (.bool z.s) (.slice a3 n3 c3) (.slice b3 m3 d3) := ⟨_, rfl⟩
                    rw [← hW] at pbox pbel p3 p4 ⊢
                    obtain ⟨r0, r1, r2⟩ := pbox.cells3
                    refine bodyPost_ret (v := .tuple #[.agg #[.bool z.s, .slice a3 n3 c3, .slice b3 m3 d3], .bool true]) (by simp [results, Tryd.results46, go_sem, r0, r1, r2]) rfl ?_
                    obtain ⟨_, _, e4, _⟩ := okP_spec HOK.out
                    have e5 : valP s = z := by rw [← e4, HV.out]
                    exact ⟨z.s, a3, n3, c3, b3, m3, d3, by rw [HOK.out], (fun _ => by rw [e5]; exact ⟨by rw [← e5]; rfl, p3, p4, by omega, by omega⟩), pbel⟩
                  · obtain ⟨T, hTT⟩ : ∃ T, Hid (T = tx z) := ⟨_, rfl⟩
                    rw [show tx ⟨z.s, z.p, z.q⟩ = T from hTT.out.symm] at htt
                    have HTT := Lib.hid htt
                    have HOK : Hid (okP s = false) := by show _ = _; rw [read_ok s, HV.out]; exact decide_eq_false hT
                    have hTl : ¬ T.toList = s.toList := by
                      rw [ByteArray.toList_eq, ByteArray.toList_eq]
                      intro e
                      exact hT (by rw [← hTT.out]; exact bytes_ext e)
                    clear htt hT
                    go_region_held3 (fun w' => w'.cell? ⟨g, 0, none⟩ = some (.bool z.s) ∧ w'.cell? ⟨g, 1, none⟩ = some (.slice a3 n3 c3) ∧ w'.cell? ⟨g, 2, none⟩ = some (.slice b3 m3 d3)) (go_keep) (first
                      | (go_at_call 45; refine (HTT.out).mono ?_; rintro e v5 ⟨rfl, B5⟩; have A5 := DR.out.on B5; obtain ⟨k0, k1, k2⟩ := A5.cells3; have Z5 := DZ.out.on B5; have BB5 := DB.out.trans (B5.mono DB.out.size); have L5 := Lib.hid (L3.out.kept B5); have L6 := Lib.hid (L4.out.kept B5); obtain ⟨q0, q1, q2, q3, q4, q5⟩ := Z5.store3 (.bool z.s) (.slice a3 n3 c3); obtain ⟨i0, i1, i2⟩ := (put3_other (g := w.heap.size) A5 gne (.bool z.s) (.slice a3 n3 c3) (.slice b3 m3 d3)).cells3; unfold put3 at i0 i1 i2; clear B5))
                    go_wp2_with fail
                    have pbox := Z5.put3 (.bool z.s) (.slice a3 n3 c3) (.slice b3 m3 d3)
                    have pbel := below_put3 BB5 (Nat.le_refl _) (.bool z.s) (.slice a3 n3 c3) (.slice b3 m3 d3)
                    have p3 := (L5.out.put3 (L5.out.hi (g := w.heap.size) (Nat.lt_succ_self _)) (.bool z.s) (.slice a3 n3 c3) (.slice b3 m3 d3)).low (Nat.le_succ _)
                    have p4 := (L6.out.put3 (L6.out.hi (g := w.heap.size) (Nat.lt_succ_self _)) (.bool z.s) (.slice a3 n3 c3) (.slice b3 m3 d3)).low (Nat.le_succ _)
                    change bodyPost _ _ _ _ _ (put3 v5 w.heap.size (.bool z.s) (.slice a3 n3 c3) (.slice b3 m3 d3))
                    obtain ⟨W, hW⟩ : ∃ W, W = put3 v5 w.heap.size (.bool z.s) (.slice a3 n3 c3) (.slice b3 m3 d3) := ⟨_, rfl⟩
                    rw [← hW] at pbox pbel p3 p4 ⊢
                    obtain ⟨r0, r1, r2⟩ := pbox.cells3
                    refine bodyPost_ret (v := .tuple #[.agg #[.bool z.s, .slice a3 n3 c3, .slice b3 m3 d3], .bool false]) (by simp [results, Tryd.results46, go_sem, r0, r1, r2, hTl]) rfl ?_
                    exact ⟨z.s, a3, n3, c3, b3, m3, d3, by rw [HOK.out], (fun h => by rw [HOK.out] at h; cases h), pbel⟩
          · have hb : ((Z : Int) == 47) = false := by simp; omega
            have hn2 : Hid (∀ t, t < j + 1 → s.data.toList[t]? ≠ some 47) := fun t ht => by
              by_cases e : t = j
              · rw [e, get_list hlt]
                intro h
                have := congrArg UInt8.toNat (Option.some.inj h)
                rw [← hZ.out] at this
                exact h47 this
              · exact HN.out t (by omega)
            clear h47
            go_wp2_with fail
            go_round
            case rel => exact ⟨rfl, rfl, j + 1, by omega, hn2.out, by go_num⟩
            case measure => simp [intOf]; omega
        · obtain rfl : j = s.size := by omega
          have hcut := cut_none HN.out
          have HCUT := Lib.hid hcut
          clear hcut
          go_wp2_with fail
          obtain ⟨Wn, hWn⟩ : ∃ W, W = (w.alloc (.cells #[.bool false, .slice none 0 0, .slice none 0 0] 50)) := ⟨_, rfl⟩
          have kZ : Blk Wn w.heap.size 50 #[.bool false, .slice none 0 0, .slice none 0 0] := by rw [hWn]; exact Blk.new w 50 #[.bool false, .slice none 0 0, .slice none 0 0]
          have bb : Below w.heap.size w Wn := by rw [hWn]; exact (Below.refl w.heap.size w).alloc (Nat.le_refl _) _
          rw [← hWn]
          obtain ⟨DT, hDT⟩ : ∃ x : ByteArray, Hid (x = ⟨#[49]⟩) := ⟨_, rfl⟩
          rw [← hDT.out]
          clear hWn
          have HNT : Hid (numT s = s) := by show _ = _; unfold numT; rw [US.out, HCUT.out]
          have HDT : Hid (denT s = DT) := by show _ = _; unfold denT; rw [US.out, HCUT.out, hDT.out]; rfl
          have hnt : s.size ≤ 40 := hs
          have hdt : DT.size ≤ 40 := by rw [hDT.out]; show (1 : Nat) ≤ 40; omega
          clear HCUT HN hDT hlt hj
          obtain ⟨N1, hN1⟩ : ∃ z, Hid (z = numB s) := ⟨_, rfl⟩
          obtain ⟨N2, hN2⟩ : ∃ z, Hid (z = numB DT) := ⟨_, rfl⟩
          have HR1 := Lib.hid (fun w => read_c s w hnt)
          have HR2 := Lib.hid (fun w => read_c DT w hdt)
          have HS1 := Lib.hid hnt; have HS2 := Lib.hid hdt
          clear hnt hdt
          rw [← hN1.out] at HR1
          rw [← hN2.out] at HR2
          refine (HR1.out _).mono ?_
          rintro e w1 ⟨a1, n1, c1, rfl, o1, B1⟩
          have kZ1 := kZ.on B1
          have bb1 := bb.trans (B1.mono bb.size)
          have O1 := Lib.hid (fun h => (o1 h).lst)
          have H1 := Lib.hid o1
          clear o1 B1 kZ bb
          go_wp2_with fail
          refine (HR2.out _).mono ?_
          rintro e w2 ⟨a2, n2, c2, rfl, o2, B2⟩
          have O1' := Lib.hid (fun h => (O1.out h).below B2)
          have H2 := Lib.hid o2
          have kZ2 := kZ1.on B2
          have bb2 := bb1.trans (B2.mono bb1.size)
          obtain ⟨q0, q1, q2, q3, q4, q5⟩ := kZ2.store3 (.bool false) (.slice none 0 0)
          have KZ2 := Lib.hid kZ2; have BB2 := Lib.hid bb2
          clear kZ1 bb1 O1 o2 B2 kZ2 bb2
          cases N1 with
          | false =>
            go_wp2_with fail
            have pbox := KZ2.out.put3 (.bool false) (.slice none 0 0) (.slice none 0 0)
            have pbel := below_put3 BB2.out (Nat.le_refl _) (.bool false) (.slice none 0 0) (.slice none 0 0)
            change bodyPost _ _ _ _ _ (put3 w2 w.heap.size (.bool false) (.slice none 0 0) (.slice none 0 0))
            obtain ⟨W, hW⟩ : ∃ W, W = put3 w2 w.heap.size (.bool false) (.slice none 0 0) (.slice none 0 0) := ⟨_, rfl⟩
            rw [← hW] at pbox pbel ⊢
            obtain ⟨r0, r1, r2⟩ := pbox.cells3
            refine bodyPost_ret (v := .tuple #[.agg #[.bool false, .slice none 0 0, .slice none 0 0], .bool false]) (by simp [results, Tryd.results46, go_sem, r0, r1, r2]) rfl ?_
            have hk : okP s = false := read_no (Or.inl (by rw [HNT.out]; exact hN1.out.symm))
            exact ⟨false, none, 0, 0, none, 0, 0, by rw [hk], (fun h => by rw [hk] at h; cases h), pbel⟩
          | true =>
            cases N2 with
            | false =>
              go_wp2_with fail
              have pbox := KZ2.out.put3 (.bool false) (.slice none 0 0) (.slice none 0 0)
              have pbel := below_put3 BB2.out (Nat.le_refl _) (.bool false) (.slice none 0 0) (.slice none 0 0)
              change bodyPost _ _ _ _ _ (put3 w2 w.heap.size (.bool false) (.slice none 0 0) (.slice none 0 0))
              obtain ⟨W, hW⟩ : ∃ W, W = put3 w2 w.heap.size (.bool false) (.slice none 0 0) (.slice none 0 0) := ⟨_, rfl⟩
              rw [← hW] at pbox pbel ⊢
              obtain ⟨r0, r1, r2⟩ := pbox.cells3
              refine bodyPost_ret (v := .tuple #[.agg #[.bool false, .slice none 0 0, .slice none 0 0], .bool false]) (by simp [results, Tryd.results46, go_sem, r0, r1, r2]) rfl ?_
              have hk : okP s = false := read_no (Or.inr (Or.inl (by rw [HDT.out]; exact hN2.out.symm)))
              exact ⟨false, none, 0, 0, none, 0, 0, by rw [hk], (fun h => by rw [hk] at h; cases h), pbel⟩
            | true =>
              by_cases hd0 : numG DT 0 DT.size = 0
              · have hl : ((n2 : Int) == 0) = true := by
                  have := (H2.out rfl).len
                  rw [hd0, bitsN_zero] at this
                  rw [← this]
                  rfl
                have HD0 := Lib.hid hd0
                clear hd0
                go_wp2_with fail
                have pbox := KZ2.out.put3 (.bool false) (.slice none 0 0) (.slice none 0 0)
                have pbel := below_put3 BB2.out (Nat.le_refl _) (.bool false) (.slice none 0 0) (.slice none 0 0)
                change bodyPost _ _ _ _ _ (put3 w2 w.heap.size (.bool false) (.slice none 0 0) (.slice none 0 0))
                obtain ⟨W, hW⟩ : ∃ W, W = put3 w2 w.heap.size (.bool false) (.slice none 0 0) (.slice none 0 0) := ⟨_, rfl⟩
                rw [← hW] at pbox pbel ⊢
                obtain ⟨r0, r1, r2⟩ := pbox.cells3
                refine bodyPost_ret (v := .tuple #[.agg #[.bool false, .slice none 0 0, .slice none 0 0], .bool false]) (by simp [results, Tryd.results46, go_sem, r0, r1, r2]) rfl ?_
                have hk : okP s = false := read_no (Or.inr (Or.inr (by rw [HDT.out]; exact HD0.out)))
                exact ⟨false, none, 0, 0, none, 0, 0, by rw [hk], (fun h => by rw [hk] at h; cases h), pbel⟩
              · have hl : ((n2 : Int) == 0) = false := by
                  have := (H2.out rfl).len
                  rw [← this, bitsN_len]
                  exact decide_eq_false hd0
                obtain ⟨P, hP⟩ : ∃ P, Hid (P = numG s 0 s.size) := ⟨_, rfl⟩
                obtain ⟨Q, hQ⟩ : ∃ Q, Hid (Q = numG DT 0 DT.size) := ⟨_, rfl⟩
                have hPb : P < 2 ^ 160 := by rw [hP.out]; exact num_small hN1.out.symm HS1.out
                have hQb : Q < 2 ^ 160 := by rw [hQ.out]; exact num_small hN2.out.symm HS2.out
                have x1 := O1'.out rfl
                have x2 := (H2.out rfl).lst
                rw [← hP.out] at x1
                rw [← hQ.out] at x2
                have l1 : n1 ≤ 160 := by
                  have h1 := bitsN_length P 160 hPb
                  have h2 := x1.len
                  omega
                have l2 : n2 ≤ 160 := by
                  have h1 := bitsN_length Q 160 hQb
                  have h2 := x2.len
                  omega
                obtain ⟨z, hz⟩ : ∃ z, Hid (nf ⟨false, P, Q⟩ = z) := ⟨_, rfl⟩
                have zb : z.p < 2 ^ 160 ∧ z.q < 2 ^ 160 := by
                  have h1 := nf_p_le ⟨false, P, Q⟩
                  have h2 := nf_q_le ⟨false, P, Q⟩
                  rw [hz.out] at h1 h2
                  simp only at h1 h2
                  have e : 1 ≤ 2 ^ 160 := Nat.one_le_two_pow
                  have e2 : (1 : Nat) < 2 ^ 160 := by decide
                  omega
                have hv : nf (valP s) = z := by
                  have : valP s = ⟨false, P, Q⟩ := by unfold valP; rw [SG.out, HNT.out, HDT.out, ← hP.out, ← hQ.out]
                  rw [this, hz.out]
                have hno := norm2_c false a1 a2 n1 c1 n2 c2 P Q w2 x1 x2 (by omega) (by omega)
                rw [hz.out] at hno
                have HNO := Lib.hid hno; have ZB := Lib.hid zb; have HV := Lib.hid hv
                clear hno zb hv x1 x2 hPb hQb hd0 q0 q1 q2 q3 q4 q5
                go_wp2_with fail
                refine HNO.out.mono ?_
                rintro e w3 ⟨t3, a3, n3, c3, b3, m3, d3, rfl, rfl, o3, o4, B3⟩
                have hn3 := o3.bound ZB.out.1
                have hm3 := o4.bound ZB.out.2
                have kZ3 := KZ2.out.on B3
                have bb3 := BB2.out.trans (B3.mono BB2.out.size)
                have p3 := o3.low KZ2.out.lt
                have p4 := o4.low KZ2.out.lt
                have bz := (Below.refl w3.heap.size w3).alloc (Nat.le_refl _) (.cells #[.bool z.s, .slice a3 n3 c3, .slice b3 m3 d3] 50)
                have kR := Blk.new w3 50 #[.bool z.s, .slice a3 n3 c3, .slice b3 m3 d3]
                have gne : w3.heap.size ≠ w.heap.size := by have := kZ3.lt; omega
                have kZ4 := kZ3.on bz
                have bb4 := bb3.trans (bz.mono bb3.size)
                have p5 := p3.kept bz
                have p6 := p4.kept bz
                obtain ⟨W4, hW4⟩ : ∃ W, W = w3.alloc (.cells #[.bool z.s, .slice a3 n3 c3, .slice b3 m3 d3] 50) := ⟨_, rfl⟩
                rw [← hW4] at kR kZ4 bb4 p5 p6
                have HW4 := Lib.hid hW4
                obtain ⟨g, hg⟩ : ∃ g, Hid (g = w3.heap.size) := ⟨_, rfl⟩
                rw [← hg.out] at kR gne
                have KR := Lib.hid kR; have KZ4 := Lib.hid kZ4; have BB4 := Lib.hid bb4; have P5 := Lib.hid p5; have P6 := Lib.hid p6
                clear o3 o4 B3 kZ3 bb3 p3 p4 bz kR kZ4 bb4 p5 p6 hW4
                go_wp2_with fail
                rw [← HW4.out, ← hg.out]
                have DR : Hid (Blk W4.drew g 50 #[.bool z.s, .slice a3 n3 c3, .slice b3 m3 d3]) := KR.out
                have DZ : Hid (Blk W4.drew w.heap.size 50 #[.bool false, .slice none 0 0, .slice none 0 0]) := KZ4.out
                have DB : Hid (Below w.heap.size w W4.drew) := BB4.out.drew
                have L3 : Hid (OwnT (w.heap.size + 1) W4.drew a3 n3 c3 (bitsN z.p)) := P5.out
                have L4 : Hid (OwnT (w.heap.size + 1) W4.drew b3 m3 d3 (bitsN z.q)) := P6.out
                have htt := text2_c z.s a3 b3 n3 c3 m3 d3 z.p z.q W4.drew L3.out.lst L4.out.lst (by omega) (by omega) ZB.out.1 ZB.out.2
                obtain ⟨y0, y1, y2⟩ := KR.out.cells3
                clear HW4 KR KZ4 BB4 P5 P6
                by_cases hT : tx z = s
                · rw [show tx ⟨z.s, z.p, z.q⟩ = s from hT] at htt
                  have HTT := Lib.hid htt
                  have HOK : Hid (okP s = true) := by show _ = _; rw [read_ok s, HV.out]; exact decide_eq_true hT
                  clear htt hT
                  go_region_held3 (fun w' => w'.cell? ⟨g, 0, none⟩ = some (.bool z.s) ∧ w'.cell? ⟨g, 1, none⟩ = some (.slice a3 n3 c3) ∧ w'.cell? ⟨g, 2, none⟩ = some (.slice b3 m3 d3)) (go_keep) (first
                    | (go_at_call 45; refine (HTT.out).mono ?_; rintro e v5 ⟨rfl, B5⟩; have A5 := DR.out.on B5; obtain ⟨k0, k1, k2⟩ := A5.cells3; have Z5 := DZ.out.on B5; have BB5 := DB.out.trans (B5.mono DB.out.size); have L5 := Lib.hid (L3.out.kept B5); have L6 := Lib.hid (L4.out.kept B5); obtain ⟨q0, q1, q2, q3, q4, q5⟩ := Z5.store3 (.bool z.s) (.slice a3 n3 c3); obtain ⟨i0, i1, i2⟩ := (put3_other (g := w.heap.size) A5 gne (.bool z.s) (.slice a3 n3 c3) (.slice b3 m3 d3)).cells3; unfold put3 at i0 i1 i2; clear B5))
                  go_wp2_with fail
                  have pbox := Z5.put3 (.bool z.s) (.slice a3 n3 c3) (.slice b3 m3 d3)
                  have pbel := below_put3 BB5 (Nat.le_refl _) (.bool z.s) (.slice a3 n3 c3) (.slice b3 m3 d3)
                  have p3 := (L5.out.put3 (L5.out.hi (g := w.heap.size) (Nat.lt_succ_self _)) (.bool z.s) (.slice a3 n3 c3) (.slice b3 m3 d3)).low (Nat.le_succ _)
                  have p4 := (L6.out.put3 (L6.out.hi (g := w.heap.size) (Nat.lt_succ_self _)) (.bool z.s) (.slice a3 n3 c3) (.slice b3 m3 d3)).low (Nat.le_succ _)
                  change bodyPost _ _ _ _ _ (put3 v5 w.heap.size (.bool z.s) (.slice a3 n3 c3) (.slice b3 m3 d3))
                  obtain ⟨W, hW⟩ : ∃ W, W = put3 v5 w.heap.size (.bool z.s) (.slice a3 n3 c3) (.slice b3 m3 d3) := ⟨_, rfl⟩
                  rw [← hW] at pbox pbel p3 p4 ⊢
                  obtain ⟨r0, r1, r2⟩ := pbox.cells3
                  refine bodyPost_ret (v := .tuple #[.agg #[.bool z.s, .slice a3 n3 c3, .slice b3 m3 d3], .bool true]) (by simp [results, Tryd.results46, go_sem, r0, r1, r2]) rfl ?_
                  obtain ⟨_, _, e4, _⟩ := okP_spec HOK.out
                  have e5 : valP s = z := by rw [← e4, HV.out]
                  exact ⟨z.s, a3, n3, c3, b3, m3, d3, by rw [HOK.out], (fun _ => by rw [e5]; exact ⟨by rw [← e5]; rfl, p3, p4, by omega, by omega⟩), pbel⟩
                · obtain ⟨T, hTT⟩ : ∃ T, Hid (T = tx z) := ⟨_, rfl⟩
                  rw [show tx ⟨z.s, z.p, z.q⟩ = T from hTT.out.symm] at htt
                  have HTT := Lib.hid htt
                  have HOK : Hid (okP s = false) := by show _ = _; rw [read_ok s, HV.out]; exact decide_eq_false hT
                  have hTl : ¬ T.toList = s.toList := by
                    rw [ByteArray.toList_eq, ByteArray.toList_eq]
                    intro e
                    exact hT (by rw [← hTT.out]; exact bytes_ext e)
                  clear htt hT
                  go_region_held3 (fun w' => w'.cell? ⟨g, 0, none⟩ = some (.bool z.s) ∧ w'.cell? ⟨g, 1, none⟩ = some (.slice a3 n3 c3) ∧ w'.cell? ⟨g, 2, none⟩ = some (.slice b3 m3 d3)) (go_keep) (first
                    | (go_at_call 45; refine (HTT.out).mono ?_; rintro e v5 ⟨rfl, B5⟩; have A5 := DR.out.on B5; obtain ⟨k0, k1, k2⟩ := A5.cells3; have Z5 := DZ.out.on B5; have BB5 := DB.out.trans (B5.mono DB.out.size); have L5 := Lib.hid (L3.out.kept B5); have L6 := Lib.hid (L4.out.kept B5); obtain ⟨q0, q1, q2, q3, q4, q5⟩ := Z5.store3 (.bool z.s) (.slice a3 n3 c3); obtain ⟨i0, i1, i2⟩ := (put3_other (g := w.heap.size) A5 gne (.bool z.s) (.slice a3 n3 c3) (.slice b3 m3 d3)).cells3; unfold put3 at i0 i1 i2; clear B5))
                  go_wp2_with fail
                  have pbox := Z5.put3 (.bool z.s) (.slice a3 n3 c3) (.slice b3 m3 d3)
                  have pbel := below_put3 BB5 (Nat.le_refl _) (.bool z.s) (.slice a3 n3 c3) (.slice b3 m3 d3)
                  have p3 := (L5.out.put3 (L5.out.hi (g := w.heap.size) (Nat.lt_succ_self _)) (.bool z.s) (.slice a3 n3 c3) (.slice b3 m3 d3)).low (Nat.le_succ _)
                  have p4 := (L6.out.put3 (L6.out.hi (g := w.heap.size) (Nat.lt_succ_self _)) (.bool z.s) (.slice a3 n3 c3) (.slice b3 m3 d3)).low (Nat.le_succ _)
                  change bodyPost _ _ _ _ _ (put3 v5 w.heap.size (.bool z.s) (.slice a3 n3 c3) (.slice b3 m3 d3))
                  obtain ⟨W, hW⟩ : ∃ W, W = put3 v5 w.heap.size (.bool z.s) (.slice a3 n3 c3) (.slice b3 m3 d3) := ⟨_, rfl⟩
                  rw [← hW] at pbox pbel p3 p4 ⊢
                  obtain ⟨r0, r1, r2⟩ := pbox.cells3
                  refine bodyPost_ret (v := .tuple #[.agg #[.bool z.s, .slice a3 n3 c3, .slice b3 m3 d3], .bool false]) (by simp [results, Tryd.results46, go_sem, r0, r1, r2, hTl]) rfl ?_
                  exact ⟨z.s, a3, n3, c3, b3, m3, d3, by rw [HOK.out], (fun h => by rw [HOK.out] at h; cases h), pbel⟩
end Go.Proofs.YtgjndondonehhaaDoor
