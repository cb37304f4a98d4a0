/-
  nat.Div.
-/
import Derived.Test.YtmojcnlddfijjaaDoorNatLong
import Derived.Test.YtmojcnlddfijjaaDoorNatWord
import Derived.Test.YtmojcnlddfijjaaDoorNatRef
namespace Go.Proofs.YtmojcnlddfijjaaDoor
open Go.RowKit NatMath

theorem Own.low {e : TypeId} {k : IntKind} {B B' : Nat} {w : World} {ao : Option Addr} {n c : Nat} {xs : List Int} (h : Own e k B w ao n c xs) (hB : B' ≤ B) : Own e k B' w ao n c xs := ⟨ownsRow_low h.1 hB, h.2⟩

theorem limbs_single {v : Nat} (h : (limbs v).length = 1) : limbs v = [(v : Int)] ∧ v ≤ 4294967295 ∧ v ≠ 0 := by
  have h0 : v ≠ 0 := by
    intro h0; subst h0; rw [limbs_zero] at h; simp at h
  have h1 := val_lt (limbs_ok v)
  rw [val_limbs, h] at h1
  refine ⟨?_, by omega, h0⟩
  rw [limbs_pos h0, show v / 4294967296 = 0 by omega, limbs_zero, show v % 4294967296 = v by omega]

/-- The divisor 0. -/
theorem div_zero_c (ao bo : Option Addr) (n c m d : Nat) (ys : List Int) (w : World) (k : Lst .u32 w bo m d ys) (h0 : val ys = 0) :
    Calls Tryd.prog 57 #[.slice ao n c, .slice bo m d] w fun e w' => e = .returned (.tuple #[.slice none 0 0, .slice none 0 0, .bool false]) ∧ w = w' := by
  have HTR := Lib.hid (trim_c bo m d ys w k)
  have H0 := Lib.hid h0
  clear h0
  go_enter Tryd.func57, Tryd.ntmps57
  go_wp2_with fail
  refine HTR.out.mono ?_
  rintro e w' ⟨rfl, b1, m1, d1, rfl, k1, -⟩
  have hz : m1 = 0 := by rw [← k1.len, H0.out, limbs_zero]; rfl
  subst hz
  clear k1 HTR
  go_wp2_with fail
  go_ret3
  exact ⟨rfl, rfl⟩

set_option maxHeartbeats 3200000 in
set_option maxRecDepth 100000 in
theorem div_c (ao bo : Option Addr) (n c m d : Nat) (xs ys : List Int) (w : World) (h : Lst .u32 w ao n c xs) (k : Lst .u32 w bo m d ys) (hn : n ≤ 1073741820) (hy : val ys ≠ 0) :
    Calls Tryd.prog 57 #[.slice ao n c, .slice bo m d] w fun e w' => ∃ ao' n' c' bo' m' d', e = .returned (.tuple #[.slice ao' n' c', .slice bo' m' d', .bool true]) ∧ Own 77 .u32 w.heap.size w' ao' n' c' (limbs (val xs / val ys)) ∧ Own 77 .u32 w.heap.size w' bo' m' d' (limbs (val xs % val ys)) ∧ Below w.heap.size w w' := by
  obtain ⟨A, hA⟩ : ∃ A, Hid (A = val xs) := ⟨_, rfl⟩
  obtain ⟨V, hV⟩ : ∃ V, Hid (V = val ys) := ⟨_, rfl⟩
  have hlx := limbs_val_length h.ok
  rw [h.len] at hlx
  have htr := trim_c bo m d ys w k
  have HN := Lib.hid (fun q => norm_c ao n c xs (w.drewN q) (h.drewN q) (by omega))
  have HTX := Lib.hid (fun q => trim_c ao n c xs (w.drewN q) (h.drewN q))
  have hcm := fun (b1 : Option Addr) (m1 d1 : Nat) (k1 : Lst .u32 w b1 m1 d1 (limbs V)) => cmp_c ao b1 n c m1 d1 xs (limbs V) w h k1
  rw [← hV.out] at htr hy ⊢
  rw [← hA.out] at HN HTX hlx hcm ⊢
  have HTR := Lib.hid htr
  have hr := h.room
  have hc := h.cap
  clear k htr
  go_enter Tryd.func57, Tryd.ntmps57
  go_wp2_with fail
  refine HTR.out.mono ?_
  rintro e w' ⟨rfl, b1, m1, d1, rfl, k1, -⟩
  have hm0 : 0 < m1 := by
    rw [← k1.len]
    rw [limbs_pos hy]; simp
  have hz : ((m1 : Int) == 0) = false := by simp; omega
  have hcm := hcm b1 m1 d1 k1
  rw [val_limbs] at hcm
  have HC := Lib.hid hcm
  clear hcm HTR h
  have HLX := Lib.hid hlx
  clear hlx
  rcases Nat.lt_or_ge A V with hlt | hge
  · have hcv : cmpI (A : Int) (V : Int) = -1 := by unfold cmpI; rw [if_pos (by omega)]
    rw [hcv] at HC
    have HQ := Lib.hid (Nat.div_eq_of_lt hlt)
    have HR := Lib.hid (Nat.mod_eq_of_lt hlt)
    clear hcv hlt
    go_wp2_with fail
    refine HC.out.mono ?_
    rintro e w' ⟨rfl, q, rfl⟩
    go_wp2_with fail
    refine (HN.out q).mono ?_
    rintro e w1 ⟨a1, n1, c1, hn1, rfl, o1, b1⟩
    go_wp2_with fail
    go_ret3
    refine ⟨none, 0, 0, a1, n1, c1, rfl, ?_, ?_, (below_drewN (Below.refl _ _) q).trans b1⟩
    · rw [HQ.out, limbs_zero]; exact ⟨World.ownsRow_nil _ _ _ _, fun _ hx => by cases hx⟩
    · rw [HR.out]; exact o1
  · have hcv : 0 ≤ cmpI (A : Int) (V : Int) := by unfold cmpI; rw [if_neg (by omega)]; split <;> omega
    obtain ⟨g, hg⟩ : ∃ g, Hid (g = cmpI (A : Int) (V : Int)) := ⟨_, rfl⟩
    rw [← hg.out] at HC hcv
    have hgd : decide (g < 0) = false := by simpa using hcv
    have HGE := Lib.hid hge
    have HY := Lib.hid hy
    have hlm := Lib.hid k1.len
    clear hge hy
    by_cases hm1 : m1 = 1
    · subst hm1
      have hs := limbs_single hlm.out
      have hv1 := hs.2.1
      rw [hs.1] at k1
      have HS := Lib.hid hs.2
      clear hs
      have hr1 := k1.room
      have hc1 := k1.cap
      have K := Lib.hid k1
      clear k1
      go_wp2_with fail
      refine HC.out.mono ?_
      rintro e w' ⟨rfl, q, rfl⟩
      go_wp2_with fail
      refine (HN.out q).mono ?_
      rintro e w1 ⟨a1, n1, c1, hn1, rfl, o1, bb1⟩
      have B1 : Below w.heap.size w w1 := (below_drewN (Below.refl _ _) q).trans bb1
      have k2 := ((K.out.drewN q).below bb1)
      have hi0 := ixs k2 (show 0 < 1 by omega) (show (0 : Int) = ((0 : Nat) : Int) by rfl)
      have hc0 : w1.cell? (pt b1 0) = some (.int .u32 (V : Int)) := k2.cell 0 (by omega)
      have o1' : Own 77 .u32 w.heap.size w1 a1 n1 c1 (limbs A) := o1
      have hw := divideByWord_c w.heap.size a1 n1 c1 (limbs A) V w1 o1' (by have := HS.out.2; omega) hv1
      rw [val_limbs] at hw
      have HW := Lib.hid hw
      have O1 := Lib.hid o1'
      clear hw o1 o1' bb1 k2 HN HC
      go_wp2_with fail
      refine HW.out.mono ?_
      rintro e w2 ⟨Z, rfl, o2, hv2, gr2⟩
      have B2 : Below w.heap.size w w2 := B1.grown gr2 B1.size (fun k hk => by
        rcases O1.out.cases with ⟨rfl, rfl, rfl, _⟩ | ⟨g', rfl, hg', _⟩
        · cases hk
        · simp only [Value.ownBlock, Option.some.injEq] at hk; omega)
      have hml : A % V ≤ 4294967295 := by
        have := Nat.mod_lt A (show 0 < V by have := HS.out.2; omega)
        omega
      obtain ⟨R, hR⟩ : ∃ R, R = A % V := ⟨_, rfl⟩
      have HRR := Lib.hid hR
      rw [← hR] at hml ⊢
      have O2 := Lib.hid o2
      have HV2 := Lib.hid hv2
      clear hR o2 hv2 HW O1 B1 hc0 hi0 gr2
      go_wp2_with fail
      refine (trim_c _ _ _ Z _ O2.out.lst).mono ?_
      rintro e w' ⟨rfl, a3, n3, c3, rfl, k3, kh3⟩
      have hlen3 := k3.len
      have hle3 := limbs_val_length O2.out.lst.ok
      rw [hlen3, O2.out.len] at hle3
      have oq : Own 77 .u32 w.heap.size w2 a3 n3 c3 (Z.take n3) := O2.out.head kh3 hle3
      rw [← hlen3, ← limbs_take O2.out.lst.ok, HV2.out] at oq
      have OQ := Lib.hid oq
      clear oq k3 kh3 hle3
      go_wp2_with fail
      refine (of_c (R : Int) _ (by omega) (by omega)).mono ?_
      rintro e w5 ⟨a5, n5, c5, _, rfl, o5, b5⟩
      go_wp2_with fail
      go_ret3
      refine ⟨a3, n3, c3, a5, n5, c5, rfl, ?_, ?_, B2.trans (b5.mono B2.size)⟩
      · rw [← hlen3, HV2.out]; exact OQ.out.kept b5
      · rw [← HRR.out]; rw [Int.toNat_natCast] at o5; exact o5.low B2.size
    · obtain ⟨t, rfl⟩ : ∃ t, m1 = t + 2 := ⟨m1 - 2, by omega⟩
      have hz1 : (((t + 2 : Nat) : Int) == 1) = false := by simp; omega
      have K := Lib.hid k1
      clear k1 hcm
      go_wp2_with fail
      refine HC.out.mono ?_
      rintro e w' ⟨rfl, q, rfl⟩
      go_wp2_with fail
      refine (HTX.out q).mono ?_
      rintro e w' ⟨rfl, a1, n1, c1, rfl, h1, -⟩
      have hl1 := h1.len
      have HL := Lib.hid (divideLong_c _ _ _ _ _ _ A V _ h1 (K.out.drewN q) (by have := HLX.out; omega) HGE.out)
      clear h1 hl1
      go_wp2_with fail
      refine HL.out.mono ?_
      rintro e w3 ⟨a3, n3, c3, b3, m3, d3, rfl, _, _, o3, o4, bb3⟩
      go_wp2_with fail
      go_ret3
      exact ⟨a3, n3, c3, b3, m3, d3, rfl, o3, o4, (below_drewN (Below.refl _ _) q).trans bb3⟩
end Go.Proofs.YtmojcnlddfijjaaDoor
