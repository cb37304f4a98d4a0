/-
  Texts of the proof, put together: SchRisk SchNms SchCv.
-/
import Derived.Deep.RegionHeld3
import Derived.Test.YtemdkkphmldgjaaGreatDoorPkA18
set_option maxRecDepth 100000
set_option maxHeartbeats 6400000
namespace Go.Proofs.YtemdkkphmldgjaaGreatDoor
open Go.RowKit Lx
namespace Lx
open Q.RatMath in
theorem cmp_lt (x y : R) : Q.RatMath.cmp x y < 0 ↔ num (dv x) * ((dv y).q : Int) < num (dv y) * ((dv x).q : Int) := by
 have h1 := cmp_le (x := x) (y := y)
 have h2 := cmp_zero (x := x) (y := y)
 constructor
 . intro h
   have a := h1.1 (by omega)
   have b : ¬ num (dv x) * ((dv y).q : Int) = num (dv y) * ((dv x).q : Int) := fun e => by have := h2.2 e; omega
   omega
 . intro h
   have a := h1.2 (by omega)
   have b : ¬ Q.RatMath.cmp x y = 0 := fun e => by have := h2.1 e; omega
   omega
open Q.RatMath in
theorem cmp_gt (x y : R) : 0 < Q.RatMath.cmp x y ↔ num (dv y) * ((dv x).q : Int) < num (dv x) * ((dv y).q : Int) := by
 have h1 := cmp_le (x := x) (y := y)
 constructor
 . intro h
   have a : ¬ num (dv x) * ((dv y).q : Int) <= num (dv y) * ((dv x).q : Int) := fun e => by have := h1.2 e; omega
   omega
 . intro h
   have a : ¬ Q.RatMath.cmp x y <= 0 := fun e => by have := h1.1 e; omega
   omega
open Q.RatMath in
theorem risk_mul (A D : Nat) (hD : D ≠ 0) : ((nf ⟨false, A, D⟩).p : Int) * (D : Int) = (A : Int) * ((nf ⟨false, A, D⟩).q : Int) /\ num (nf ⟨false, A, D⟩) = ((nf ⟨false, A, D⟩).p : Int) := by
 have h := nf_val (x := ⟨false, A, D⟩) hD
 have hs : (nf ⟨false, A, D⟩).s = false := by
  unfold nf
  split <;> rfl
 have e : num (nf ⟨false, A, D⟩) = ((nf ⟨false, A, D⟩).p : Int) := by unfold num; rw [hs]; rfl
 rw [e] at h
 exact ⟨h, e⟩
open Q.RatMath in
theorem risk_lt (A D P M : Nat) (hD : D ≠ 0) (hQ : M ≠ 0) : Q.RatMath.cmp (nf ⟨false, A, D⟩) ⟨false, P, M⟩ < 0 ↔ A * M < P * D := by
 obtain ⟨h1, h2⟩ := risk_mul A D hD
 have hq : (nf ⟨false, A, D⟩).q ≠ 0 := nf_q _
 rw [cmp_lt, dv_nf, dv_of (x := ⟨false, P, M⟩) hQ, h2]
 show ((nf ⟨false, A, D⟩).p : Int) * (M : Int) < (P : Int) * ((nf ⟨false, A, D⟩).q : Int) ↔ _
 generalize (nf ⟨false, A, D⟩).p = p at h1
 generalize (nf ⟨false, A, D⟩).q = q at h1 hq
 have h1' : p * D = A * q := by exact_mod_cast h1
 have k : ((p : Int) * (M : Int) < (P : Int) * (q : Int)) ↔ p * M < P * q := by
  constructor
  . intro h; exact_mod_cast h
  . intro h; exact_mod_cast h
 rw [k]
 constructor
 . intro h
   have a : p * M * D < P * q * D := Nat.mul_lt_mul_of_pos_right h (by omega)
   have b : p * M * D = A * M * q := by rw [Nat.mul_right_comm, h1', Nat.mul_right_comm]
   have d : P * q * D = P * D * q := Nat.mul_right_comm ..
   rw [b, d] at a
   exact Nat.lt_of_mul_lt_mul_right a
 . intro h
   have a : A * M * q < P * D * q := Nat.mul_lt_mul_of_pos_right h (by omega)
   have b : p * M * D = A * M * q := by rw [Nat.mul_right_comm, h1', Nat.mul_right_comm]
   have d : P * q * D = P * D * q := Nat.mul_right_comm ..
   rw [<- b, <- d] at a
   exact Nat.lt_of_mul_lt_mul_right a
open Q.RatMath in
theorem risk_gt (A D P M : Nat) (hD : D ≠ 0) (hQ : M ≠ 0) : 0 < Q.RatMath.cmp (nf ⟨false, A, D⟩) ⟨false, P, M⟩ ↔ P * D < A * M := by
 obtain ⟨h1, h2⟩ := risk_mul A D hD
 have hq : (nf ⟨false, A, D⟩).q ≠ 0 := nf_q _
 rw [cmp_gt, dv_nf, dv_of (x := ⟨false, P, M⟩) hQ, h2]
 show (P : Int) * ((nf ⟨false, A, D⟩).q : Int) < ((nf ⟨false, A, D⟩).p : Int) * (M : Int) ↔ _
 generalize (nf ⟨false, A, D⟩).p = p at h1
 generalize (nf ⟨false, A, D⟩).q = q at h1 hq
 have h1' : p * D = A * q := by exact_mod_cast h1
 have k : ((P : Int) * (q : Int) < (p : Int) * (M : Int)) ↔ P * q < p * M := by
  constructor
  . intro h; exact_mod_cast h
  . intro h; exact_mod_cast h
 rw [k]
 have b : p * M * D = A * M * q := by rw [Nat.mul_right_comm, h1', Nat.mul_right_comm]
 have d : P * q * D = P * D * q := Nat.mul_right_comm ..
 constructor
 . intro h
   have a : P * q * D < p * M * D := Nat.mul_lt_mul_of_pos_right h (by omega)
   rw [b, d] at a
   exact Nat.lt_of_mul_lt_mul_right a
 . intro h
   have a : P * D * q < A * M * q := Nat.mul_lt_mul_of_pos_right h (by omega)
   rw [<- b, <- d] at a
   exact Nat.lt_of_mul_lt_mul_right a
theorem cut_frac {v : List UInt8} (h : slashB v = true) : cutS (stg v) = (stg (fracA v), stg (fracD v), true) := by
 have h0 : 0 <= Lib.indexByte v 47 := of_decide_eq_true ((idx_slash v).trans h)
 obtain ⟨k, hk⟩ : ∃ k : Nat, Lib.indexByte v 47 = k := ⟨(Lib.indexByte v 47).toNat, by omega⟩
 obtain ⟨h1, h2⟩ := Lib.indexByte_some hk
 obtain ⟨hkl, hke⟩ := List.getElem?_eq_some_iff.1 h1
 have ht : ∀ (l : List UInt8) (k : Nat) (hkl : k < l.length), l[k] = 47 -> (∀ i, i < k -> l[i]? ≠ some 47) -> (l.takeWhile fun c => !decide (c.toNat = 47)) = l.take k /\ (l.dropWhile fun c => !decide (c.toNat = 47)) = l.drop k := by
  intro l
  induction l with
  | nil => intro k hk; simp at hk
  | cons c r ih =>
   intro k hk he hz
   cases k with
   | zero =>
    have : c = 47 := by simpa using he
    subst this
    simp
   | succ k =>
    have hc : c ≠ 47 := fun e => hz 0 (by omega) (by simp [e])
    have hc' : c.toNat ≠ 47 := fun e => hc (UInt8.toNat_inj.1 e)
    obtain ⟨a, b⟩ := ih k (by simpa using hk) (by simpa using he) (fun i hi e => hz (i + 1) (by omega) (by simpa using e))
    rw [List.takeWhile_cons, List.dropWhile_cons, if_pos (by simp [hc']), if_pos (by simp [hc']), a, b]
    exact ⟨rfl, rfl⟩
 obtain ⟨a, b⟩ := ht v k hkl hke h2
 unfold cutS fracA fracD
 rw [bys_stg, if_pos h0, hk, Int.toNat_natCast, a, b]
 have e1 : (stg v).extract 0 k = stg (v.take k) := bys_inj (by rw [bys_pre, bys_stg, bys_stg])
 have e2 : (stg v).extract (k + 1) (stg v).size = stg ((v.drop k).drop 1) := bys_inj (by rw [bys_sub, bys_stg, bys_stg, List.drop_drop])
 rw [e1, e2]
end Lx
def RatO (w : World) (s : Bool) (a : Option Addr) (n c : Nat) (b : Option Addr) (m d : Nat) (z : Q.RatMath.R) : Prop := s = z.s /\ Q.Lst .u32 w a n c (Q.NatMath.limbs z.p) /\ Q.Lst .u32 w b m d (Q.NatMath.limbs z.q) /\ n <= 3 /\ m <= 3
theorem RatO.below {w w' : World} {s : Bool} {a b : Option Addr} {n c m d : Nat} {z : Q.RatMath.R} (h : RatO w s a n c b m d z) (hb : Below w.heap.size w w') : RatO w' s a n c b m d z := ⟨h.1, h.2.1.below hb, h.2.2.1.below hb, h.2.2.2⟩
def RatW (B : Nat) (w : World) (s : Bool) (a : Option Addr) (n c : Nat) (b : Option Addr) (m d : Nat) (z : Q.RatMath.R) : Prop := s = z.s /\ Q.Own 144 .u32 B w a n c (Q.NatMath.limbs z.p) /\ Q.Own 144 .u32 B w b m d (Q.NatMath.limbs z.q) /\ n <= 3 /\ m <= 3
theorem RatW.low {B : Nat} {w : World} {s : Bool} {a b : Option Addr} {n c m d : Nat} {z : Q.RatMath.R} (h : RatW B w s a n c b m d z) : RatO w s a n c b m d z := ⟨h.1, h.2.1.lst, h.2.2.1.lst, h.2.2.2⟩
theorem RatW.put {B g : Nat} {w : World} {s : Bool} {a b : Option Addr} {n c m d : Nat} {z : Q.RatMath.R} (h : RatW B w s a n c b m d z) (hg : g < B) (u0 u1 u2 : Value) : RatW B (put3 w g u0 u1 u2) s a n c b m d z :=
 ⟨h.1, Q.Own.put3 h.2.1 (Q.Own.hi h.2.1 hg) u0 u1 u2, Q.Own.put3 h.2.2.1 (Q.Own.hi h.2.2.1 hg) u0 u1 u2, h.2.2.2⟩
theorem frac_sc (x y : Nat) (w : World) (hx : x <= 9223372036854775807) (hy : y <= 9223372036854775807) :
    Calls Tryz.prog 122 #[.int .i64 (x : Int), .int .i64 (y : Int)] w fun e w' => ∃ s a n c b m d, e = .returned (.agg #[.bool s, .slice a n c, .slice b m d]) /\ RatW w.heap.size w' s a n c b m d (Q.RatMath.nf ⟨false, x, y⟩) /\ Below w.heap.size w w' := by
 have h := Q.frac_c (x : Int) (y : Int) w (by omega) (by omega) (by omega) (by omega)
 have e : (decide ((x : Int) < 0) != decide ((y : Int) < 0)) = false := by
  rw [decide_eq_false (by omega), decide_eq_false (by omega)]
  rfl
 rw [e, Int.natAbs_natCast, Int.natAbs_natCast] at h
 refine h.mono fun e w' ⟨s, a, n, c, b, m, d, h1, h2, h3, h4, h5, h6, h7⟩ => ⟨s, a, n, c, b, m, d, h1, ⟨h2, h3, h4, by omega, h6⟩, h7⟩
theorem cmp_sc (s1 s2 : Bool) (a1 b1 a2 b2 : Option Addr) (n1 c1 m1 d1 n2 c2 m2 d2 : Nat) (z1 z2 : Q.RatMath.R) (w : World) (h1 : RatO w s1 a1 n1 c1 b1 m1 d1 z1) (h2 : RatO w s2 a2 n2 c2 b2 m2 d2 z2) :
    Calls Tryz.prog 54 #[.agg #[.bool s1, .slice a1 n1 c1, .slice b1 m1 d1], .agg #[.bool s2, .slice a2 n2 c2, .slice b2 m2 d2]] w fun e w' => e = .returned (.int .i64 (Q.RatMath.cmp z1 z2)) /\ Below w.heap.size w w' := by
 obtain ⟨rfl, x1, y1, k1, k2⟩ := h1
 obtain ⟨rfl, x2, y2, k3, k4⟩ := h2
 have h := Q.rcmp_c z1.s z2.s a1 b1 a2 b2 n1 c1 m1 d1 n2 c2 m2 d2 3 _ _ _ _ w x1 y1 x2 y2 k1 k2 k3 k4 (by omega)
 rwa [Q.NatMath.val_limbs, Q.NatMath.val_limbs, Q.NatMath.val_limbs, Q.NatMath.val_limbs] at h
namespace Lx
def fracR (v : List UInt8) : Q.RatMath.R := Q.RatMath.nf ⟨false, numV (fracA v), numV (fracD v)⟩
end Lx
theorem toRatio_w (v : List UInt8) (w : World) (hv : fracB v = true) (hl : v.length <= 1000000) (hT : Tabs w) :
    Calls Tryz.prog 68 #[.string (stg v)] w fun e w' => ∃ s a n c b m d, e = .returned (.agg #[.bool s, .slice a n c, .slice b m d]) /\ (∃ B, w.heap.size <= B /\ RatW B w' s a n c b m d (fracR v)) /\ Below w.heap.size w w' := by
 obtain ⟨V, e1, AV, BV, hz⟩ := new_box w 32 [.bool false, .slice none 0 0, .slice none 0 0]
 obtain ⟨hA, hD⟩ := frac_parts hv
 have hs : slashB v = true := by unfold fracB at hv; rw [Bool.and_eq_true] at hv; exact hv.2
 have HC := cut_c (stg v) V (by rw [<- bys_len, bys_stg]; exact hl)
 rw [cut_frac hs] at HC
 have HI1 := fun w1 hb => scInt_c (fracA v) w1 (Or.inr hA) ((hT.below BV).below hb)
 have HI2 := fun w1 hb => scInt_c (fracD v) w1 (Or.inr hD) ((hT.below BV).below hb)
 have hlA := num_lt hA
 have hlD := num_lt hD
 have HF := fun w1 => frac_sc (numV (fracA v)) (numV (fracD v)) w1 (by omega) (by omega)
 replace HF : ∀ w1, Calls Tryz.prog 122 #[.int .i64 ((numV (fracA v) : Nat) : Int), .int .i64 ((numV (fracD v) : Nat) : Int)] w1 fun e w' => ∃ s a n c b m d, e = .returned (.agg #[.bool s, .slice a n c, .slice b m d]) /\ RatW w1.heap.size w' s a n c b m d (fracR v) /\ Below w1.heap.size w1 w' := HF
 obtain ⟨Z, hZ⟩ : ∃ K, Hid (fracR v = K) := ⟨_, rfl⟩
 rw [hZ.out] at HF |-
 obtain ⟨NA, hNA⟩ : ∃ K, Hid (numV (fracA v) = K) := ⟨_, rfl⟩
 obtain ⟨ND, hND⟩ : ∃ K, Hid (numV (fracD v) = K) := ⟨_, rfl⟩
 obtain ⟨KA, hKA⟩ : ∃ K, Hid (stg (fracA v) = K) := ⟨_, rfl⟩
 obtain ⟨KD, hKD⟩ : ∃ K, Hid (stg (fracD v) = K) := ⟨_, rfl⟩
 obtain ⟨K, hK⟩ : ∃ K, Hid (stg v = K) := ⟨_, rfl⟩
 rw [hNA.out, hND.out] at HF
 rw [hNA.out, hKA.out] at HI1
 rw [hND.out, hKD.out] at HI2
 rw [hK.out, hKA.out, hKD.out] at HC
 rw [hK.out]
 have A0 := Lib.hid AV
 have HB := Lib.hid BV
 have hle : Hid (w.heap.size <= w.heap.size) := Nat.le_refl _
 replace HC := Lib.hid HC
 replace HI1 := Lib.hid HI1
 replace HI2 := Lib.hid HI2
 replace HF := Lib.hid HF
 clear AV BV hz hA hD hs hlA hlD hv hl hT
 go_enter Tryz.func68, Tryz.ntmps68
 go_wp2_with fail
 refine HC.out.mono ?_
 rintro e w1 ⟨rfl, q, hq⟩
 have B1 : Hid (Below V.heap.size V w1) := by show Below _ _ _; rw [<- hq]; exact below_drewN (Below.refl _ _) _
 clear HC hq
 have HJ := Lib.hid (HI1.out w1 B1.out)
 go_wp2_with fail
 refine HJ.out.mono ?_
 rintro e w2 ⟨rfl, B2⟩
 replace B2 : Hid (Below V.heap.size V w2) := B1.out.trans (B2.mono B1.out.size)
 clear HJ HI1
 have HJ := Lib.hid (HI2.out w2 B2.out)
 go_wp2_with fail
 refine HJ.out.mono ?_
 rintro e w3 ⟨rfl, B3⟩
 replace B3 : Hid (Below V.heap.size V w3) := B2.out.trans (B3.mono B2.out.size)
 clear HJ HI2
 have HJ := Lib.hid (HF.out w3)
 go_wp2_with fail
 refine HJ.out.mono ?_
 rintro e w4 ⟨s, a, n, c, b, m, d, rfl, RO, B4⟩
 replace B4 : Hid (Below V.heap.size V w4) := B3.out.trans (B4.mono B3.out.size)
 have hgt : w.heap.size < w3.heap.size := Nat.lt_of_lt_of_le A0.out.lt B3.out.size
 have RY := RO.put hgt (.bool s) (.slice a n c) (.slice b m d)
 clear HJ HF
 obtain ⟨Y, e5, hY, AY, g0, g1, g2, g3, g4, g5⟩ := put_box3 (A0.out.kept B4.out) (.bool s) (.slice a n c) (.slice b m d)
 have r0 : Y.cell? ⟨w.heap.size, 0, none⟩ = some (.bool s) := AY.cell 0
 have r1 : Y.cell? ⟨w.heap.size, 1, none⟩ = some (.slice a n c) := AY.cell 1
 have r2 : Y.cell? ⟨w.heap.size, 2, none⟩ = some (.slice b m d) := AY.cell 2
 have BY : Hid (Below w.heap.size w Y) := by
  show Below _ _ _
  rw [hY.out]
  exact (((HB.out.trans (B4.out.mono HB.out.size)).setCell (p := ⟨_, 0, none⟩) hle.out _).setCell (p := ⟨_, 1, none⟩) hle.out _).setCell (p := ⟨_, 2, none⟩) hle.out _
 have HR : Hid (RatW w3.heap.size Y s a n c b m d Z) := by
  show RatW _ _ _ _ _ _ _ _ _ _
  rw [hY.out]
  exact RY
 have hB3 : Hid (w.heap.size <= w3.heap.size) := Nat.le_of_lt hgt
 clear AY hY RY RO hgt
 go_wp2_with fail
 refine bodyPost_ret (v := .agg #[.bool s, .slice a n c, .slice b m d]) (by simp [results, Tryz.results68, go_sem, r0, r1, r2]) rfl ?_
 exact ⟨s, a, n, c, b, m, d, rfl, ⟨_, hB3.out, HR.out⟩, BY.out⟩
theorem toRatio_c (v : List UInt8) (w : World) (hv : fracB v = true) (hl : v.length <= 1000000) (hT : Tabs w) :
    Calls Tryz.prog 68 #[.string (stg v)] w fun e w' => ∃ s a n c b m d, e = .returned (.agg #[.bool s, .slice a n c, .slice b m d]) /\ RatO w' s a n c b m d (fracR v) /\ Below w.heap.size w w' :=
 (toRatio_w v w hv hl hT).mono fun _ _ ⟨s, a, n, c, b, m, d, h1, ⟨_, _, h2⟩, h3⟩ => ⟨s, a, n, c, b, m, d, h1, h2.low, h3⟩
namespace Lx
theorem riskE_of {v : List UInt8} (hv : fracB v = true) : riskE v = if decide (Q.RatMath.cmp (fracR v) ⟨false, 1, 1000⟩ < 0) || decide (Q.RatMath.cmp (fracR v) ⟨false, 1, 2⟩ > 0) then 4 else 0 := by
 unfold riskE
 rw [hv]
 simp only [Bool.not_true, Bool.false_eq_true, if_false]
 by_cases hD : numV (fracD v) = 0
 . have h0 : fracR v = Q.RatMath.zero := Q.RatMath.nf_zero (Or.inr hD)
   have h1 : Q.RatMath.cmp Q.RatMath.zero ⟨false, 1, 1000⟩ < 0 := by decide
   rw [h0, decide_eq_true h1, decide_eq_true hD]
   rfl
 . have h1 := risk_lt (numV (fracA v)) (numV (fracD v)) 1 1000 hD (by decide)
   have h2 := risk_gt (numV (fracA v)) (numV (fracD v)) 1 2 hD (by decide)
   have e1 : decide (Q.RatMath.cmp (fracR v) ⟨false, 1, 1000⟩ < 0) = decide (1000 * numV (fracA v) < numV (fracD v)) := by
    rw [Bool.eq_iff_iff, decide_eq_true_eq, decide_eq_true_eq]
    exact h1.trans (by omega)
   have e2 : decide (Q.RatMath.cmp (fracR v) ⟨false, 1, 2⟩ > 0) = decide (numV (fracD v) < 2 * numV (fracA v)) := by
    rw [Bool.eq_iff_iff, decide_eq_true_eq, decide_eq_true_eq]
    exact h2.trans (by omega)
   rw [e1, e2, decide_eq_false hD, Bool.false_or]
end Lx
theorem frac_k (k : Nat) (hk : Q.RatMath.nf ⟨false, 1, k⟩ = ⟨false, 1, k⟩) (hk2 : k <= 1000) (w : World) :
    Calls Tryz.prog 122 #[.int .i64 1, .int .i64 (k : Int)] w fun e w' => ∃ s a n c b m d, e = .returned (.agg #[.bool s, .slice a n c, .slice b m d]) /\ RatO w' s a n c b m d ⟨false, 1, k⟩ /\ Below w.heap.size w w' := by
 have h := frac_sc 1 k w (by omega) (by omega)
 rw [hk] at h
 exact h.mono fun e w' ⟨s, a, n, c, b, m, d, h1, h2, h3⟩ => ⟨s, a, n, c, b, m, d, h1, h2.low, h3⟩
theorem frac_1000 (w : World) : Calls Tryz.prog 122 #[.int .i64 1, .int .i64 1000] w fun e w' => ∃ s a n c b m d, e = .returned (.agg #[.bool s, .slice a n c, .slice b m d]) /\ RatO w' s a n c b m d ⟨false, 1, 1000⟩ /\ Below w.heap.size w w' := frac_k 1000 (by decide) (by decide) w
theorem frac_2 (w : World) : Calls Tryz.prog 122 #[.int .i64 1, .int .i64 2] w fun e w' => ∃ s a n c b m d, e = .returned (.agg #[.bool s, .slice a n c, .slice b m d]) /\ RatO w' s a n c b m d ⟨false, 1, 2⟩ /\ Below w.heap.size w w' := frac_k 2 (by decide) (by decide) w
theorem CmpC {s1 s2 : Bool} {a1 b1 a2 b2 : Option Addr} {n1 c1 m1 d1 n2 c2 m2 d2 : Nat} {z1 z2 : Q.RatMath.R} {C : Int} {w : World} (hC : Hid (Q.RatMath.cmp z1 z2 = C)) (h1 : RatO w s1 a1 n1 c1 b1 m1 d1 z1) (h2 : RatO w s2 a2 n2 c2 b2 m2 d2 z2) :
    Calls Tryz.prog 54 #[.agg #[.bool s1, .slice a1 n1 c1, .slice b1 m1 d1], .agg #[.bool s2, .slice a2 n2 c2, .slice b2 m2 d2]] w fun e w' => e = .returned (.int .i64 C) /\ Below w.heap.size w w' := by
 have h := cmp_sc s1 s2 a1 b1 a2 b2 n1 c1 m1 d1 n2 c2 m2 d2 z1 z2 w h1 h2
 rwa [hC.out] at h
theorem checkRisk_c (v : List UInt8) (w : World) (hl : v.length <= 1000000) (hT : Tabs w) :
    Calls Tryz.prog 219 #[.string (stg v)] w fun e w' => e = .returned (.int .i64 ((riskE v : Nat) : Int)) /\ Below w.heap.size w w' := by
 have HB := scFraction_c v w hl
 cases hv : fracB v with
 | false =>
  rw [hv] at HB
  have h5 : riskE v = 5 := by unfold riskE; rw [hv]; rfl
  rw [h5]
  replace HB := Lib.hid HB
  obtain ⟨K, hK⟩ : ∃ K, Hid (stg v = K) := ⟨_, rfl⟩
  rw [hK.out] at HB |-
  clear hv hl hT h5
  go_enter Tryz.func219, Tryz.ntmps219
  go_wp2_with fail
  refine HB.out.mono ?_
  rintro e w1 ⟨rfl, B1⟩
  replace B1 := Lib.hid B1
  clear HB
  go_wp2_with fail
  go_ret
  exact ⟨rfl, B1.out⟩
 | true =>
  rw [hv] at HB
  have hE := riskE_of hv
  have HR := fun w1 hb => toRatio_c v w1 hv hl (hT.below hb)
  obtain ⟨Z, hZ⟩ : ∃ K, Hid (fracR v = K) := ⟨_, rfl⟩
  rw [hZ.out] at HR hE
  obtain ⟨C1, hC1⟩ : ∃ K, Hid (Q.RatMath.cmp Z ⟨false, 1, 1000⟩ = K) := ⟨_, rfl⟩
  obtain ⟨C2, hC2⟩ : ∃ K, Hid (Q.RatMath.cmp Z ⟨false, 1, 2⟩ = K) := ⟨_, rfl⟩
  rw [hC1.out, hC2.out] at hE
  obtain ⟨E, hEE⟩ : ∃ K, Hid (riskE v = K) := ⟨_, rfl⟩
  rw [hEE.out] at hE |-
  replace hE := Lib.hid hE
  obtain ⟨K, hK⟩ : ∃ K, Hid (stg v = K) := ⟨_, rfl⟩
  rw [hK.out] at HB HR |-
  replace HB := Lib.hid HB
  replace HR := Lib.hid HR
  clear hv hl hT
  go_enter Tryz.func219, Tryz.ntmps219
  go_wp2_with fail
  refine HB.out.mono ?_
  rintro e w1 ⟨rfl, B1⟩
  have HJ := Lib.hid (HR.out w1 B1)
  replace B1 := Lib.hid B1
  clear HB HR
  go_wp2_with fail
  refine HJ.out.mono ?_
  rintro e w2 ⟨s, a, n, c, b, m, d, rfl, RO, B2⟩
  obtain ⟨V, U, e3, e4, AU, BU, hzU, f0, f1, f2, f3, f4, f5⟩ := new_put3 w2 32 (.bool false) (.slice none 0 0) (.slice none 0 0) (.bool s) (.slice a n c) (.slice b m d)
  have RU := Lib.hid (RO.below BU)
  replace B2 : Hid (Below w.heap.size w U) := (B1.out.trans (B2.mono B1.out.size)).trans (BU.mono (B1.out.trans (B2.mono B1.out.size)).size)
  obtain ⟨g, hg⟩ : ∃ g, w2.heap.size = g := ⟨_, rfl⟩
  rw [hg] at AU e4 f0 f1 f2 f3 f4 f5
  clear HJ RO BU hzU
  have y0 : U.cell? ⟨g, 0, none⟩ = some (.bool s) := AU.cell 0
  have y1 : U.cell? ⟨g, 1, none⟩ = some (.slice a n c) := AU.cell 1
  have y2 : U.cell? ⟨g, 2, none⟩ = some (.slice b m d) := AU.cell 2
  have AD : Hid (Arr U.drew g 32 [.bool s, .slice a n c, .slice b m d]) := AU.drew
  have BD : Hid (Below w.heap.size w U.drew) := B2.out.drew
  have RU : Hid (RatO U.drew s a n c b m d Z) := RU.out.below (Below.refl _ _).drew
  clear AU
  by_cases h1 : C1 < 0
  . have b1 : decide (C1 < 0) = true := decide_eq_true h1
    have hE4 : Hid (E = 4) := by show _ = _; rw [hE.out, b1]; rfl
    go_wp2_with fail
    clear e3 e4 f0 f1 f2 f3 f4 f5
    go_region_with (first
    | (go_at_call 122; (with_reducible refine (frac_1000 _).mono ?_); rintro e w5 ⟨s5, a5, n5, c5, b5, m5, d5, rfl, R5, B5⟩; have A5 := Lib.hid (AD.out.kept B5); have RU5 := Lib.hid (RU.out.below B5); have z0 : w5.cell? ⟨g, 0, none⟩ = some (.bool s) := A5.out.cell 0; have z1 : w5.cell? ⟨g, 1, none⟩ = some (.slice a n c) := A5.out.cell 1; have z2 : w5.cell? ⟨g, 2, none⟩ = some (.slice b m d) := A5.out.cell 2; have R5 := Lib.hid R5; have B5 := Lib.hid (BD.out.trans (B5.mono BD.out.size)))
    | (go_at_call 54; (with_reducible refine (CmpC hC1 RU5.out R5.out).mono ?_); rintro e w6 ⟨rfl, B6⟩; have A6 := Lib.hid (A5.out.kept B6); have RU6 := Lib.hid (RU5.out.below B6); have k0 : w6.cell? ⟨g, 0, none⟩ = some (.bool s) := A6.out.cell 0; have k1 : w6.cell? ⟨g, 1, none⟩ = some (.slice a n c) := A6.out.cell 1; have k2 : w6.cell? ⟨g, 2, none⟩ = some (.slice b m d) := A6.out.cell 2; have B6 := Lib.hid (B5.out.trans (B6.mono B5.out.size))))
    all_goals
      go_wp2_with fail
      go_ret
      exact ⟨by rw [hE4.out]; rfl, B6.out⟩
  . have b1 : decide (C1 < 0) = false := decide_eq_false h1
    by_cases h2 : C2 > 0
    . have b2 : decide (C2 > 0) = true := decide_eq_true h2
      have hE4 : Hid (E = 4) := by show _ = _; rw [hE.out, b1, b2]; rfl
      go_wp2_with fail
      clear e3 e4 f0 f1 f2 f3 f4 f5
      go_region_with (first
    | (go_at_call 122; (with_reducible refine (frac_1000 _).mono ?_); rintro e w5 ⟨s5, a5, n5, c5, b5, m5, d5, rfl, R5, B5⟩; have A5 := Lib.hid (AD.out.kept B5); have RU5 := Lib.hid (RU.out.below B5); have z0 : w5.cell? ⟨g, 0, none⟩ = some (.bool s) := A5.out.cell 0; have z1 : w5.cell? ⟨g, 1, none⟩ = some (.slice a n c) := A5.out.cell 1; have z2 : w5.cell? ⟨g, 2, none⟩ = some (.slice b m d) := A5.out.cell 2; have R5 := Lib.hid R5; have B5 := Lib.hid (BD.out.trans (B5.mono BD.out.size)))
    | (go_at_call 54; (with_reducible refine (CmpC hC1 RU5.out R5.out).mono ?_); rintro e w6 ⟨rfl, B6⟩; have A6 := Lib.hid (A5.out.kept B6); have RU6 := Lib.hid (RU5.out.below B6); have k0 : w6.cell? ⟨g, 0, none⟩ = some (.bool s) := A6.out.cell 0; have k1 : w6.cell? ⟨g, 1, none⟩ = some (.slice a n c) := A6.out.cell 1; have k2 : w6.cell? ⟨g, 2, none⟩ = some (.slice b m d) := A6.out.cell 2; have B6 := Lib.hid (B5.out.trans (B6.mono B5.out.size)))
    | (go_at_call 122; (with_reducible refine (frac_2 _).mono ?_); rintro e w7 ⟨s7, a7, n7, c7, b7, m7, d7, rfl, R7, B7⟩; have A7 := Lib.hid (A6.out.kept B7); have RU7 := Lib.hid (RU6.out.below B7); have x0 : w7.cell? ⟨g, 0, none⟩ = some (.bool s) := A7.out.cell 0; have x1 : w7.cell? ⟨g, 1, none⟩ = some (.slice a n c) := A7.out.cell 1; have x2 : w7.cell? ⟨g, 2, none⟩ = some (.slice b m d) := A7.out.cell 2; have R7 := Lib.hid R7; have B7 := Lib.hid (B6.out.trans (B7.mono B6.out.size)))
    | (go_at_call 54; (with_reducible refine (CmpC hC2 RU7.out R7.out).mono ?_); rintro e w8 ⟨rfl, B8⟩; have A8 := Lib.hid (A7.out.kept B8); have q0 : w8.cell? ⟨g, 0, none⟩ = some (.bool s) := A8.out.cell 0; have q1 : w8.cell? ⟨g, 1, none⟩ = some (.slice a n c) := A8.out.cell 1; have q2 : w8.cell? ⟨g, 2, none⟩ = some (.slice b m d) := A8.out.cell 2; have B8 := Lib.hid (B7.out.trans (B8.mono B7.out.size))))
      all_goals
        go_wp2_with fail
        go_ret
        exact ⟨by rw [hE4.out]; rfl, B8.out⟩
    . have b2 : decide (C2 > 0) = false := decide_eq_false h2
      have hE4 : Hid (E = 0) := by show _ = _; rw [hE.out, b1, b2]; rfl
      go_wp2_with fail
      clear e3 e4 f0 f1 f2 f3 f4 f5
      go_region_with (first
    | (go_at_call 122; (with_reducible refine (frac_1000 _).mono ?_); rintro e w5 ⟨s5, a5, n5, c5, b5, m5, d5, rfl, R5, B5⟩; have A5 := Lib.hid (AD.out.kept B5); have RU5 := Lib.hid (RU.out.below B5); have z0 : w5.cell? ⟨g, 0, none⟩ = some (.bool s) := A5.out.cell 0; have z1 : w5.cell? ⟨g, 1, none⟩ = some (.slice a n c) := A5.out.cell 1; have z2 : w5.cell? ⟨g, 2, none⟩ = some (.slice b m d) := A5.out.cell 2; have R5 := Lib.hid R5; have B5 := Lib.hid (BD.out.trans (B5.mono BD.out.size)))
    | (go_at_call 54; (with_reducible refine (CmpC hC1 RU5.out R5.out).mono ?_); rintro e w6 ⟨rfl, B6⟩; have A6 := Lib.hid (A5.out.kept B6); have RU6 := Lib.hid (RU5.out.below B6); have k0 : w6.cell? ⟨g, 0, none⟩ = some (.bool s) := A6.out.cell 0; have k1 : w6.cell? ⟨g, 1, none⟩ = some (.slice a n c) := A6.out.cell 1; have k2 : w6.cell? ⟨g, 2, none⟩ = some (.slice b m d) := A6.out.cell 2; have B6 := Lib.hid (B5.out.trans (B6.mono B5.out.size)))
    | (go_at_call 122; (with_reducible refine (frac_2 _).mono ?_); rintro e w7 ⟨s7, a7, n7, c7, b7, m7, d7, rfl, R7, B7⟩; have A7 := Lib.hid (A6.out.kept B7); have RU7 := Lib.hid (RU6.out.below B7); have x0 : w7.cell? ⟨g, 0, none⟩ = some (.bool s) := A7.out.cell 0; have x1 : w7.cell? ⟨g, 1, none⟩ = some (.slice a n c) := A7.out.cell 1; have x2 : w7.cell? ⟨g, 2, none⟩ = some (.slice b m d) := A7.out.cell 2; have R7 := Lib.hid R7; have B7 := Lib.hid (B6.out.trans (B7.mono B6.out.size)))
    | (go_at_call 54; (with_reducible refine (CmpC hC2 RU7.out R7.out).mono ?_); rintro e w8 ⟨rfl, B8⟩; have A8 := Lib.hid (A7.out.kept B8); have q0 : w8.cell? ⟨g, 0, none⟩ = some (.bool s) := A8.out.cell 0; have q1 : w8.cell? ⟨g, 1, none⟩ = some (.slice a n c) := A8.out.cell 1; have q2 : w8.cell? ⟨g, 2, none⟩ = some (.slice b m d) := A8.out.cell 2; have B8 := Lib.hid (B7.out.trans (B8.mono B7.out.size))))
      all_goals
        go_wp2_with fail
        go_ret
        exact ⟨by rw [hE4.out]; rfl, B8.out⟩
end Go.Proofs.YtemdkkphmldgjaaGreatDoor
namespace Go.Proofs.YtemdkkphmldgjaaGreatDoor
open Go.RowKit Lx
namespace Lx
theorem drop_get {α : Type} {l : List α} {i : Nat} {a : α} (h : l[i]? = some a) : l.drop i = a :: l.drop (i + 1) := by
 obtain ⟨hl, he⟩ := List.getElem?_eq_some_iff.1 h
 rw [List.drop_eq_getElem_cons hl, he]
theorem names_step {most j : Nat} {vs : List (List UInt8)} {v : List UInt8} (h : vs[j]? = some v) :
    namesGo most (vs.take j) (vs.drop j) = if most <= j then 7 else if !nameB v then 8 else if (vs.take j).contains v then 3 else namesGo most (vs.take (j + 1)) (vs.drop (j + 1)) := by
 have hl := (List.getElem?_eq_some_iff.1 h).1
 have e : (vs.take j).length = j := by rw [List.length_take]; omega
 rw [drop_get h, namesGo, e, take_snoc h]
theorem names_end {most j : Nat} {vs : List (List UInt8)} (h : vs.length <= j) : namesGo most (vs.take j) (vs.drop j) = 0 := by
 rw [List.drop_eq_nil_of_le h]
 rfl
end Lx
theorem checkNames_c (r : FRule) (vs : List (List UInt8)) (ao : Option Addr) (n c : Nat) (w : World) (h : StrL anyF w ao n c vs) :
    Calls Tryz.prog 171 #[.agg #[.string (stg r.kind), .string (stg r.key), .int .i64 r.form, .int .i64 r.least, .int .i64 r.most], .slice ao n c] w fun e w' => e = .returned (.int .i64 ((namesE r vs : Nat) : Int)) /\ Below w.heap.size w w' := by
 obtain ⟨V, e1, AV, BV, hz⟩ := new_box w 212 [.string (stg r.kind), .string (stg r.key), .int .i64 r.form, .int .i64 r.least, .int .i64 r.most]
 have hcap := Row.cap h
 have hroom := Row.room h
 have hlen := Lib.hid (StrL.len h)
 obtain ⟨E, hE⟩ : ∃ E, Hid (namesE r vs = E) := ⟨_, rfl⟩
 rw [hE.out]
 obtain ⟨M1, hM1⟩ : ∃ M, Hid (((r.least : Nat) : Int) = M) := ⟨_, rfl⟩
 obtain ⟨M2, hM2⟩ : ∃ M, Hid (((r.most : Nat) : Int) = M) := ⟨_, rfl⟩
 rw [hM1.out, hM2.out] at e1 AV
 rw [hM1.out, hM2.out]
 have A0 := Lib.hid AV
 have HB : Hid (Below w.heap.size w V) := BV
 have H := Lib.hid (StrL.below h BV)
 have y3 : V.cell? ⟨w.heap.size, 3, none⟩ = some (.int .i64 M1) := AV.cell 3
 clear h AV BV hz
 by_cases h1 : n < r.least
 . have b1 : decide ((n : Int) < M1) = true := decide_eq_true (by rw [<- hM1.out]; omega)
   have hE7 : Hid (E = 7) := by show _ = _; rw [<- hE.out]; unfold namesE; rw [hlen.out, if_pos h1]
   clear h1
   go_enter Tryz.func171, Tryz.ntmps171
   go_wp2_with fail
   go_ret
   exact ⟨by rw [hE7.out]; rfl, HB.out⟩
 . have b1 : decide ((n : Int) < M1) = false := decide_eq_false (by rw [<- hM1.out]; omega)
   have hE7 : Hid (E = namesGo r.most (vs.take 0) (vs.drop 0)) := by show _ = _; rw [<- hE.out]; unfold namesE; rw [hlen.out, if_neg h1]; rfl
   clear h1
   go_enter Tryz.func171, Tryz.ntmps171
   go_wp2_with fail
   clear y3 e1
   go_loopw [5, 6, 14] (fun _ _ i wr => ∃ j : Nat, j <= n /\ i = .int .i64 (j : Int) /\ Below V.heap.size V wr /\ Hid (E = namesGo r.most (vs.take j) (vs.drop j))) (fun _ _ i _ => n - (intOf i).toNat)
   case atStart => exact ⟨0, Nat.zero_le _, rfl, Below.refl _ _, hE7.out⟩
   case round =>
    obtain ⟨w1, hw1⟩ : ∃ x, x = wr := ⟨_, rfl⟩
    subst hw1
    clear hE7
    obtain ⟨j, hj, rfl, B, HE⟩ := hrel
    have y4 : w1.cell? ⟨w.heap.size, 4, none⟩ = some (.int .i64 M2) := (A0.out.kept B).cell 4
    by_cases hlt : j < n
    . have hlt' : (j : Int) < (n : Int) := by omega
      obtain ⟨v, a, hv, i1, c1⟩ := (StrL.below H.out B).get j hlt
      have hs := HE.out
      rw [names_step hv] at hs
      have HN := scName_c v w1
      have HC := fun w2 (hb : Below w1.heap.size w1 w2) => sContains_c (vs.take j) v ao j c w2 (StrL.take (StrL.below (StrL.below H.out B) hb) (by omega))
      obtain ⟨K, hK⟩ : ∃ K, Hid (stg v = K) := ⟨_, rfl⟩
      rw [hK.out] at c1 HN HC
      replace HN := Lib.hid HN
      replace HC := Lib.hid HC
      have HBB : Hid (Below w.heap.size w w1) := HB.out.trans (B.mono HB.out.size)
      by_cases h2 : r.most <= j
      . have b2 : decide (M2 <= (j : Int)) = true := decide_eq_true (by rw [<- hM2.out]; omega)
        rw [if_pos h2] at hs
        replace hs := Lib.hid hs
        clear h2 B
        go_wp2_with fail
        go_ret
        exact ⟨by rw [hs.out]; rfl, HBB.out⟩
      . have b2 : decide (M2 <= (j : Int)) = false := decide_eq_false (by rw [<- hM2.out]; omega)
        rw [if_neg h2] at hs
        cases hnb : nameB v with
        | false =>
         rw [hnb] at hs HN
         replace hs : Hid (E = 8) := hs
         clear h2 B hnb
         go_wp2_with fail
         refine HN.out.mono ?_
         rintro e w2 ⟨rfl, B2⟩
         replace B2 : Hid (Below w.heap.size w w2) := HBB.out.trans (B2.mono HBB.out.size)
         clear HN
         go_wp2_with fail
         go_ret
         exact ⟨by rw [hs.out]; rfl, B2.out⟩
        | true =>
         rw [hnb] at hs HN
         replace hs : E = if (vs.take j).contains v then 3 else namesGo r.most (vs.take (j + 1)) (vs.drop (j + 1)) := hs
         obtain ⟨z, hz⟩ : ∃ z, (vs.take j).contains v = z := ⟨_, rfl⟩
         rw [hz] at hs HC
         clear h2 hnb hz
         have B := Lib.hid B
         cases z with
         | true =>
          replace hs : Hid (E = 3) := hs
          go_wp2_with fail
          refine HN.out.mono ?_
          rintro e w2 ⟨rfl, B2⟩
          have HJ := Lib.hid (HC.out w2 B2)
          replace B2 : Hid (Below w.heap.size w w2) := HBB.out.trans (B2.mono HBB.out.size)
          clear HN HC
          go_wp2_with fail
          refine HJ.out.mono ?_
          rintro e w3 ⟨rfl, rfl⟩
          clear HJ
          go_wp2_with fail
          go_ret
          exact ⟨by rw [hs.out]; rfl, B2.out⟩
         | false =>
          replace hs : Hid (E = namesGo r.most (vs.take (j + 1)) (vs.drop (j + 1))) := hs
          go_wp2_with fail
          refine HN.out.mono ?_
          rintro e w2 ⟨rfl, B2⟩
          have HJ := Lib.hid (HC.out w2 B2)
          replace B2 : Hid (Below V.heap.size V w2) := B.out.trans (B2.mono B.out.size)
          clear HN HC
          go_wp2_with fail
          refine HJ.out.mono ?_
          rintro e w3 ⟨rfl, rfl⟩
          clear HJ
          go_wp2_with fail
          go_roundw
          case rel => exact ⟨j + 1, by omega, by go_num, B2.out, hs.out⟩
          case measure => simp [intOf]; omega
    . have hlt' : ¬ (j : Int) < (n : Int) := by omega
      have hs : Hid (E = 0) := by show _ = _; rw [HE.out]; exact names_end (by rw [hlen.out]; omega)
      have HBB : Hid (Below w.heap.size w w1) := HB.out.trans (B.mono HB.out.size)
      clear B
      go_wp2_with fail
      go_ret
      exact ⟨by rw [hs.out]; rfl, HBB.out⟩
end Go.Proofs.YtemdkkphmldgjaaGreatDoor
namespace Go.Proofs.YtemdkkphmldgjaaGreatDoor
open Go.RowKit Lx
namespace Lx
def shortV (r : FRule) (v : List UInt8) : Prop := (r.form = 0 \/ r.form = 3) -> v.length <= 1000000
def shortFld (kind : List UInt8) (f : SFld) : Prop := ∀ r, fldRule kind f.key = some r -> ∀ v ∈ f.vals, shortV r v
end Lx
theorem int_nat_eq (a b : Nat) (c : Int) (h : c = (b : Int)) : ((a : Int) == c) = decide (a = b) := by
 subst h
 by_cases e : a = b
 . subst e; simp
 . rw [decide_eq_false e]
   simp
   omega
theorem checkValue_c (r : FRule) (v : List UInt8) (w : World) (hs : shortV r v) (hT : Tabs w) :
    Calls Tryz.prog 172 #[.agg #[.string (stg r.kind), .string (stg r.key), .int .i64 r.form, .int .i64 r.least, .int .i64 r.most], .string (stg v)] w fun e w' => e = .returned (.int .i64 ((valueE r v : Nat) : Int)) /\ Below w.heap.size w w' := by
 obtain ⟨V, e1, AV, BV, hz⟩ := new_box w 212 [.string (stg r.kind), .string (stg r.key), .int .i64 r.form, .int .i64 r.least, .int .i64 r.most]
 have HN := fun h => checkNumber_c r v V h (hT.below BV)
 have HR := fun h => checkRisk_c v V h (hT.below BV)
 have HX := scText_c v 24 V (by omega)
 have HC := codeOf_c r.key v V
 have q0 := int_nat_eq r.form 0 0 rfl
 have q1 := int_nat_eq r.form 1 1 rfl
 have q3 := int_nat_eq r.form 3 3 rfl
 have q4 := int_nat_eq r.form 4 4 rfl
 have hV : valueE r v = if r.form = 0 then numE r v else if r.form = 1 then (if codeOf r.key v = 0 then 2 else 0) else if r.form = 3 then riskE v else if r.form = 4 then (if !textB v 24 then 8 else 0) else 0 := rfl
 obtain ⟨E, hE⟩ : ∃ E, Hid (valueE r v = E) := ⟨_, rfl⟩
 rw [hE.out] at hV |-
 unfold shortV at hs
 obtain ⟨F, hF⟩ : ∃ F, r.form = F := ⟨_, rfl⟩
 obtain ⟨K, hK⟩ : ∃ K, Hid (stg v = K) := ⟨_, rfl⟩
 obtain ⟨X1, hX1⟩ : ∃ K, Hid (stg r.kind = K) := ⟨_, rfl⟩
 obtain ⟨X2, hX2⟩ : ∃ K, Hid (stg r.key = K) := ⟨_, rfl⟩
 obtain ⟨M1, hM1⟩ : ∃ M, Hid (((r.least : Nat) : Int) = M) := ⟨_, rfl⟩
 obtain ⟨M2, hM2⟩ : ∃ M, Hid (((r.most : Nat) : Int) = M) := ⟨_, rfl⟩
 rw [hF] at hs q0 q1 q3 q4 hV
 rw [hF, hX1.out, hX2.out, hM1.out, hM2.out] at e1 AV HN
 rw [hF, hX1.out, hX2.out, hM1.out, hM2.out, hK.out]
 rw [hK.out] at HN HR HX HC
 rw [hX2.out] at HC
 have y0 : V.cell? ⟨w.heap.size, 0, none⟩ = some (.string X1) := AV.cell 0
 have y1 : V.cell? ⟨w.heap.size, 1, none⟩ = some (.string X2) := AV.cell 1
 have y2 : V.cell? ⟨w.heap.size, 2, none⟩ = some (.int .i64 (F : Int)) := AV.cell 2
 have y3 : V.cell? ⟨w.heap.size, 3, none⟩ = some (.int .i64 M1) := AV.cell 3
 have y4 : V.cell? ⟨w.heap.size, 4, none⟩ = some (.int .i64 M2) := AV.cell 4
 have HB := Lib.hid BV
 clear hT AV BV hz hF
 by_cases h0 : F = 0
 . rw [decide_eq_true h0] at q0
   rw [if_pos h0] at hV
   have HN := HN (hs (Or.inl h0))
   rw [<- hV] at HN
   replace HN := Lib.hid HN
   clear h0 hs hV HR HX HC q1 q3 q4
   go_enter Tryz.func172, Tryz.ntmps172
   go_wp2_with fail
   refine HN.out.mono ?_
   rintro e w1 ⟨rfl, B1⟩
   replace B1 : Hid (Below w.heap.size w w1) := HB.out.trans (B1.mono HB.out.size)
   clear HN
   go_wp2_with fail
   go_ret
   exact ⟨rfl, B1.out⟩
 rw [decide_eq_false h0] at q0
 rw [if_neg h0] at hV
 by_cases h1 : F = 1
 . rw [decide_eq_true h1] at q1
   rw [if_pos h1] at hV
   obtain ⟨C, hC⟩ : ∃ C, codeOf r.key v = C := ⟨_, rfl⟩
   rw [hC] at hV HC
   have qc := int_nat_eq C 0 0 rfl
   replace HC := Lib.hid HC
   clear h0 h1 hs HR HX HN q3 q4 hC
   by_cases hc : C = 0
   . rw [if_pos hc] at hV
     rw [decide_eq_true hc] at qc
     replace hV := Lib.hid hV
     clear hc
     go_enter Tryz.func172, Tryz.ntmps172
     go_wp2_with fail
     refine HC.out.mono ?_
     rintro e w1 ⟨rfl, B1⟩
     replace B1 : Hid (Below w.heap.size w w1) := HB.out.trans (B1.mono HB.out.size)
     clear HC
     go_wp2_with fail
     go_ret
     exact ⟨by rw [hV.out]; rfl, B1.out⟩
   . rw [if_neg hc] at hV
     rw [decide_eq_false hc] at qc
     replace hV := Lib.hid hV
     clear hc
     go_enter Tryz.func172, Tryz.ntmps172
     go_wp2_with fail
     refine HC.out.mono ?_
     rintro e w1 ⟨rfl, B1⟩
     replace B1 : Hid (Below w.heap.size w w1) := HB.out.trans (B1.mono HB.out.size)
     clear HC
     go_wp2_with fail
     go_ret
     exact ⟨by rw [hV.out]; rfl, B1.out⟩
 rw [decide_eq_false h1] at q1
 rw [if_neg h1] at hV
 by_cases h3 : F = 3
 . rw [decide_eq_true h3] at q3
   rw [if_pos h3] at hV
   have HR := HR (hs (Or.inr h3))
   rw [<- hV] at HR
   replace HR := Lib.hid HR
   clear h0 h1 h3 hs hV HN HX HC q4
   go_enter Tryz.func172, Tryz.ntmps172
   go_wp2_with fail
   refine HR.out.mono ?_
   rintro e w1 ⟨rfl, B1⟩
   replace B1 : Hid (Below w.heap.size w w1) := HB.out.trans (B1.mono HB.out.size)
   clear HR
   go_wp2_with fail
   go_ret
   exact ⟨rfl, B1.out⟩
 rw [decide_eq_false h3] at q3
 rw [if_neg h3] at hV
 by_cases h4 : F = 4
 . rw [decide_eq_true h4] at q4
   rw [if_pos h4] at hV
   obtain ⟨z, hz⟩ : ∃ z, textB v 24 = z := ⟨_, rfl⟩
   rw [hz] at hV HX
   replace HX : Hid (Calls Tryz.prog 59 #[.string K, .int .i64 24] V fun e w' => e = .returned (.bool z) /\ Below V.heap.size V w') := HX
   clear h0 h1 h3 h4 hs HN HR HC hz
   cases z with
   | true =>
    replace hV : Hid (E = 0) := hV
    go_enter Tryz.func172, Tryz.ntmps172
    go_wp2_with fail
    refine HX.out.mono ?_
    rintro e w1 ⟨rfl, B1⟩
    replace B1 : Hid (Below w.heap.size w w1) := HB.out.trans (B1.mono HB.out.size)
    clear HX
    go_wp2_with fail
    go_ret
    exact ⟨by rw [hV.out]; rfl, B1.out⟩
   | false =>
    replace hV : Hid (E = 8) := hV
    go_enter Tryz.func172, Tryz.ntmps172
    go_wp2_with fail
    refine HX.out.mono ?_
    rintro e w1 ⟨rfl, B1⟩
    replace B1 : Hid (Below w.heap.size w w1) := HB.out.trans (B1.mono HB.out.size)
    clear HX
    go_wp2_with fail
    go_ret
    exact ⟨by rw [hV.out]; rfl, B1.out⟩
 rw [decide_eq_false h4] at q4
 rw [if_neg h4] at hV
 replace hV := Lib.hid hV
 clear h0 h1 h3 h4 hs HN HR HC HX
 go_enter Tryz.func172, Tryz.ntmps172
 go_wp2_with fail
 go_ret
 exact ⟨by rw [hV.out]; rfl, HB.out⟩
end Go.Proofs.YtemdkkphmldgjaaGreatDoor
