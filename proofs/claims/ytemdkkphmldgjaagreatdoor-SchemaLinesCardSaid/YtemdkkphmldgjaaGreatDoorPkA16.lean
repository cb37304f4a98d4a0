/-
  Texts of the proof, put together: RatAwake SchNum SchFld SchBlk.
-/
import Derived.Deep.RegionHeld3
import Derived.Lib.AtoiErrMem
import Derived.Test.YtemdkkphmldgjaaGreatDoorPkA10
import Derived.Test.YtemdkkphmldgjaaGreatDoorPkA12
import Derived.Test.YtemdkkphmldgjaaGreatDoorPkA14
import Derived.Test.YtemdkkphmldgjaaGreatDoorPkA15
set_option maxRecDepth 100000
set_option maxHeartbeats 6400000
namespace Go.Proofs.YtemdkkphmldgjaaGreatDoor.Q
open Go.RowKit NatMath RatMath
theorem u64_of_neg {n : Int} (h : n < 0) (h0 : -9223372036854775808 <= n) : IntKind.u64.wrap n = n + 18446744073709551616 := by
 rw [IntKind.wrap_u64]; omega
theorem magnitude_c (n : Int) (w : World) (h0 : -9223372036854775808 <= n) (h1 : n <= 9223372036854775807) :
    Calls Tryz.prog 179 #[.int .i64 n] w fun e w' => ∃ a n' c', n' <= 2 /\ e = .returned (.slice a n' c') /\ Own 144 .u32 w.heap.size w' a n' c' (limbs n.natAbs) /\ Below w.heap.size w w' := by
 obtain ⟨m, hm⟩ : ∃ m : Nat, Hid (m = n.natAbs) := ⟨_, rfl⟩
 have hmb : m <= 9223372036854775808 := by rw [hm.out]; omega
 have HO := of_c (m : Int) w (by omega) (by omega)
 rw [Int.toNat_natCast] at HO
 rw [<- hm.out]
 have HO := Lib.hid HO
 by_cases hn : n < 0
 . have hd : decide (n < 0) = true := by simpa using hn
   have e1 := u64_of_neg hn h0
   have e2 : n = -(m : Int) := by rw [hm.out]; omega
   subst e2
   go_enter Tryz.func179, Tryz.ntmps179
   go_wp2_with fail
   rw [show IntKind.u64.wrap (-(-(m : Int) + 18446744073709551616)) = (m : Int) by rw [IntKind.wrap_u64]; omega]
   refine HO.out.mono ?_
   rintro e w1 ⟨a, n', c', hn', rfl, o, b⟩
   go_wp2_with fail
   go_ret
   exact ⟨a, n', c', hn', rfl, o, b⟩
 . have hd : decide (n < 0) = false := by simpa using hn
   have e2 : n = (m : Int) := by rw [hm.out]; omega
   subst e2
   go_enter Tryz.func179, Tryz.ntmps179
   go_wp2_with fail
   refine HO.out.mono ?_
   rintro e w1 ⟨a, n', c', hn', rfl, o, b⟩
   go_wp2_with fail
   go_ret
   exact ⟨a, n', c', hn', rfl, o, b⟩
theorem frac_c (x y : Int) (w : World) (x0 : -9223372036854775808 <= x) (x1 : x <= 9223372036854775807) (y0 : -9223372036854775808 <= y) (y1 : y <= 9223372036854775807) :
    Calls Tryz.prog 122 #[.int .i64 x, .int .i64 y] w fun e w' => ∃ s a n c b m d, e = .returned (.agg #[.bool s, .slice a n c, .slice b m d]) /\ s = (nf ⟨decide (x < 0) != decide (y < 0), x.natAbs, y.natAbs⟩).s /\ Own 144 .u32 w.heap.size w' a n c (limbs (nf ⟨decide (x < 0) != decide (y < 0), x.natAbs, y.natAbs⟩).p) /\ Own 144 .u32 w.heap.size w' b m d (limbs (nf ⟨decide (x < 0) != decide (y < 0), x.natAbs, y.natAbs⟩).q) /\ n <= 2 /\ m <= 3 /\ Below w.heap.size w w' := by
 obtain ⟨sg, hsg⟩ : ∃ sg, Hid (sg = (decide (x < 0) != decide (y < 0))) := ⟨_, rfl⟩
 rw [<- hsg.out]
 have hsgn : (!(decide (x < 0) == decide (y < 0))) = sg := hsg.out.symm
 go_enter Tryz.func122, Tryz.ntmps122
 go_wp2_with fail
 have kZ := Blk.new w 32 #[.bool false, .slice none 0 0, .slice none 0 0]
 have bb := (Below.refl w.heap.size w).alloc (Nat.le_refl _) (.cells #[.bool false, .slice none 0 0, .slice none 0 0] 32)
 obtain ⟨W0, hW0⟩ : ∃ W0, W0 = w.alloc (.cells #[.bool false, .slice none 0 0, .slice none 0 0] 32) := ⟨_, rfl⟩
 rw [<- hW0] at kZ bb |-
 clear hW0
 refine (magnitude_c x W0 x0 x1).mono ?_
 rintro e w1 ⟨a1, n1, c1, hn1, rfl, o1, B1⟩
 have K1 := kZ.on B1
 have BB1 := bb.trans (B1.mono bb.size)
 go_wp2_with fail
 refine (magnitude_c y w1 y0 y1).mono ?_
 rintro e w2 ⟨a2, n2, c2, hn2, rfl, o2, B2⟩
 have K2 := K1.on B2
 have BB2 := BB1.trans (B2.mono BB1.size)
 have hmk := make_c sg a1 a2 n1 c1 n2 c2 _ _ w2 (o1.kept B2).lst o2.lst (by omega) (by omega)
 rw [val_limbs, val_limbs] at hmk
 have HM := Lib.hid hmk
 clear hmk o1 o2 B1 B2 K1 kZ bb BB1
 go_wp2_with fail
 try rw [hsgn]
 refine HM.out.mono ?_
 rintro e w3 ⟨s3, a3, n3, c3, b3, m3, d3, rfl, hs3, o3, o4, hn3, hm3, bb3⟩
 have K3 := K2.on bb3
 have BB3 := BB2.trans (bb3.mono BB2.size)
 have h3 := o3.hi (g := w.heap.size) K2.lt
 have h4 := o4.hi (g := w.heap.size) K2.lt
 have O3 := Lib.hid (o3.low BB2.size)
 have O4 := Lib.hid (o4.low BB2.size)
 obtain ⟨q0, q1, q2, q3, q4, q5⟩ := K3.store3 (.bool s3) (.slice a3 n3 c3)
 have HS3 := Lib.hid hs3
 clear hs3 bb3 o3 o4 BB2 K2 HM
 go_wp2_with fail
 have pbox := K3.put3 (.bool s3) (.slice a3 n3 c3) (.slice b3 m3 d3)
 have pbel := below_put3 BB3 (Nat.le_refl _) (.bool s3) (.slice a3 n3 c3) (.slice b3 m3 d3)
 have p3 := O3.out.put3 h3 (.bool s3) (.slice a3 n3 c3) (.slice b3 m3 d3)
 have p4 := O4.out.put3 h4 (.bool s3) (.slice a3 n3 c3) (.slice b3 m3 d3)
 obtain ⟨W, hW⟩ : ∃ W, W = put3 w3 w.heap.size (.bool s3) (.slice a3 n3 c3) (.slice b3 m3 d3) := ⟨_, rfl⟩
 change bodyPost _ _ _ _ _ (put3 w3 w.heap.size (.bool s3) (.slice a3 n3 c3) (.slice b3 m3 d3))
 rw [<- hW] at pbox pbel p3 p4 |-
 obtain ⟨r0, r1, r2⟩ := pbox.cells3
 refine bodyPost_ret (v := .agg #[.bool s3, .slice a3 n3 c3, .slice b3 m3 d3]) (by simp [results, Tryz.results122, go_sem, r0, r1, r2]) rfl ?_
 exact ⟨s3, a3, n3, c3, b3, m3, d3, rfl, HS3.out, p3, p4, by omega, by omega, pbel⟩
end Go.Proofs.YtemdkkphmldgjaaGreatDoor.Q
/-
  electionlaw02.Awake.
-/
namespace Go.Proofs.YtemdkkphmldgjaaGreatDoor.Q
open Go.RowKit NatMath RatMath
end Go.Proofs.YtemdkkphmldgjaaGreatDoor.Q
namespace Go.Proofs.YtemdkkphmldgjaaGreatDoor
open Go.RowKit Lx
namespace Lx
theorem idx_slash (l : List UInt8) : decide (Lib.indexByte l 47 >= 0) = slashB l := by
 have hge := Lib.indexByte_ge l 47
 by_cases h : 0 <= Lib.indexByte l 47
 . obtain ⟨k, hk⟩ : ∃ k : Nat, Lib.indexByte l 47 = k := ⟨(Lib.indexByte l 47).toNat, by omega⟩
   obtain ⟨h1, _⟩ := Lib.indexByte_some hk
   rw [decide_eq_true h]
   symm
   unfold slashB
   rw [List.any_eq_true]
   exact ⟨47, List.mem_of_getElem? h1, rfl⟩
 . rw [decide_eq_false h]
   symm
   unfold slashB
   rw [List.any_eq_false]
   intro x hx e
   obtain ⟨i, hi, he⟩ := List.mem_iff_getElem.1 hx
   have e' : x = 47 := UInt8.toNat_inj.1 (of_decide_eq_true e)
   exact Lib.indexByte_none (show Lib.indexByte l 47 = -1 by omega) i (by rw [List.getElem?_eq_getElem hi, he, e'])
theorem dec_fold : ∀ (l : List UInt8) (n : Nat), (∀ c ∈ l, 48 <= c.toNat /\ c.toNat <= 57) -> Lib.decFrom n l = some (l.foldl (fun n c => 10 * n + (c.toNat - 48)) n) := by
 intro l
 induction l with
 | nil => intro n _; rfl
 | cons c r ih =>
  intro n h
  have hc := h c (List.mem_cons_self ..)
  rw [Lib.decFrom, Lib.digitVal, if_pos hc, List.foldl_cons]
  show Lib.decFrom (n * 10 + (c.toNat - 48)) r = _
  rw [Nat.mul_comm n 10]
  exact ih _ fun d hd => h d (List.mem_cons_of_mem _ hd)
theorem atoi_num {l : List UInt8} (h : numB l = true) : Lib.atoi l = some ((numV l : Nat) : Int) := by
 cases l with
 | nil => simp [numB] at h
 | cons c r =>
  have hd := num_dig h
  have hc := hd c (List.mem_cons_self ..)
  have h1 : (c == 45) = false := beq_eq_false_iff_ne.2 fun e => by rw [e] at hc; revert hc; decide
  have h2 : (c == 43) = false := beq_eq_false_iff_ne.2 fun e => by rw [e] at hc; revert hc; decide
  simp only [Lib.atoi, h1, h2, Bool.false_eq_true, if_false]
  unfold Lib.decNat
  rw [if_neg (by simp), dec_fold _ _ hd]
  rfl
end Lx
theorem scSlash_c (v : List UInt8) (w : World) :
    Calls Tryz.prog 260 #[.string (stg v), .string ⟨#[47]⟩] w fun e w' => e = .returned (.bool (slashB v)) /\ w = w' := by
 have HI := sliteIndex_c (stg v) w
 rw [bys_stg] at HI
 have hS := Lib.hid (idx_slash v)
 obtain ⟨R, hR⟩ : ∃ R, Hid (Lib.indexByte v 47 = R) := ⟨_, rfl⟩
 rw [hR.out] at HI hS
 obtain ⟨K, hK⟩ : ∃ K, Hid (stg v = K) := ⟨_, rfl⟩
 rw [hK.out] at HI |-
 have HI := Lib.hid HI
 have HX : Hid (Calls Tryz.prog 133 #[.string K, .string ⟨#[47]⟩] w fun e w' => e = .returned (.int .i64 R) /\ w = w') := by
  show Calls _ _ _ _ _
  go_enter Tryz.func133, Tryz.ntmps133
  go_wp2_with fail
  refine HI.out.mono ?_
  rintro e w1 ⟨rfl, rfl⟩
  go_wp2_with fail
  go_ret
  exact ⟨rfl, rfl⟩
 clear HI
 go_enter Tryz.func260, Tryz.ntmps260
 go_wp2_with fail
 refine HX.out.mono ?_
 rintro e w1 ⟨rfl, rfl⟩
 go_wp2_with fail
 go_ret
 exact ⟨by rw [<- hS.out]; rfl, rfl⟩
theorem scFraction_c (v : List UInt8) (w : World) (hv : v.length <= 1000000) :
    Calls Tryz.prog 243 #[.string (stg v)] w fun e w' => e = .returned (.bool (fracB v)) /\ Below w.heap.size w w' := by
 have HB := bare_c (stg v) w (by rw [<- bys_len, bys_stg]; exact hv)
 rw [bys_stg] at HB
 unfold fracB
 obtain ⟨K, hK⟩ : ∃ K, Hid (stg v = K) := ⟨_, rfl⟩
 rw [hK.out] at HB |-
 cases hb : bareB v with
 | false =>
  rw [hb] at HB
  rw [Bool.false_and]
  replace HB := Lib.hid HB
  clear hb hv
  go_enter Tryz.func243, Tryz.ntmps243
  go_wp2_with fail
  refine HB.out.mono ?_
  rintro e w1 ⟨rfl, q, rfl⟩
  clear HB
  go_wp2_with fail
  go_ret
  exact ⟨rfl, below_drewN (Below.refl _ _) _⟩
 | true =>
  rw [hb] at HB
  rw [Bool.true_and]
  replace HB := Lib.hid HB
  clear hb hv
  go_enter Tryz.func243, Tryz.ntmps243
  go_wp2_with fail
  refine HB.out.mono ?_
  rintro e w1 ⟨rfl, q, rfl⟩
  clear HB
  have HS := scSlash_c v (w.drewN q)
  rw [hK.out] at HS
  replace HS := Lib.hid HS
  go_wp2_with fail
  refine HS.out.mono ?_
  rintro e w2 ⟨rfl, rfl⟩
  clear HS
  go_wp2_with fail
  go_ret
  exact ⟨rfl, below_drewN (Below.refl _ _) _⟩
theorem scNumber_c (v : List UInt8) (w : World) (hv : v.length <= 1000000) :
    Calls Tryz.prog 242 #[.string (stg v)] w fun e w' => e = .returned (.bool (numB v)) /\ Below w.heap.size w w' := by
 have HB := bare_c (stg v) w (by rw [<- bys_len, bys_stg]; exact hv)
 rw [bys_stg] at HB
 have hW := num_of v
 cases hb : bareB v with
 | false =>
  rw [hb] at hW HB
  rw [hW, Bool.false_and, Bool.false_and]
  replace HB := Lib.hid HB
  obtain ⟨K, hK⟩ : ∃ K, Hid (stg v = K) := ⟨_, rfl⟩
  rw [hK.out] at HB |-
  clear hW hb hv
  go_enter Tryz.func242, Tryz.ntmps242
  go_wp2_with fail
  refine HB.out.mono ?_
  rintro e w1 ⟨rfl, q, rfl⟩
  clear HB
  go_wp2_with fail
  go_ret
  exact ⟨rfl, below_drewN (Below.refl _ _) _⟩
 | true =>
  obtain ⟨c, r, rfl⟩ := bare_pos hb
  rw [hb] at hW HB
  rw [hW, Bool.true_and]
  have i1 := first_at (c := c) (r := r)
  have HSl := fun q => scSlash_c (c :: r) (w.drewN q)
  obtain ⟨Z, hZ⟩ : ∃ Z, Hid (slashB (c :: r) = Z) := ⟨_, rfl⟩
  rw [hZ.out] at HSl |-
  obtain ⟨K, hK⟩ : ∃ K, Hid (stg (c :: r) = K) := ⟨_, rfl⟩
  rw [hK.out] at HB i1 HSl |-
  replace HB := Lib.hid HB
  replace HSl := Lib.hid HSl
  have hc : c.toNat < 256 := c.toNat_lt
  obtain ⟨z, hz⟩ : ∃ z, Hid (c.toNat = z) := ⟨_, rfl⟩
  rw [hz.out] at i1 hc
  have hG : Hid (ltA (c :: r) = decide (z < 97)) := by
   show decide (c.toNat < 97) = _
   rw [hz.out]
  rw [hG.out]
  clear hW hb hv hG
  by_cases h97 : z < 97
  . rw [decide_eq_true h97, Bool.true_and]
    have b1 : decide ((z : Int) < 97) = true := decide_eq_true (by omega)
    go_enter Tryz.func242, Tryz.ntmps242
    go_wp2_with fail
    refine HB.out.mono ?_
    rintro e w1 ⟨rfl, q, rfl⟩
    clear HB
    have HS := Lib.hid (HSl.out q)
    go_wp2_with fail
    refine HS.out.mono ?_
    rintro e w2 ⟨rfl, rfl⟩
    clear HS
    go_wp2_with fail
    go_ret
    exact ⟨rfl, below_drewN (Below.refl _ _) _⟩
  . rw [decide_eq_false h97, Bool.false_and]
    have b1 : decide ((z : Int) < 97) = false := decide_eq_false (by omega)
    go_enter Tryz.func242, Tryz.ntmps242
    go_wp2_with fail
    refine HB.out.mono ?_
    rintro e w1 ⟨rfl, q, rfl⟩
    clear HB
    go_wp2_with fail
    go_ret
    exact ⟨rfl, below_drewN (Below.refl _ _) _⟩
theorem scInt_c (v : List UInt8) (w : World) (hv : v = [] \/ numB v = true) (hT : Tabs w) :
    Calls Tryz.prog 118 #[.string (stg v)] w fun e w' => e = .returned (.int .i64 ((numV v : Nat) : Int)) /\ Below w.heap.size w w' := by
 have hsz : (stg v).size = v.length := by rw [<- bys_len, bys_stg]
 rcases hv with rfl | hn
 . obtain ⟨tp, p, he⟩ := hT.err
   have HA := Lib.hid (Tryz.strconv_Atoi_err_var (stg []) (by rw [hsz]; decide) rfl tp p w he)
   have e1 : ((numV [] : Nat) : Int) = 0 := rfl
   rw [e1]
   clear he hT hsz e1
   go_enter Tryz.func118, Tryz.ntmps118
   go_wp2_with fail
   refine HA.out.mono ?_
   rintro e w1 ⟨N, rfl, _, _, B1⟩
   replace B1 := Lib.hid B1
   clear HA
   go_wp2_with fail
   go_ret
   exact ⟨rfl, B1.out⟩
 . have h6 := num_len hn
   have HA := Lib.hid (Tryz.strconv_Atoi (stg v) ((numV v : Nat) : Int) (by omega) (atoi_num hn) w)
   obtain ⟨K, hK⟩ : ∃ K, Hid (stg v = K) := ⟨_, rfl⟩
   rw [hK.out] at HA |-
   obtain ⟨V, hV⟩ : ∃ V, Hid (numV v = V) := ⟨_, rfl⟩
   rw [hV.out] at HA |-
   clear hT hsz hn h6
   go_enter Tryz.func118, Tryz.ntmps118
   go_wp2_with fail
   refine HA.out.mono ?_
   rintro e w1 ⟨rfl, t, hw1⟩
   have B1 : Hid (Below w.heap.size w w1) := by show Below _ _ _; rw [hw1]; exact Lib.bytesWorld_below _ _ _
   clear HA hw1
   go_wp2_with fail
   go_ret
   exact ⟨rfl, B1.out⟩
end Go.Proofs.YtemdkkphmldgjaaGreatDoor
namespace Go.Proofs.YtemdkkphmldgjaaGreatDoor
open Go.RowKit Lx
namespace Lx
def idxK (k : List UInt8) : List SFld -> Option Nat
  | [] => none
  | f :: r => if f.key = k then some 0 else (idxK k r).map (· + 1)
def idxF (fs : List SFld) (k : List UInt8) : Int := match idxK k fs with
 | some i => i
 | none => -1
theorem idxK_some {k : List UInt8} : ∀ {fs : List SFld} {j : Nat} {f : SFld}, fs[j]? = some f -> f.key = k -> (∀ (t : Nat) g, t < j -> fs[t]? = some g -> g.key ≠ k) -> idxK k fs = some j
  | [], j, f, h, _, _ => by simp at h
  | u :: r, 0, f, h, hk, _ => by
   have : u = f := by simpa using h
   subst this
   rw [idxK, if_pos hk]
  | u :: r, j + 1, f, h, hk, hz => by
   have hu : u.key ≠ k := hz 0 u (by omega) (by simp)
   rw [idxK, if_neg hu, idxK_some (fs := r) (j := j) (by simpa using h) hk (fun t g ht hg => hz (t + 1) g (by omega) (by simpa using hg))]
   rfl
theorem idxK_none {k : List UInt8} : ∀ {fs : List SFld}, (∀ (t : Nat) g, fs[t]? = some g -> g.key ≠ k) -> idxK k fs = none
  | [], _ => rfl
  | u :: r, hz => by
   have hu : u.key ≠ k := hz 0 u (by simp)
   rw [idxK, if_neg hu, idxK_none (fs := r) (fun t g hg => hz (t + 1) g (by simpa using hg))]
   rfl
theorem idxK_get {k : List UInt8} : ∀ {fs : List SFld} {j : Nat}, idxK k fs = some j -> ∃ f, fs[j]? = some f /\ fs.find? (fun f => decide (f.key = k)) = some f
  | [], j, h => by simp [idxK] at h
  | u :: r, j, h => by
   rw [idxK] at h
   by_cases hu : u.key = k
   . rw [if_pos hu] at h
     injection h with h
     subst h
     exact ⟨u, by simp, by rw [List.find?_cons, decide_eq_true hu]⟩
   . rw [if_neg hu] at h
     obtain ⟨i, hi, rfl⟩ := Option.map_eq_some_iff.1 h
     obtain ⟨f, h1, h2⟩ := idxK_get hi
     exact ⟨f, by simpa using h1, by rw [List.find?_cons, decide_eq_false hu]; exact h2⟩
theorem idxK_find {k : List UInt8} : ∀ {fs : List SFld}, idxK k fs = none -> fs.find? (fun f => decide (f.key = k)) = none
  | [], _ => rfl
  | u :: r, h => by
   rw [idxK] at h
   by_cases hu : u.key = k
   . rw [if_pos hu] at h; cases h
   . rw [if_neg hu, Option.map_eq_none_iff] at h
     rw [List.find?_cons, decide_eq_false hu]
     exact idxK_find h
theorem idxF_any (fs : List SFld) (k : List UInt8) : decide (idxF fs k >= 0) = fs.any (fun g => decide (g.key = k)) := by
 unfold idxF
 cases h : idxK k fs with
 | none =>
  have := idxK_find h
  rw [List.find?_eq_none] at this
  symm
  show fs.any _ = false
  rw [List.any_eq_false]
  exact this
 | some j =>
  obtain ⟨f, h1, h2⟩ := idxK_get h
  show decide ((j : Int) >= 0) = _
  rw [decide_eq_true (by omega)]
  symm
  rw [List.any_eq_true]
  exact ⟨f, List.mem_of_find?_eq_some h2, by simpa using List.find?_some h2⟩
theorem idxF_has (b : SBlc) (k : List UInt8) : decide (idxF b.flds k >= 0) = hasF b k := by
 unfold idxF hasF fieldOf
 cases h : idxK k b.flds with
 | none =>
  rw [idxK_find h]
  rfl
 | some j =>
  obtain ⟨f, h1, h2⟩ := idxK_get h
  rw [h2]
  show decide ((j : Int) >= 0) = true
  exact decide_eq_true (by omega)
end Lx
def fV (f : SFld) (vo : Option Addr) (vn vc : Nat) : Value := .agg #[.string (stg f.key), .slice vo vn vc, .int .i64 f.line]
theorem idx1_c (f : SFld) (k : List UInt8) (vo : Option Addr) (vn vc p : Nat) (w : World) (hp : w.cell? ⟨p, 0, none⟩ = some (.string (stg k))) :
    Calls Tryz.prog 220 #[.agg #[.string (stg f.key), .slice vo vn vc, .int .i64 f.line], .pointer (some ⟨p, 0, none⟩)] w fun e w' => e = .returned (.bool (decide (f.key = k))) /\ Below w.heap.size w w' := by
 obtain ⟨V, e1, AV, BV, hz⟩ := new_box w 63 [.string (stg f.key), .slice vo vn vc, .int .i64 f.line]
 have hq := Lib.hid (str_eq f.key k)
 obtain ⟨K, hK⟩ : ∃ K, stg f.key = K := ⟨_, rfl⟩
 obtain ⟨L, hL⟩ : ∃ K, stg k = K := ⟨_, rfl⟩
 rw [hK] at e1 AV hq |-
 rw [hL] at hp hq
 have y0 : V.cell? ⟨w.heap.size, 0, none⟩ = some (.string K) := AV.cell 0
 have y1 : V.cell? ⟨p, 0, none⟩ = some (.string L) := (World.cell?_of_block (BV.block _ (World.block_lt_of_cell? w _ hp))).trans hp
 have HB := Lib.hid BV
 clear AV BV hz hK hL hp
 go_enter Tryz.func220, Tryz.ntmps220
 go_wp2_with fail
 go_ret
 exact ⟨by rw [<- hq.out]; rfl, HB.out⟩
theorem idx1Func_c (fs : List SFld) (k : List UInt8) (p : Nat) (ao : Option Addr) (n c : Nat) (w : World) (h : FldS anyF w ao n c fs) (hp : w.cell? ⟨p, 0, none⟩ = some (.string (stg k))) :
    Calls Tryz.prog 216 #[.slice ao n c, .func (.func 220) #[] #[.pointer (some ⟨p, 0, none⟩)]] w fun e w' => e = .returned (.int .i64 (idxF fs k)) /\ Below w.heap.size w w' := by
 obtain ⟨hcap, hroom⟩ := h.caps
 have hlen := Lib.hid h.len
 have H := Lib.hid h
 have HP := Lib.hid hp
 have hpb : Hid (p < w.heap.size) := World.block_lt_of_cell? w _ hp
 clear h hp
 go_enter Tryz.func216, Tryz.ntmps216
 go_wp2_with fail
 go_loopw [8] (fun i wr => ∃ j : Nat, j <= n /\ i = .int .i64 (j : Int) /\ Below w.heap.size w wr /\ Hid (∀ (t : Nat) g, t < j -> fs[t]? = some g -> g.key ≠ k)) (fun i _ => n - (intOf i).toNat)
 case atStart => exact ⟨0, Nat.zero_le _, rfl, Below.refl _ _, fun t g ht => absurd ht (by omega)⟩
 case round =>
  obtain ⟨j, hj, rfl, B, HZ⟩ := hrel
  have B := Lib.hid B
  by_cases hlt : j < n
  . have hlt' : (j : Int) < (n : Int) := by omega
    obtain ⟨f, a, vo, vn, vc, hf, i1, c0, c1, c2, SL⟩ := (FldS.keep H.out stable_any (keeps_below _ B.out)).get j hlt
    have HC := Lib.hid (idx1_c f k vo vn vc p wr ((B.out.cell (p := ⟨p, 0, none⟩) hpb.out).trans HP.out))
    have hf := Lib.hid hf
    clear SL
    by_cases hk : f.key = k
    . rw [decide_eq_true hk] at HC
      have hR : Hid (idxF fs k = (j : Int)) := by
       show _ = _
       unfold idxF
       rw [idxK_some hf.out hk HZ.out]
      obtain ⟨K, hK⟩ : ∃ K, Hid (stg f.key = K) := ⟨_, rfl⟩
      rw [hK.out] at c0 HC
      clear hk
      go_wp2_with fail
      refine HC.out.mono ?_
      rintro e w1 ⟨rfl, B1⟩
      replace B1 : Hid (Below w.heap.size w w1) := B.out.trans (B1.mono B.out.size)
      clear HC c0 c1 c2 i1
      go_wp2_with fail
      go_ret
      exact ⟨by rw [hR.out]; rfl, B1.out⟩
    . rw [decide_eq_false hk] at HC
      have HZ2 : Hid (∀ (t : Nat) g, t < j + 1 -> fs[t]? = some g -> g.key ≠ k) := by
       intro t g ht e
       by_cases h1 : t = j
       . rw [h1, hf.out] at e
         injection e with e
         rw [<- e]
         exact hk
       . exact HZ.out t g (by omega) e
      obtain ⟨K, hK⟩ : ∃ K, Hid (stg f.key = K) := ⟨_, rfl⟩
      rw [hK.out] at c0 HC
      clear hk
      go_wp2_with fail
      refine HC.out.mono ?_
      rintro e w1 ⟨rfl, B1⟩
      replace B1 : Hid (Below w.heap.size w w1) := B.out.trans (B1.mono B.out.size)
      clear HC c0 c1 c2 i1
      go_wp2_with fail
      go_roundw
      case rel => exact ⟨j + 1, by omega, by go_num, B1.out, HZ2⟩
      case measure => simp [intOf]; omega
  . have hlt' : ¬ (j : Int) < (n : Int) := by omega
    have hR : Hid (idxF fs k = -1) := by
     show _ = _
     unfold idxF
     rw [idxK_none fun t g e => HZ.out t g (by have := (List.getElem?_eq_some_iff.1 e).1; have := hlen.out; omega) e]
    go_wp2_with fail
    go_ret
    exact ⟨by rw [hR.out]; rfl, B.out⟩
theorem chk1_c (f : SFld) (k : List UInt8) (vo : Option Addr) (vn vc p : Nat) (w : World) (hp : w.cell? ⟨p, 0, none⟩ = some (.string (stg k))) :
    Calls Tryz.prog 170 #[.agg #[.string (stg f.key), .slice vo vn vc, .int .i64 f.line], .pointer (some ⟨p, 0, none⟩)] w fun e w' => e = .returned (.bool (decide (f.key = k))) /\ Below w.heap.size w w' := by
 obtain ⟨V, e1, AV, BV, hz⟩ := new_box w 63 [.string (stg f.key), .slice vo vn vc, .int .i64 f.line]
 have hq := Lib.hid (str_eq f.key k)
 obtain ⟨K, hK⟩ : ∃ K, stg f.key = K := ⟨_, rfl⟩
 obtain ⟨L, hL⟩ : ∃ K, stg k = K := ⟨_, rfl⟩
 rw [hK] at e1 AV hq |-
 rw [hL] at hp hq
 have y0 : V.cell? ⟨w.heap.size, 0, none⟩ = some (.string K) := AV.cell 0
 have y1 : V.cell? ⟨p, 0, none⟩ = some (.string L) := (World.cell?_of_block (BV.block _ (World.block_lt_of_cell? w _ hp))).trans hp
 have HB := Lib.hid BV
 clear AV BV hz hK hL hp
 go_enter Tryz.func170, Tryz.ntmps170
 go_wp2_with fail
 go_ret
 exact ⟨by rw [<- hq.out]; rfl, HB.out⟩
theorem chk1Func_c (fs : List SFld) (k : List UInt8) (p : Nat) (ao : Option Addr) (n c : Nat) (w : World) (h : FldS anyF w ao n c fs) (hp : w.cell? ⟨p, 0, none⟩ = some (.string (stg k))) :
    Calls Tryz.prog 216 #[.slice ao n c, .func (.func 170) #[] #[.pointer (some ⟨p, 0, none⟩)]] w fun e w' => e = .returned (.int .i64 (idxF fs k)) /\ Below w.heap.size w w' := by
 obtain ⟨hcap, hroom⟩ := h.caps
 have hlen := Lib.hid h.len
 have H := Lib.hid h
 have HP := Lib.hid hp
 have hpb : Hid (p < w.heap.size) := World.block_lt_of_cell? w _ hp
 clear h hp
 go_enter Tryz.func216, Tryz.ntmps216
 go_wp2_with fail
 go_loopw [8] (fun i wr => ∃ j : Nat, j <= n /\ i = .int .i64 (j : Int) /\ Below w.heap.size w wr /\ Hid (∀ (t : Nat) g, t < j -> fs[t]? = some g -> g.key ≠ k)) (fun i _ => n - (intOf i).toNat)
 case atStart => exact ⟨0, Nat.zero_le _, rfl, Below.refl _ _, fun t g ht => absurd ht (by omega)⟩
 case round =>
  obtain ⟨j, hj, rfl, B, HZ⟩ := hrel
  have B := Lib.hid B
  by_cases hlt : j < n
  . have hlt' : (j : Int) < (n : Int) := by omega
    obtain ⟨f, a, vo, vn, vc, hf, i1, c0, c1, c2, SL⟩ := (FldS.keep H.out stable_any (keeps_below _ B.out)).get j hlt
    have HC := Lib.hid (chk1_c f k vo vn vc p wr ((B.out.cell (p := ⟨p, 0, none⟩) hpb.out).trans HP.out))
    have hf := Lib.hid hf
    clear SL
    by_cases hk : f.key = k
    . rw [decide_eq_true hk] at HC
      have hR : Hid (idxF fs k = (j : Int)) := by
       show _ = _
       unfold idxF
       rw [idxK_some hf.out hk HZ.out]
      obtain ⟨K, hK⟩ : ∃ K, Hid (stg f.key = K) := ⟨_, rfl⟩
      rw [hK.out] at c0 HC
      clear hk
      go_wp2_with fail
      refine HC.out.mono ?_
      rintro e w1 ⟨rfl, B1⟩
      replace B1 : Hid (Below w.heap.size w w1) := B.out.trans (B1.mono B.out.size)
      clear HC c0 c1 c2 i1
      go_wp2_with fail
      go_ret
      exact ⟨by rw [hR.out]; rfl, B1.out⟩
    . rw [decide_eq_false hk] at HC
      have HZ2 : Hid (∀ (t : Nat) g, t < j + 1 -> fs[t]? = some g -> g.key ≠ k) := by
       intro t g ht e
       by_cases h1 : t = j
       . rw [h1, hf.out] at e
         injection e with e
         rw [<- e]
         exact hk
       . exact HZ.out t g (by omega) e
      obtain ⟨K, hK⟩ : ∃ K, Hid (stg f.key = K) := ⟨_, rfl⟩
      rw [hK.out] at c0 HC
      clear hk
      go_wp2_with fail
      refine HC.out.mono ?_
      rintro e w1 ⟨rfl, B1⟩
      replace B1 : Hid (Below w.heap.size w w1) := B.out.trans (B1.mono B.out.size)
      clear HC c0 c1 c2 i1
      go_wp2_with fail
      go_roundw
      case rel => exact ⟨j + 1, by omega, by go_num, B1.out, HZ2⟩
      case measure => simp [intOf]; omega
  . have hlt' : ¬ (j : Int) < (n : Int) := by omega
    have hR : Hid (idxF fs k = -1) := by
     show _ = _
     unfold idxF
     rw [idxK_none fun t g e => HZ.out t g (by have := (List.getElem?_eq_some_iff.1 e).1; have := hlen.out; omega) e]
    go_wp2_with fail
    go_ret
    exact ⟨by rw [hR.out]; rfl, B.out⟩
theorem keyIn_c (fs : List SFld) (k : List UInt8) (p : Nat) (ao : Option Addr) (n c : Nat) (w : World) (h : FldS anyF w ao n c fs) (hp : w.cell? ⟨p, 0, none⟩ = some (.string (stg k))) :
    Calls Tryz.prog 169 #[.slice ao n c, .func (.func 170) #[] #[.pointer (some ⟨p, 0, none⟩)]] w fun e w' => e = .returned (.bool (fs.any fun g => decide (g.key = k))) /\ Below w.heap.size w w' := by
 have HI := Lib.hid (chk1Func_c fs k p ao n c w h hp)
 have HA := Lib.hid (idxF_any fs k)
 obtain ⟨R, hR⟩ : ∃ R, Hid (idxF fs k = R) := ⟨_, rfl⟩
 rw [hR.out] at HI HA
 clear h hp
 go_enter Tryz.func169, Tryz.ntmps169
 go_wp2_with fail
 refine HI.out.mono ?_
 rintro e w1 ⟨rfl, B1⟩
 replace B1 := Lib.hid B1
 clear HI
 go_wp2_with fail
 go_ret
 exact ⟨by rw [<- HA.out]; rfl, B1.out⟩
theorem indexOf_c (b : SBlc) (k : List UInt8) (fo : Option Addr) (fn fc : Nat) (w : World) (h : FldS anyF w fo fn fc b.flds) :
    Calls Tryz.prog 174 #[.agg #[.string (stg b.kind), .string (stg b.name), .slice fo fn fc, .int .i64 b.line], .string (stg k)] w fun e w' => e = .returned (.int .i64 (idxF b.flds k)) /\ Below w.heap.size w w' := by
 obtain ⟨V, e1, AV, BV, hz⟩ := new_box w 55 [.string (stg b.kind), .string (stg b.name), .slice fo fn fc, .int .i64 b.line]
 obtain ⟨U, e2, AU, BU, hz2⟩ := new_box V 9 [.string (stg k)]
 have HF := Lib.hid (idx1Func_c b.flds k V.heap.size fo fn fc U (FldS.keep (FldS.keep h stable_any (keeps_below _ BV)) stable_any (keeps_below _ BU)) (AU.cell 0))
 have y0 : U.cell? ⟨w.heap.size, 2, none⟩ = some (.slice fo fn fc) := (AV.kept BU).cell 2
 rw [hz] at HF
 obtain ⟨K, hK⟩ : ∃ K, Hid (stg b.kind = K) := ⟨_, rfl⟩
 obtain ⟨N, hN⟩ : ∃ K, Hid (stg b.name = K) := ⟨_, rfl⟩
 obtain ⟨L, hL⟩ : ∃ K, Hid (stg k = K) := ⟨_, rfl⟩
 rw [hK.out, hN.out] at e1
 rw [hL.out] at e2
 rw [hK.out, hN.out, hL.out]
 have HB : Hid (Below w.heap.size w U) := BV.trans (BU.mono BV.size)
 clear h AV AU BV BU hz2
 go_enter Tryz.func174, Tryz.ntmps174
 go_wp2_with fail
 refine HF.out.mono ?_
 rintro e w1 ⟨rfl, B1⟩
 replace B1 : Hid (Below w.heap.size w w1) := HB.out.trans (B1.mono HB.out.size)
 clear HF
 go_wp2_with fail
 go_ret
 exact ⟨rfl, B1.out⟩
end Go.Proofs.YtemdkkphmldgjaaGreatDoor
namespace Go.Proofs.YtemdkkphmldgjaaGreatDoor
open Go.RowKit Lx
theorem Row.low {s n c : Nat} {w : World} {ao : Option Addr} {us : List Value} (h : Row anyF s w ao n c us) : Row (lowF w.heap.size) s w ao n c us :=
 ⟨h.len, h.cap, h.room, h.isSome, fun i u hu => ⟨(h.cell i u hu).1, World.block_lt_of_cell? w _ (h.cell i u hu).1⟩, h.nil0⟩
theorem FC.low {w : World} : ∀ {fs : List SFld} {us : List Value}, FC anyF w fs us -> FC (lowF w.heap.size) w fs us
  | [], _, h => h
  | _ :: _, _, ⟨vo, vn, vc, r, h1, h2, h4⟩ => ⟨vo, vn, vc, r, h1, Row.low h2, FC.low h4⟩
theorem FldS.low {n c : Nat} {w : World} {ao : Option Addr} {fs : List SFld} (h : FldS anyF w ao n c fs) : FldS (lowF w.heap.size) w ao n c fs := by
 obtain ⟨us, h1, h2⟩ := h
 exact ⟨us, h1.low, h2.low⟩
theorem BC.low {w : World} : ∀ {fs : List SBlc} {us : List Value}, BC anyF w fs us -> BC (lowF w.heap.size) w fs us
  | [], _, h => h
  | _ :: _, _, ⟨vo, vn, vc, r, h1, h2, h4⟩ => ⟨vo, vn, vc, r, h1, h2.low, BC.low h4⟩
theorem BlkS.low {n c : Nat} {w : World} {ao : Option Addr} {bs : List SBlc} (h : BlkS anyF w ao n c bs) : BlkS (lowF w.heap.size) w ao n c bs := by
 obtain ⟨us, h1, h2⟩ := h
 exact ⟨us, h1.low, h2.low⟩
theorem FldS.below {n c : Nat} {w w' : World} {ao : Option Addr} {fs : List SFld} (h : FldS anyF w ao n c fs) (hb : Below w.heap.size w w') : FldS anyF w' ao n c fs := h.keep stable_any (keeps_below _ hb)
theorem BlkS.below {n c : Nat} {w w' : World} {ao : Option Addr} {fs : List SBlc} (h : BlkS anyF w ao n c fs) (hb : Below w.heap.size w w') : BlkS anyF w' ao n c fs := h.keep stable_any (keeps_below _ hb)
theorem StrL.below {n c : Nat} {w w' : World} {ao : Option Addr} {fs : List (List UInt8)} (h : StrL anyF w ao n c fs) (hb : Below w.heap.size w w') : StrL anyF w' ao n c fs := Row.keep h stable_any (keeps_below _ hb)
theorem any_of {S : World -> Nat -> Prop} {w : World} : ∀ k, S w k -> anyF w k := fun _ _ => trivial
theorem cell_keep {w w' : World} {p : Addr} {v : Value} (h : w.cell? p = some v) (hb : Below w.heap.size w w') : w'.cell? p = some v := (World.cell?_of_block (hb.block _ (World.block_lt_of_cell? w _ h))).trans h
section
variable {w : World} {ops : Array Oper} {rest : List Oper} {a : Act} {Q : Exit -> Act -> World -> Prop} {d : Option Tmp} {p q : Operand} {ty : TypeId} {pos : String} {after : Array Edge}
theorem wpList_appK {T E : TypeId} {s bytes : Nat} {z : Value} (ht : Tryz.prog.underlying T = some (.slice E)) (hinfo : (Tryz.prog.info? E).map (fun i => (i.zero, i.size, i.bytes)) = some (some z, s, bytes)) (hzs : z.cells.size = s) (hs : 0 < s) (hby : bytes <= 1000)
    {B : Nat} {ao : Option Addr} {n c : Nat} {us vs : List Value} (hO : w.ownsRow B E s (.slice ao n c) n us) (hB : B <= w.heap.size) (hn : n <= 4000000) (hv : vs.length = s) (h1 : ∀ u ∈ vs, u.oneCell' = true)
    (hp : a.eval p = .slice ao n c) (hq : a.eval q = .slice (some ⟨w.heap.size, 0, none⟩) 1 1)
    (h : ∀ ao' c' w', w'.ownsRow B E s (.slice ao' (n + 1) c') (n + 1) (us ++ vs) -> w.grownBy w' (Value.slice ao n c).ownBlock -> Below B w w' -> wpList Tryz.prog ops Q rest (a.put d (.slice ao' (n + 1) c')) w') :
    wpList Tryz.prog ops Q (⟨d, .call { callee := .builtin .append, args := #[p, q], argTypes := #[T, T] }, ty, pos, after, none⟩ :: rest) a (w.alloc (.cells vs.toArray E)) := by
 obtain ⟨i0, hi, hz0, hz1, hz2⟩ := info_parts hinfo
 have b1 : Below w.heap.size w (w.alloc (.cells vs.toArray E)) := (Below.refl _ _).alloc (Nat.le_refl _) _
 have g1 : w.grownBy (w.alloc (.cells vs.toArray E)) (Value.slice ao n c).ownBlock := ⟨b1.os, b1.tape, b1.output, b1.size, fun k hk _ => b1.block k hk⟩
 have hnew : Arr (w.alloc (.cells vs.toArray E)) w.heap.size E vs := Arr.new w _ vs
 have hO1 : (w.alloc (.cells vs.toArray E)).ownsRow B E s (.slice ao n c) n us := ownsRow_keep hO b1
 have hbb : (n + 1) * bytes <= (4000000 + 1) * 1000 := Nat.mul_le_mul (by omega) hby
 refine wpList_append_own _ rfl p q T rfl B E i0 z s bytes ht hi hz0 hz1 hz2 hzs hs _ n _ hp hO1 ⟨w.heap.size, 0, none⟩ 1 1 vs hq (by omega) ?_ h1 (by unfold maxLen; omega) (by omega) (by simp; omega) ?_
 . intro j u hj
   have e := pt_own w.heap.size j
   simp only [pt, Option.getD_some] at e
   rw [e, hnew.cell]
   exact hj
 . intro v' w' ho' hg _
   obtain ⟨av, cv, hv⟩ : ∃ ao c, v' = .slice ao (n + 1) c := by
    rcases ho'.2 with ⟨hv, h0⟩ | ⟨g, cap, _, hv, _⟩
    . omega
    . exact ⟨_, cap, hv⟩
   subst hv
   exact h av cv w' ho' (grown_trans g1 hg) ((b1.mono hB).trans ((Below.refl _ _).grown hg (by simp; omega) (fun k hk => (World.ownsRow.lt hO k hk).1)))
end
namespace Lx
theorem take_snoc {α : Type} {l : List α} {j : Nat} {a : α} (h : l[j]? = some a) : l.take (j + 1) = l.take j ++ [a] := by
 rw [List.take_add_one, h]
 rfl
theorem ofKind_snoc_yes {k : List UInt8} {bs : List SBlc} {j : Nat} {b : SBlc} (h : bs[j]? = some b) (hk : b.kind = k) : ofKind k (bs.take (j + 1)) = ofKind k (bs.take j) ++ [b] := by
 unfold ofKind
 rw [take_snoc h, List.filter_append, List.filter_cons, if_pos (by simp [hk]), List.filter_nil]
theorem ofKind_snoc_no {k : List UInt8} {bs : List SBlc} {j : Nat} {b : SBlc} (h : bs[j]? = some b) (hk : b.kind ≠ k) : ofKind k (bs.take (j + 1)) = ofKind k (bs.take j) := by
 unfold ofKind
 rw [take_snoc h, List.filter_append, List.filter_cons, if_neg (by simp [hk]), List.filter_nil, List.append_nil]
theorem ofKind_len (k : List UInt8) (bs : List SBlc) : (ofKind k bs).length <= bs.length := List.length_filter_le _ _
end Lx
theorem ofKind_c (bs : List SBlc) (k : List UInt8) (ao : Option Addr) (n c : Nat) (w : World) (h : BlkS anyF w ao n c bs) (hn : n <= 2000000) :
    Calls Tryz.prog 61 #[.slice ao n c, .string (stg k)] w fun e w' => ∃ ro m d, e = .returned (.slice ro m d) /\ BlkS anyF w' ro m d (ofKind k bs) /\ Below w.heap.size w w' := by
 obtain ⟨hcap, hroom⟩ := h.caps
 have hlen := Lib.hid h.len
 have H := Lib.hid h.low
 obtain ⟨L, hL⟩ : ∃ K, Hid (stg k = K) := ⟨_, rfl⟩
 rw [hL.out]
 clear h
 go_enter Tryz.func61, Tryz.ntmps61
 go_wp2_with fail
 go_loopw [5, 7, 10] (fun v _ i wr => ∃ (j : Nat) (ro : Option Addr) (m d : Nat) (us : List Value), j <= n /\ m <= j /\ i = .int .i64 (j : Int) /\ v = .slice ro m d /\ wr.ownsRow w.heap.size 55 4 (.slice ro m d) m us /\ BC (lowF w.heap.size) wr (ofKind k (bs.take j)) us /\ Below w.heap.size w wr) (fun _ _ i _ => n - (intOf i).toNat)
 case atStart => exact ⟨0, none, 0, 0, [], Nat.zero_le _, Nat.le_refl _, rfl, rfl, World.ownsRow_nil _ _ _ _, rfl, Below.refl _ _⟩
 case round =>
  obtain ⟨w1, hw1⟩ : ∃ x, x = wr := ⟨_, rfl⟩
  subst hw1
  obtain ⟨j, ro, m, d, us, hj, hm, rfl, rfl, O, C, B⟩ := hrel
  by_cases hlt : j < n
  . have hlt' : (j : Int) < (n : Int) := by omega
    obtain ⟨b, a, fo, fn, fc, hb, i1, c0, c1, c2, c3, FL⟩ := (H.out.keep (stable_low _) (keeps_low B)).get j hlt
    obtain ⟨V, W1, e1, e2, AW, BW, zW, f0, f1, f2, f3, f4, f5, f6, f7⟩ := new_put4 w1 55 (.string ⟨#[]⟩) (.string ⟨#[]⟩) (.slice none 0 0) (.int .i64 0) (.string (stg b.kind)) (.string (stg b.name)) (.slice fo fn fc) (.int .i64 b.line)
    have y0 : W1.cell? ⟨w1.heap.size, 0, none⟩ = some (.string (stg b.kind)) := AW.cell 0
    have y1 : W1.cell? ⟨w1.heap.size, 1, none⟩ = some (.string (stg b.name)) := AW.cell 1
    have y2 : W1.cell? ⟨w1.heap.size, 2, none⟩ = some (.slice fo fn fc) := AW.cell 2
    have y3 : W1.cell? ⟨w1.heap.size, 3, none⟩ = some (.int .i64 b.line) := AW.cell 3
    have hq := str_eq b.kind k
    rw [hL.out] at hq
    obtain ⟨K, hK⟩ : ∃ K, Hid (stg b.kind = K) := ⟨_, rfl⟩
    obtain ⟨N, hN⟩ : ∃ K, Hid (stg b.name = K) := ⟨_, rfl⟩
    rw [hK.out] at c0 e2 y0 f2 f3 f4 f5 f6 f7 hq AW
    rw [hN.out] at c1 e2 y1 f4 f5 f6 f7 AW
    replace hb := Lib.hid hb
    have B2 : Hid (Below w.heap.size w W1) := B.trans (BW.mono B.size)
    have O2 : Hid (W1.ownsRow w.heap.size 55 4 (.slice ro m d) m us) := ownsRow_keep O BW
    have C2 : Hid (BC (lowF w.heap.size) W1 (ofKind k (bs.take j)) us) := C.keep (stable_low _) (keeps_low (BW.mono B.size))
    have FL2 : Hid (FldS (lowF w.heap.size) W1 fo fn fc b.flds) := FL.keep (stable_low _) (keeps_low (BW.mono B.size))
    replace zW := Lib.hid zW
    by_cases hk : b.kind = k
    . rw [decide_eq_true hk] at hq
      have HS : Hid (ofKind k (bs.take (j + 1)) = ofKind k (bs.take j) ++ [b]) := ofKind_snoc_yes hb.out hk
      have hz : w.heap.size <= W1.heap.size := B2.out.size
      clear hk O C B BW FL AW
      go_wp2_with (at_builtin; refine wpList_appK (vs := [.string K, .string N, .slice fo fn fc, .int .i64 b.line]) Tryz.underlying22 infoB rfl (by decide) (by decide) O2.out hz (by omega) rfl (by intro u hu; simp at hu; rcases hu with rfl | rfl | rfl | rfl <;> rfl) rfl rfl ?_)
      intro ao3 d3 w3 O3 G3 B3
      have B4 : Hid (Below w.heap.size w w3) := B2.out.trans B3
      have C4 : Hid (BC (lowF w.heap.size) w3 (ofKind k (bs.take (j + 1))) (us ++ [.string K, .string N, .slice fo fn fc, .int .i64 b.line])) := by
       show BC _ _ _ _
       rw [HS.out, <- hK.out, <- hN.out]
       exact (C2.out.keep (stable_low _) (keeps_low B3)).append ⟨fo, fn, fc, [], rfl, FL2.out.keep (stable_low _) (keeps_low B3), rfl⟩
      have O4 := Lib.hid O3
      clear O3 G3 B3 e1 e2 f0 f1 f2 f3 f4 f5 f6 f7 y0 y1 y2 y3 c0 c1 c2 c3 i1 hz
      go_wp2_with fail
      go_roundw
      case rel => exact ⟨j + 1, ao3, m + 1, d3, _, by omega, by omega, by go_num, rfl, O4.out, C4.out, B4.out⟩
      case measure => simp [intOf]; omega
    . rw [decide_eq_false hk] at hq
      have HS : Hid (ofKind k (bs.take (j + 1)) = ofKind k (bs.take j)) := ofKind_snoc_no hb.out hk
      clear hk O C B BW FL AW
      go_wp2_with fail
      go_roundw
      case rel => exact ⟨j + 1, ro, m, d, us, by omega, by omega, by go_num, rfl, O2.out, by rw [HS.out]; exact C2.out, B2.out⟩
      case measure => simp [intOf]; omega
  . have hlt' : ¬ (j : Int) < (n : Int) := by omega
    have hR : Hid (bs.take j = bs) := List.take_of_length_le (by have := hlen.out; omega)
    replace O := Lib.hid O
    replace C := Lib.hid C
    replace B := Lib.hid B
    go_wp2_with fail
    go_ret
    refine ⟨ro, m, d, rfl, ⟨us, Row.mono (Row.own O.out (by decide)) any_of, ?_⟩, B.out⟩
    have := C.out
    rw [hR.out] at this
    exact this.mono any_of
end Go.Proofs.YtemdkkphmldgjaaGreatDoor
