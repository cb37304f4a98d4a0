/-
  Texts of the proof, put together: NatDiv.
-/
import Derived.Deep.AppendLies
import Derived.Maps.AppendAt
import Derived.BigQuiet
import Derived.Deep.QuietTactic
import Derived.Deep.RegionHeld3
import Derived.Deep.RegionLaw
import Derived.Test.YtemdkkphmldgjaaGreatDoorPkA8
import Derived.Test.YtemdkkphmldgjaaGreatDoorPkA9
import Derived.Test.YtemdkkphmldgjaaGreatDoorPkA11
import Derived.Test.YtemdkkphmldgjaaGreatDoorPkA12
set_option maxRecDepth 100000
set_option maxHeartbeats 6400000
namespace Go.Proofs.YtemdkkphmldgjaaGreatDoor.Q
open Go.RowKit NatMath
theorem pt_at (g i j : Nat) : pt (some ⟨g, i, none⟩) j = ⟨g, i + j, none⟩ := by
 simp only [pt, Option.getD_some]
 unfold Addr.add
 split <;> simp_all
theorem getD_cut {P S T : List Int} {i j : Nat} (hP : P.length = i) (hj : j < S.length) : (P ++ S ++ T).getD (i + j) 0 = S.getD j 0 := by
 subst hP
 rw [List.append_assoc, List.getD_eq_getElem?_getD, List.getElem?_append_right (by omega), Nat.add_sub_cancel_left, List.getElem?_append_left hj, <- List.getD_eq_getElem?_getD]
theorem set_cut {P S T : List Int} {i j : Nat} (hP : P.length = i) (hj : j < S.length) (d : Int) : (P ++ S ++ T).set (i + j) d = P ++ S.set j d ++ T := by
 subst hP
 rw [List.append_assoc, List.set_append_right _ _ (by omega), Nat.add_sub_cancel_left, List.set_append_left _ _ hj, List.append_assoc]
section
variable {e : TypeId} {k : IntKind} {B : Nat} {w w' : World} {g n c : Nat} {P S T : List Int}
theorem Own.cut (h : Own e k B w (some ⟨g, 0, none⟩) n c (P ++ S ++ T)) {i l c' : Nat} (hP : P.length = i) (hS : S.length = l) (hc : l <= c') (hc2 : c' <= 9223372036854775807) : Lst k w (some ⟨g, i, none⟩) l c' S := by
 have hl := h.len
 simp only [List.length_append] at hl
 refine ⟨hS, hc, hc2, fun _ => ⟨_, rfl⟩, fun j hj => ?_, fun x hx => h.2 x (by simp [hx])⟩
 have := h.lst.cell (i + j) (by omega)
 rw [pt_own, getD_cut hP (by omega)] at this
 rw [pt_at]
 exact this
theorem Own.cutSet (h : Own e k B w (some ⟨g, 0, none⟩) n c (P ++ S ++ T)) {i j : Nat} (hP : P.length = i) (hj : j < S.length) {d : Int} (hd : (Lit.int k d).wf = true) :
    Own e k B (w.setCell (pt (some ⟨g, i, none⟩) j) (.int k d)) (some ⟨g, 0, none⟩) n c (P ++ S.set j d ++ T) := by
 have hl := h.len
 simp only [List.length_append] at hl
 have := h.set (i := i + j) (by omega) hd
 rw [pt_own, set_cut hP hj] at this
 rw [pt_at]
 exact this
theorem Own.cutFrozen (h : Own e k B w (some ⟨g, 0, none⟩) n c (P ++ S ++ T)) {i j : Nat} (hP : P.length = i) (hj : j < S.length) : w.frozen? (pt (some ⟨g, i, none⟩) j) = false := by
 have hl := h.len
 simp only [List.length_append] at hl
 have := h.frozen (i := i + j) (by omega)
 rw [pt_own] at this
 rw [pt_at]
 exact this
theorem Own.blkLt (h : Own e k B w (some ⟨g, 0, none⟩) n c P) : B <= g /\ g < w.heap.size := by
 rcases h.cases with ⟨h0, _⟩ | ⟨q, hq, h1, h2, _⟩
 . cases h0
 . simp only [Option.some.injEq, Addr.mk.injEq, and_true] at hq
   subst hq
   exact ⟨h1, h2⟩
theorem Own.grownSome (h : Own e k B w (some ⟨g, 0, none⟩) n c P) (i j : Nat) (u : Value) : w.grownBy (w.setCell (pt (some ⟨g, i, none⟩) j) u) (some g) := by
 rw [pt_at]
 exact (h.1.stored (i + j) u).2
theorem Own.grown {ao : Option Addr} {row : Option Nat} (h : Own e k B w ao n c P) (hg : w.grownBy w' row) (hne : ∀ a, ao = some a -> row ≠ some a.block) : Own e k B w' ao n c P := by
 refine ⟨h.1.kept hg ?_, h.2⟩
 rcases h.cases with ⟨rfl, rfl, rfl, rfl⟩ | ⟨q, rfl, _⟩
 . exact Or.inl rfl
 . exact Or.inr (fun e => hne _ rfl e.symm)
end
section
variable {k : IntKind} {w w' : World} {bo : Option Addr} {m d : Nat} {ys : List Int}
theorem Lst.apart (h : Lst k w bo m d ys) {p : Addr} (hne : ∀ i, i < m -> (pt bo i).block ≠ p.block) (u : Value) : Lst k (w.setCell p u) bo m d ys :=
 ⟨h.len, h.cap, h.room, h.isSome, fun i hi => by
  rw [World.cell?_setCell_other w p (pt bo i) u (fun e => hne i hi (by rw [<- e]))]
  exact h.cell i hi, h.wf⟩
theorem Lst.grown {row : Option Nat} (h : Lst k w bo m d ys) (hg : w.grownBy w' row) (hne : ∀ i, i < m -> some (pt bo i).block ≠ row) : Lst k w' bo m d ys :=
 ⟨h.len, h.cap, h.room, h.isSome, fun i hi => hg.cell (h.cell i hi) (hne i hi), h.wf⟩
end
end Go.Proofs.YtemdkkphmldgjaaGreatDoor.Q
/-
  nat.shiftLeft, nat.shiftRight.
-/
namespace Go.Proofs.YtemdkkphmldgjaaGreatDoor.Q
open Go.RowKit NatMath
theorem shiftLeft_c (ao : Option Addr) (n c s : Nat) (xs : List Int) (w : World) (h : Lst .u32 w ao n c xs) (hn : n <= 1073741824) (hs : s < 32) :
    Calls Tryz.prog 253 #[.slice ao n c, .int .i64 s] w fun e w' => ∃ D, e = .returned (.slice (some ⟨w.heap.size, 0, none⟩) (n + 1) (n + 1)) /\ Own 144 .u32 w.heap.size w' (some ⟨w.heap.size, 0, none⟩) (n + 1) (n + 1) D /\ val D = val xs * 2 ^ s /\ Below w.heap.size w w' := by
 obtain ⟨i0, hi, hz0, hz1, hz2⟩ := info_parts info60
 have hlen := Lib.hid h.len
 have hok := Lib.hid h.ok
 have hlow := Lib.hid h.block
 have hr := h.room
 have hc := h.cap
 have hs0 : decide ((s : Int) < 0) = false := by simp
 go_enter Tryz.func253, Tryz.ntmps253
 go_wp2_with (at_make; refine wpList_make_full _ rfl _ _ 30 rfl w.heap.size 144 i0 (.int .u32 0) 1 Tryz.underlying30 hi hz0 hz1 _ _ _ _ (n + 1) rfl rfl (by omega) (by omega) ?b2 ?b3 (Nat.le_refl _) ?_)
 case b2 => rw [hz2]; omega
 case b3 => unfold maxLen; omega
 intro w1 hown hgr
 have b1 : Below w.heap.size w w1 := below_grown_none (Below.refl _ _) hgr (Nat.le_refl _)
 have o1 : Own 144 .u32 w.heap.size w1 (some ⟨w.heap.size, 0, none⟩) (n + 1) (n + 1) (List.replicate (xs.length + 1) 0) := by
  rw [hlen.out]
  exact Own.made (wf_u32 (by omega) (by omega)) hown
 have hst := ShlInv.start xs s
 have ha := h.below b1
 clear hown hgr h
 go_wp2_with fail
 go_loopw [15] (fun i wr => ∃ (t : Nat) (D : List Int), t <= n /\ i = .int .i64 t /\ ShlInv xs D s t /\ Own 144 .u32 w.heap.size wr (some ⟨w.heap.size, 0, none⟩) (n + 1) (n + 1) D /\ Lst .u32 wr ao n c xs /\ Below w.heap.size w wr)
   (fun i _ => n - (intOf i).toNat)
 case atStart => exact ⟨0, _, Nat.zero_le _, rfl, hst, o1, ha, b1⟩
 case round =>
  obtain ⟨t, D, ht, rfl, hinv, ho, ha, hb⟩ := hrel
  clear hst o1 b1
  by_cases hlt : t < n
  . have hia := ix ha t hlt
    obtain ⟨x, HX, hx0, hx1, hcx⟩ := ha.at t hlt
    obtain ⟨X, rfl⟩ := Int.eq_ofNat_of_zero_le hx0
    have hip := ix ho.lst t (by omega)
    obtain ⟨y, HY, hy0, hy1, hcy⟩ := ho.lst.at t (by omega)
    obtain ⟨Y, rfl⟩ := Int.eq_ofNat_of_zero_le hy0
    have hip2 := ix ho.lst (t + 1) (by omega)
    rw [show ((t + 1 : Nat) : Int) = (t : Int) + 1 from by omega] at hip2
    have hfz := ho.frozen (i := t) (by omega)
    have hbd := shl_bound (show X <= 4294967295 by omega) hs
    have eW : ((X * 2 ^ s : Nat) : Int) = (X : Int) * 2 ^ s := by simp
    have hq0 : (0 : Int) <= (X : Int) * 2 ^ s := by rw [<- eW]; omega
    have hq1 : (X : Int) * 2 ^ s <= 9223372036854775807 := by rw [<- eW]; omega
    have e1 : ((Y ||| X * 2 ^ s % 4294967296 : Nat) : Int) = bits .or .u32 (Y : Int) ((X : Int) * 2 ^ s % 4294967296) := by
     rw [<- eW, show ((X * 2 ^ s : Nat) : Int) % 4294967296 = ((X * 2 ^ s % 4294967296 : Nat) : Int) by omega]
     exact (u32_or_nat Y (X * 2 ^ s % 4294967296) (by omega) (by omega)).symm
    have e2 : ((X * 2 ^ s / 4294967296 : Nat) : Int) = (X : Int) * 2 ^ s / 4294967296 := by rw [<- eW]; omega
    have hst := hinv.step hs (by rw [hlen.out]; exact hlt) hok.out HX.out HY.out
    have hk1 := hst.ok.getD (t + 1)
    have hk0 := hst.ok.getD t
    have hlD := hinv.len
    rw [NatMath.getD_set_self (by rw [List.length_set, hlD, hlen.out]; omega)] at hk1
    rw [NatMath.getD_set_ne (by omega), NatMath.getD_set_self (by rw [hlD, hlen.out]; omega)] at hk0
    rw [e1, e2] at hst
    rw [e1] at hk0
    rw [e2] at hk1
    have hw1 : (Lit.int .u32 (bits .or .u32 (Y : Int) ((X : Int) * 2 ^ s % 4294967296))).wf = true := wf_u32 hk0.1 hk0.2
    have hw2 : (Lit.int .u32 ((X : Int) * 2 ^ s / 4294967296)).wf = true := wf_u32 hk1.1 hk1.2
    have q1 := ho.set (i := t) (by omega) hw1
    have q2 := q1.set (i := t + 1) (by omega) hw2
    have hfz2 := q1.frozen (i := t + 1) (by omega)
    obtain ⟨z, _, _, _, hcz⟩ := q1.lst.at (t + 1) (by omega)
    have hB1 := ho.base (i := t) (by omega)
    have hB2 := ho.base (i := t + 1) (by omega)
    have g1 := ha.stored hlow.out hB1 (.int .u32 (bits .or .u32 (Y : Int) ((X : Int) * 2 ^ s % 4294967296)))
    have g2 := g1.stored hlow.out hB2 (.int .u32 ((X : Int) * 2 ^ s / 4294967296))
    have f2 := (hb.setCell hB1 (.int .u32 (bits .or .u32 (Y : Int) ((X : Int) * 2 ^ s % 4294967296)))).setCell hB2 (.int .u32 ((X : Int) * 2 ^ s / 4294967296))
    have R1 := Lib.hid hst; have R2 := Lib.hid q2; have R3 := Lib.hid g2; have R4 := Lib.hid f2
    clear e1 e2 hst hk1 hk0 hlD hw1 hw2 q1 q2 hB1 hB2 g1 g2 f2 hinv ho ha hb eW
    go_wp2_with fail
    go_roundw
    case rel => exact ⟨t + 1, _, by omega, by go_num, R1.out, R2.out, R3.out, R4.out⟩
    case measure => simp [intOf]; omega
  . obtain rfl : t = n := by omega
    rw [<- hlen.out] at hinv
    have hv := Lib.hid hinv.done
    clear hinv
    go_wp2_with fail
    go_ret
    exact ⟨D, rfl, ho, hv.out, hb⟩
theorem shiftRight_c (ao : Option Addr) (n c s : Nat) (xs : List Int) (w : World) (h : Lst .u32 w ao n c xs) (hn : n <= 1073741824) (hs : s < 32) :
    Calls Tryz.prog 255 #[.slice ao n c, .int .i64 s] w fun e w' => ∃ ao' n' c', n' <= n /\ e = .returned (.slice ao' n' c') /\ Own 144 .u32 w.heap.size w' ao' n' c' (limbs (val xs / 2 ^ s)) /\ Below w.heap.size w w' := by
 obtain ⟨i0, hi, hz0, hz1, hz2⟩ := info_parts info60
 have hlen := Lib.hid h.len
 have hok := Lib.hid h.ok
 have hlow := Lib.hid h.block
 have hr := h.room
 have hc := h.cap
 have hs0 : decide ((s : Int) < 0) = false := by simp
 go_enter Tryz.func255, Tryz.ntmps255
 go_wp2_with (at_make; refine wpList_make_full _ rfl _ _ 30 rfl w.heap.size 144 i0 (.int .u32 0) 1 Tryz.underlying30 hi hz0 hz1 _ _ _ _ n rfl rfl (by omega) (by omega) ?b2 ?b3 (Nat.le_refl _) ?_)
 case b2 => rw [hz2]; omega
 case b3 => unfold maxLen; omega
 intro w1 hown hgr
 have b1 : Below w.heap.size w w1 := below_grown_none (Below.refl _ _) hgr (Nat.le_refl _)
 have o1 : Own 144 .u32 w.heap.size w1 (some ⟨w.heap.size, 0, none⟩) n n (List.replicate xs.length 0) := by
  rw [hlen.out]
  exact Own.made (wf_u32 (by omega) (by omega)) hown
 have hst := ShrInv.start xs s
 rw [hlen.out] at hst
 have ha := h.below b1
 have hlen' := hlen
 rw [hlen.out] at o1
 clear hown hgr h
 go_wp2_with fail
 go_loopw [6, 7] (fun ab i wr => ∃ (j A : Nat) (D : List Int), j <= n /\ i = .int .i64 ((j : Int) - 1) /\ ab = .int .u32 A /\ A <= 4294967295 /\ ShrInv xs D s A j /\ Own 144 .u32 w.heap.size wr (some ⟨w.heap.size, 0, none⟩) n n D /\ Lst .u32 wr ao n c xs /\ Below w.heap.size w wr)
   (fun _ i _ => (intOf i + 1).toNat)
 case atStart => exact ⟨n, 0, _, Nat.le_refl _, rfl, rfl, by omega, hst, o1, ha, b1⟩
 case round =>
  obtain ⟨j, A, D, hj, rfl, rfl, hA, hinv, ho, ha, hb⟩ := hrel
  clear hst o1 b1
  by_cases hlt : 0 < j
  . obtain ⟨t, rfl⟩ : ∃ t, j = t + 1 := ⟨j - 1, by omega⟩
    have hia := ix ha t (by omega)
    obtain ⟨x, HX, hx0, hx1, hcx⟩ := ha.at t (by omega)
    obtain ⟨X, rfl⟩ := Int.eq_ofNat_of_zero_le hx0
    have hip := ix ho.lst t (by omega)
    obtain ⟨y, _, _, _, hcy⟩ := ho.lst.at t (by omega)
    have hfz := ho.frozen (i := t) (by omega)
    have e0 : ((t + 1 : Nat) : Int) - 1 = (t : Int) := by omega
    have eo := or_u64 (A : Int) (X : Int) (by omega) (by omega) hx0 hx1
    have e1 : (((A * 4294967296 + X) / 2 ^ s % 4294967296 : Nat) : Int) = ((A : Int) * 4294967296 + (X : Int)) / 2 ^ s % 4294967296 := by simp
    have hst := hinv.step hs (by rw [hlen.out]; omega) hok.out HX.out
    rw [e1] at hst
    have hk := Nat.mod_lt ((A * 4294967296 + X) / 2 ^ s) (show 0 < 4294967296 by omega)
    have hw1 : (Lit.int .u32 (((A : Int) * 4294967296 + (X : Int)) / 2 ^ s % 4294967296)).wf = true := wf_u32 (by omega) (by omega)
    have hB1 := ho.base (i := t) (by omega)
    have q1 := ho.set (i := t) (by omega) hw1
    have g1 := ha.stored hlow.out hB1 (.int .u32 (((A : Int) * 4294967296 + (X : Int)) / 2 ^ s % 4294967296))
    have f1 := hb.setCell hB1 (.int .u32 (((A : Int) * 4294967296 + (X : Int)) / 2 ^ s % 4294967296))
    have R1 := Lib.hid hst; have R2 := Lib.hid q1; have R3 := Lib.hid g1; have R4 := Lib.hid f1
    rw [e0]
    clear e1 hst hk hw1 q1 hB1 g1 f1 hinv ho ha hb e0
    go_wp2_with fail
    go_region_law (fail)
    all_goals
      go_wp2_with fail
      go_roundw
      case rel => exact ⟨t, X, _, by omega, rfl, rfl, by omega, R1.out, R2.out.drewN 1, R3.out.drewN 1, R4.out.drew⟩
      case measure => simp [intOf] <;> omega
  . obtain rfl : j = 0 := by omega
    have hv := Lib.hid hinv.done
    clear hinv
    go_wp2_with fail
    refine (trim_c _ _ _ D _ ho.lst).mono ?_
    rintro e w' ⟨rfl, a2, n2, c2, rfl, k2, kh2⟩
    go_wp2_with fail
    go_ret
    have hlen2 := k2.len
    have hle2 := limbs_val_length ho.lst.ok
    rw [hlen2, ho.len] at hle2
    refine ⟨a2, n2, c2, hle2, rfl, ?_, hb⟩
    rw [<- hv.out, limbs_take ho.lst.ok, hlen2]
    exact ho.head kh2 hle2
end Go.Proofs.YtemdkkphmldgjaaGreatDoor.Q
/-
  nat.estimate, nat.subtractProduct, nat.addBack, nat.divideStep.
-/
namespace Go.Proofs.YtemdkkphmldgjaaGreatDoor.Q
open Go.RowKit NatMath
theorem ddx (w : World) (a b : Nat) : ∃ q, w.drewN q = (w.drewN a).drewN b := dd w a b
theorem ixs {ao : Option Addr} {n c : Nat} {xs : List Int} {w : World} (h : Lst .u32 w ao n c xs) {i : Nat} (hi : i < n) {j : Int} (hj : j = (i : Int)) :
    ∀ W, (Instr.indexAt 30 (.slice ao n c) (.int .i64 j)).run Tryz.prog W = .ok (.pointer (some (pt ao i))) W := by
 rw [hj]; exact ix h i hi
theorem estimate_c (a b : Option Addr) (c d : Nat) (r0 r1 r2 v0 v1 : Nat) (w : World) (h : Lst .u32 w a 3 c [(r0 : Int), r1, r2]) (k : Lst .u32 w b 2 d [(v0 : Int), v1]) (hv : 0 < v1) (hrv : r2 <= v1) :
    Calls Tryz.prog 264 #[.slice a 3 c, .slice b 2 d] w fun e w' => e = .returned (.int .u32 (qhat ((r2 * 4294967296 + r1) * 4294967296 + r0) (v1 * 4294967296 + v0) : Nat)) /\ ∃ q, w.drewN q = w' := by
 have b0 := h.ok (r0 : Int) (by simp)
 have b1 := h.ok (r1 : Int) (by simp)
 have b2 := h.ok (r2 : Int) (by simp)
 have d0 := k.ok (v0 : Int) (by simp)
 have d1 := k.ok (v1 : Int) (by simp)
 have i2 := ixs h (show 2 < 3 by omega) (show (2 : Int) = ((2 : Nat) : Int) by rfl)
 have i1 := ixs h (show 1 < 3 by omega) (show (1 : Int) = ((1 : Nat) : Int) by rfl)
 have i0 := ixs h (show 0 < 3 by omega) (show (0 : Int) = ((0 : Nat) : Int) by rfl)
 have j1 := ixs k (show 1 < 2 by omega) (show (1 : Int) = ((1 : Nat) : Int) by rfl)
 have j0 := ixs k (show 0 < 2 by omega) (show (0 : Int) = ((0 : Nat) : Int) by rfl)
 have c2 : w.cell? (pt a 2) = some (.int .u32 (r2 : Int)) := h.cell 2 (by omega)
 have c1 : w.cell? (pt a 1) = some (.int .u32 (r1 : Int)) := h.cell 1 (by omega)
 have c0 : w.cell? (pt a 0) = some (.int .u32 (r0 : Int)) := h.cell 0 (by omega)
 have e1 : w.cell? (pt b 1) = some (.int .u32 (v1 : Int)) := k.cell 1 (by omega)
 have e0 : w.cell? (pt b 0) = some (.int .u32 (v0 : Int)) := k.cell 0 (by omega)
 have or1 := or_u64 (r2 : Int) (r1 : Int) (by omega) (by omega) (by omega) (by omega)
 have hz : ((v1 : Int) == 0) = false := by simp; omega
 obtain ⟨hi, hhi⟩ : ∃ x, Hid (x = r2 * 4294967296 + r1) := ⟨_, rfl⟩
 have hHi : hi <= v1 * 4294967296 + 4294967295 := by
  rw [hhi.out]
  clear or1 hhi i2 i1 i0 j1 j0
  omega
 have hHb : hi <= 18446744073709551615 := by rw [hhi.out]; omega
 have hst := Lib.hid (EstInv.start (r0 := r0) (high := hi) (v1 := v1) (v0 := v0) (by omega) hv (by omega))
 have eD : Hid (((hi / v1 : Nat) : Int) = ((r2 : Int) * 4294967296 + (r1 : Int)) / (v1 : Int)) := by show _ = _; rw [hhi.out]; simp
 have eM : Hid (((hi % v1 : Nat) : Int) = ((r2 : Int) * 4294967296 + (r1 : Int)) % (v1 : Int)) := by show _ = _; rw [hhi.out]; simp
 rw [<- hhi.out]
 obtain ⟨Q, hQ⟩ : ∃ x, Hid (x = qhat (hi * 4294967296 + r0) (v1 * 4294967296 + v0)) := ⟨_, rfl⟩
 rw [<- hQ.out]
 go_enter Tryz.func264, Tryz.ntmps264
 go_wp2_with fail
 go_quiet (fail)
 go_wp2_with fail
 go_quiet (fail)
 go_wp2_with fail
 go_loopw [7, 8] (fun s7 s8 wr => ∃ g l : Nat, s7 = .int .u64 g /\ s8 = .int .u64 l /\ EstInv r0 hi v1 v0 g l /\ ∃ q, w.drewN q = wr) (fun s7 _ _ => (intOf s7).toNat)
 case atStart => exact ⟨hi / v1, hi % v1, by rw [eD.out], by rw [eM.out], hst.out, ddx _ _ _⟩
 case round =>
  obtain ⟨g, l, rfl, rfl, hinv, q, rfl⟩ := hrel
  clear hst eD eM
  have hgb : g <= 18446744073709551615 := by
   have h1 := hinv.eq
   have h2 := Nat.le_mul_of_pos_right g hv
   omega
  have hlb := hinv.left
  have or2 := or_u64 (l : Int) (r0 : Int) (by omega) (by omega) (by omega) (by omega)
  by_cases hA : 4294967295 < g
  . have hg0 : ((g : Int) / 4294967296 != 0) = true := by simp; omega
    have hm : 4294967295 < g \/ g * v0 > l * 4294967296 + r0 := Or.inl hA
    by_cases hl : l + v1 <= 4294967295
    . have hl0 : (((l : Int) + (v1 : Int)) / 4294967296 == 0) = true := by simp; omega
      have R1 := Lib.hid (hinv.next hv hm hl)
      clear hinv hm
      go_wp2_with fail
      go_quiet (fail)
      go_wp2_with fail
      go_roundw
      case rel => exact ⟨g - 1, l + v1, by go_num, by go_num, R1.out, ⟨_, rfl⟩⟩
      case measure => simp [intOf] <;> omega
    . have hl0 : (((l : Int) + (v1 : Int)) / 4294967296 == 0) = false := by simp; omega
      have hbk := hinv.break hv (by omega) hHi hm (by omega)
      have hfin := hbk.2
      have hg1 := hbk.1
      have HF := Lib.hid hfin
      clear hinv hm hfin hbk
      go_wp2_with fail
      go_quiet (fail)
      go_wp2_with fail
      go_ret
      refine ⟨?_, _, rfl⟩
      rw [hQ.out, <- HF.out]
      go_num
  . have hg0 : ((g : Int) / 4294967296 != 0) = false := by simp; omega
    have hpb := Nat.mul_le_mul (show g <= 4294967295 by omega) (show v0 <= 4294967295 by omega)
    have eP : ((g * v0 : Nat) : Int) = (g : Int) * (v0 : Int) := by simp
    have hq0 : (0 : Int) <= (g : Int) * (v0 : Int) := by rw [<- eP]; omega
    have hq1 : (g : Int) * (v0 : Int) <= 18446744065119617025 := by rw [<- eP]; omega
    by_cases hB : g * v0 > l * 4294967296 + r0
    . have hgt : decide ((l : Int) * 4294967296 + (r0 : Int) < (g : Int) * (v0 : Int)) = true := by rw [<- eP]; simp; omega
      have hm : 4294967295 < g \/ g * v0 > l * 4294967296 + r0 := Or.inr hB
      have hgp := (hinv.down hv hm).1
      clear hB eP
      by_cases hl : l + v1 <= 4294967295
      . have hl0 : (((l : Int) + (v1 : Int)) / 4294967296 == 0) = true := by simp; omega
        have R1 := Lib.hid (hinv.next hv hm hl)
        clear hinv hm
        go_wp2_with fail
        go_quiet (fail)
        go_wp2_with fail
        go_roundw
        case rel => exact ⟨g - 1, l + v1, by go_num, by go_num, R1.out, ⟨_, rfl⟩⟩
        case measure => simp [intOf] <;> omega
      . have hl0 : (((l : Int) + (v1 : Int)) / 4294967296 == 0) = false := by simp; omega
        have hbk := hinv.break hv (by omega) hHi hm (by omega)
        have hfin := hbk.2
        have hg1 := hbk.1
        have HF := Lib.hid hfin
        clear hinv hm hfin hbk
        go_wp2_with fail
        go_quiet (fail)
        go_wp2_with fail
        go_ret
        refine ⟨?_, _, rfl⟩
        rw [hQ.out, <- HF.out]
        go_num
    . have hgt : decide ((l : Int) * 4294967296 + (r0 : Int) < (g : Int) * (v0 : Int)) = false := by rw [<- eP]; simp; omega
      have hfin := hinv.done hv (by omega) hB
      have HF := Lib.hid hfin
      clear hinv hfin hB eP
      go_wp2_with fail
      go_quiet (fail)
      go_wp2_with fail
      go_ret
      refine ⟨?_, _, rfl⟩
      rw [hQ.out, <- HF.out]
      go_num
end Go.Proofs.YtemdkkphmldgjaaGreatDoor.Q
/-
  nat.subtractProduct, nat.addBack.
-/
namespace Go.Proofs.YtemdkkphmldgjaaGreatDoor.Q
open Go.RowKit NatMath
theorem subProd_c (B g n c i l cc : Nat) (bo : Option Addr) (m d f : Nat) (P S T M : List Int) (w : World)
    (h : Own 144 .u32 B w (some ⟨g, 0, none⟩) n c (P ++ S ++ T)) (hP : P.length = i) (hS : S.length = l) (hlm : l = m + 1) (hcc : l <= cc) (hcc2 : cc <= 9223372036854775807)
    (k : Lst .u32 w bo m d M) (hne : ∀ j, j < m -> (pt bo j).block ≠ g) (hf : f <= 4294967295) (hm : m <= 1073741824) :
    Calls Tryz.prog 265 #[.slice (some ⟨g, i, none⟩) l cc, .slice bo m d, .int .u32 f] w fun e w' => ∃ (S' : List Int) (b : Bool) (z : Nat), e = .returned (.bool b) /\ z <= 1 /\ b = decide (z = 1) /\ Own 144 .u32 B w' (some ⟨g, 0, none⟩) n c (P ++ S' ++ T) /\ S'.length = l /\ val S' + val M * f = val S + z * 4294967296 ^ l /\ w.grownBy w' (some g) := by
 have hlS := Lib.hid hS
 have hlM := Lib.hid k.len
 have hMok := Lib.hid k.ok
 have hPi := Lib.hid hP
 have hNE := Lib.hid hne
 have hr := k.room
 have hc := k.cap
 have okS : Ok S := fun x hx => h.lst.ok x (by simp [hx])
 have hst := SmInv.start M okS f
 have HLM := Lib.hid hlm
 have hml : m < l := by omega
 clear okS hP hS hne hlm
 go_enter Tryz.func265, Tryz.ntmps265
 go_wp2_with fail
 go_loopw [7, 8, 14] (fun s7 s8 i14 wr => ∃ (j cy : Nat) (b : Int) (D : List Int), j <= m /\ i14 = .int .i64 j /\ s7 = .int .u64 cy /\ s8 = .int .u32 b /\ SmInv M S D f cy b j /\ Own 144 .u32 B wr (some ⟨g, 0, none⟩) n c (P ++ D ++ T) /\ Lst .u32 wr bo m d M /\ w.grownBy wr (some g))
   (fun _ _ i _ => m - (intOf i).toNat)
 case atStart => exact ⟨0, 0, 0, S, Nat.zero_le _, rfl, rfl, rfl, hst, h, k, World.grownBy.refl _ _⟩
 case round =>
  obtain ⟨j, cy, b, D, hj, rfl, rfl, rfl, hinv, ho, hk, hg⟩ := hrel
  clear hst h k
  have hb0 := hinv.b0
  have hb1 := hinv.b1
  have hcy := hinv.cy1
  have hDl := hinv.len
  rw [hlS.out] at hDl
  have HD := Lib.hid hDl
  have hcut := ho.cut (l := l) (c' := cc) hPi.out hDl hcc hcc2
  have HNE : ∀ t, ∀ t', t' < m -> (pt bo t').block ≠ (pt (some ⟨g, i, none⟩) t).block := fun t t' ht' => by rw [pt_at]; exact hNE.out t' ht'
  by_cases hlt : j < m
  . have hib := ix hk j hlt
    obtain ⟨y, HY, hy0, hy1, hcy2⟩ := hk.at j hlt
    obtain ⟨Y, rfl⟩ := Int.eq_ofNat_of_zero_le hy0
    have hia := ix hcut j (by omega)
    obtain ⟨x, HX, hx0, hx1, hcx⟩ := hcut.at j (by omega)
    have hfz := ho.cutFrozen hPi.out (j := j) (by omega)
    have hpb := sm_bound hf (show Y <= 4294967295 by omega) hcy
    have eP : ((f * Y : Nat) : Int) = (f : Int) * (Y : Int) := by simp
    have hq0 : (0 : Int) <= (f : Int) * (Y : Int) := by rw [<- eP]; omega
    have hq1 : (f : Int) * (Y : Int) <= 18446744065119617025 := by rw [<- eP]; omega
    have eM : (((cy + f * Y) % 4294967296 : Nat) : Int) = ((cy : Int) + (f : Int) * (Y : Int)) % 4294967296 := by simp
    have eQ : (((cy + f * Y) / 4294967296 : Nat) : Int) = ((cy : Int) + (f : Int) * (Y : Int)) / 4294967296 := by simp
    have hs := hinv.step (by rw [hlS.out]; omega) HX.out HY.out (by omega) hf (b' := brw x (((cy + f * Y) % 4294967296 : Nat) : Int) b) rfl
    have hwf : (Lit.int .u32 ((x - (((cy + f * Y) % 4294967296 : Nat) : Int) - b) % 4294967296)).wf = true := wf_u32 (by omega) (by omega)
    have q1 := ho.cutSet hPi.out (j := j) (by omega) hwf
    have q2 := hk.apart (HNE j) (.int .u32 ((x - (((cy + f * Y) % 4294967296 : Nat) : Int) - b) % 4294967296))
    have q3 := grown_trans hg (ho.grownSome i j (.int .u32 ((x - (((cy + f * Y) % 4294967296 : Nat) : Int) - b) % 4294967296)))
    have hm0 : 0 <= ((cy : Int) + (f : Int) * (Y : Int)) % 4294967296 := by omega
    have hm1 : ((cy : Int) + (f : Int) * (Y : Int)) % 4294967296 <= 4294967295 := by omega
    rw [eM] at hs q1 q2 q3
    rw [pt_at] at hia hcx hfz q1 q2 q3
    have R1 := Lib.hid hs; have R2 := Lib.hid q1; have R3 := Lib.hid q2; have R4 := Lib.hid q3; have EQ := Lib.hid eQ
    clear hs hwf q1 q2 q3 eM eQ eP hpb HNE hinv ho hk hg hcut
    go_wp2_with (go_at_call 213; refine (sub32_c _ _ _ _ (by omega) (by omega) (by omega) (by omega) (by omega) (by omega)).mono ?_; rintro e w' ⟨rfl, rfl⟩)
    go_roundw
    case rel => exact ⟨j + 1, (cy + f * Y) / 4294967296, _, _, by omega, by go_num, by rw [EQ.out], rfl, R1.out, R2.out, R3.out, R4.out⟩
    case measure => simp [intOf] <;> omega
  . obtain rfl : j = m := by omega
    have hia := ix hcut j (by omega)
    obtain ⟨x, HX, hx0, hx1, hcx⟩ := hcut.at j (by omega)
    have hfz := ho.cutFrozen hPi.out (j := j) (by omega)
    have hs := hinv.last hlM.out (by rw [hlS.out]; exact HLM.out) HX.out (b' := brw x (cy : Int) b) rfl
    have hwf : (Lit.int .u32 ((x - (cy : Int) - b) % 4294967296)).wf = true := wf_u32 (by omega) (by omega)
    have q1 := ho.cutSet hPi.out (j := j) (by omega) hwf
    have q3 := grown_trans hg (ho.grownSome i j (.int .u32 ((x - (cy : Int) - b) % 4294967296)))
    have ec : (cy : Int) % 4294967296 = (cy : Int) := by omega
    obtain ⟨z, hz⟩ := Int.eq_ofNat_of_zero_le (brw_01 x cy b).1
    have hz1 := (brw_01 x cy b).2
    rw [hz, Int.toNat_natCast] at hs
    rw [pt_at] at hia hcx hfz q1 q3
    rw [hz] at hz1
    have R1 := Lib.hid hs.1; have R2 := Lib.hid q1; have R4 := Lib.hid q3; have HZ := Lib.hid hz
    clear hs hwf q1 q3 HNE hinv ho hk hg hcut hz
    go_wp2_with (go_at_call 213; refine (sub32_c _ _ _ _ (by omega) (by omega) (by omega) (by omega) (by omega) (by omega)).mono ?_; rintro e w' ⟨rfl, rfl⟩; rw [HZ.out])
    go_ret
    have hl2 : (D.set j ((x - (cy : Int) - b) % 4294967296)).length = l := by rw [List.length_set, HD.out]
    have r1 := R1.out
    rw [<- HLM.out] at r1
    refine ⟨_, ((z : Int) != 0), z, rfl, by omega, ?_, R2.out, hl2, r1, R4.out⟩
    have : z = 0 \/ z = 1 := by omega
    rcases this with rfl | rfl <;> rfl
theorem addBack_c (B g n c i l cc : Nat) (bo : Option Addr) (m d : Nat) (P S T M : List Int) (w : World)
    (h : Own 144 .u32 B w (some ⟨g, 0, none⟩) n c (P ++ S ++ T)) (hP : P.length = i) (hS : S.length = l) (hlm : l = m + 1) (hcc : l <= cc) (hcc2 : cc <= 9223372036854775807)
    (k : Lst .u32 w bo m d M) (hne : ∀ j, j < m -> (pt bo j).block ≠ g) (hm : m <= 1073741824) :
    Calls Tryz.prog 266 #[.slice (some ⟨g, i, none⟩) l cc, .slice bo m d] w fun e w' => ∃ (v : Value) (S' : List Int) (z : Nat), e = .returned v /\ Own 144 .u32 B w' (some ⟨g, 0, none⟩) n c (P ++ S' ++ T) /\ S'.length = l /\ val S' + z * 4294967296 ^ l = val S + val M /\ w.grownBy w' (some g) := by
 have hlS := Lib.hid hS
 have hlM := Lib.hid k.len
 have hMok := Lib.hid k.ok
 have hPi := Lib.hid hP
 have hNE := Lib.hid hne
 have hr := k.room
 have hc := k.cap
 have okS : Ok S := fun x hx => h.lst.ok x (by simp [hx])
 have hst := AbInv.start M okS
 have HLM := Lib.hid hlm
 have hml : m < l := by omega
 clear okS hP hS hne hlm
 go_enter Tryz.func266, Tryz.ntmps266
 go_wp2_with fail
 go_loopw [4, 9] (fun s4 i9 wr => ∃ (j : Nat) (b : Int) (D : List Int), j <= m /\ i9 = .int .i64 j /\ s4 = .int .u32 b /\ AbInv M S D b j /\ Own 144 .u32 B wr (some ⟨g, 0, none⟩) n c (P ++ D ++ T) /\ Lst .u32 wr bo m d M /\ w.grownBy wr (some g))
   (fun _ i _ => m - (intOf i).toNat)
 case atStart => exact ⟨0, 0, S, Nat.zero_le _, rfl, rfl, hst, h, k, World.grownBy.refl _ _⟩
 case round =>
  obtain ⟨j, b, D, hj, rfl, rfl, hinv, ho, hk, hg⟩ := hrel
  clear hst h k
  have hb0 := hinv.c0
  have hb1 := hinv.c1
  have hDl := hinv.len
  rw [hlS.out] at hDl
  have HD := Lib.hid hDl
  have hcut := ho.cut (l := l) (c' := cc) hPi.out hDl hcc hcc2
  have HNE : ∀ t, ∀ t', t' < m -> (pt bo t').block ≠ (pt (some ⟨g, i, none⟩) t).block := fun t t' ht' => by rw [pt_at]; exact hNE.out t' ht'
  by_cases hlt : j < m
  . have hib := ix hk j hlt
    obtain ⟨y, HY, hy0, hy1, hcy2⟩ := hk.at j hlt
    have hia := ix hcut j (by omega)
    obtain ⟨x, HX, hx0, hx1, hcx⟩ := hcut.at j (by omega)
    have hfz := ho.cutFrozen hPi.out (j := j) (by omega)
    have hs := hinv.step hMok.out (by rw [hlS.out]; omega) HX.out HY.out
    have hwf : (Lit.int .u32 ((x + y + b) % 4294967296)).wf = true := wf_u32 (by omega) (by omega)
    have q1 := ho.cutSet hPi.out (j := j) (by omega) hwf
    have q2 := hk.apart (HNE j) (.int .u32 ((x + y + b) % 4294967296))
    have q3 := grown_trans hg (ho.grownSome i j (.int .u32 ((x + y + b) % 4294967296)))
    rw [pt_at] at hia hcx hfz q1 q2 q3
    have R1 := Lib.hid hs; have R2 := Lib.hid q1; have R3 := Lib.hid q2; have R4 := Lib.hid q3
    clear hs hwf q1 q2 q3 HNE hinv ho hk hg hcut
    go_wp2_with (go_at_call 212; refine (add32_c _ _ _ _ (by omega) (by omega) (by omega) (by omega) (by omega) (by omega)).mono ?_; rintro e w' ⟨rfl, rfl⟩)
    go_roundw
    case rel => exact ⟨j + 1, _, _, by omega, by go_num, rfl, R1.out, R2.out, R3.out, R4.out⟩
    case measure => simp [intOf] <;> omega
  . obtain rfl : j = m := by omega
    have hia := ix hcut j (by omega)
    obtain ⟨x, HX, hx0, hx1, hcx⟩ := hcut.at j (by omega)
    have hfz := ho.cutFrozen hPi.out (j := j) (by omega)
    obtain ⟨z, hs⟩ := hinv.last hlM.out (by rw [hlS.out]; exact HLM.out) HX.out
    have hwf : (Lit.int .u32 ((x + b) % 4294967296)).wf = true := wf_u32 (by omega) (by omega)
    have q1 := ho.cutSet hPi.out (j := j) (by omega) hwf
    have q3 := grown_trans hg (ho.grownSome i j (.int .u32 ((x + b) % 4294967296)))
    rw [pt_at] at hia hcx hfz q1 q3
    have R1 := Lib.hid hs.1; have R2 := Lib.hid q1; have R4 := Lib.hid q3
    clear hs hwf q1 q3 HNE hinv ho hk hg hcut
    go_wp2_with fail
    go_end0
    have hl2 : (D.set j ((x + b) % 4294967296)).length = l := by rw [List.length_set, HD.out]
    have r1 := R1.out
    rw [<- HLM.out] at r1
    exact ⟨_, _, z, rfl, R2.out, hl2, r1, R4.out⟩
end Go.Proofs.YtemdkkphmldgjaaGreatDoor.Q
/-
  nat.divideStep.
-/
namespace Go.Proofs.YtemdkkphmldgjaaGreatDoor.Q
open Go.RowKit NatMath
theorem Lst.from {k : IntKind} {w : World} {g i m d : Nat} {ys : List Int} (h : Lst k w (some ⟨g, i, none⟩) m d ys) {j m' d' : Nat} (hj : j <= m) (hm : m' = m - j) (hd : d' = d - j) : Lst k w (some ⟨g, i + j, none⟩) m' d' (ys.drop j) := by
 have hl := h.len
 have hc := h.cap
 have hr := h.room
 refine ⟨by rw [List.length_drop]; omega, by omega, by omega, fun _ => ⟨_, rfl⟩, fun t ht => ?_, fun x hx => h.wf x (List.mem_of_mem_drop hx)⟩
 have := h.cell (j + t) (by omega)
 rw [pt_at] at this |-
 rw [Nat.add_assoc, this]
 simp [List.getD]
theorem drop3 {S : List Int} {k : Nat} (h : S.length = k + 3) : S.drop k = [S.getD k 0, S.getD (k + 1) 0, S.getD (k + 2) 0] := by
 rw [drop_getD (by omega), drop_getD (by omega), drop_getD (by omega), List.drop_of_length_le (by omega)]
theorem drop2 {S : List Int} {k : Nat} (h : S.length = k + 2) : S.drop k = [S.getD k 0, S.getD (k + 1) 0] := by
 rw [drop_getD (by omega), drop_getD (by omega), List.drop_of_length_le (by omega)]
theorem getD_nat {S : List Int} (h : Ok S) (i : Nat) : ∃ x : Nat, (x : Int) = S.getD i 0 := ⟨(S.getD i 0).toNat, Int.toNat_of_nonneg (h.getD i).1⟩
theorem divideStep_c (B g g2 n c i cc t d : Nat) (P S T M : List Int) (w : World)
    (h : Own 144 .u32 B w (some ⟨g, 0, none⟩) n c (P ++ S ++ T)) (hP : P.length = i) (hS : S.length = t + 3) (hcc : t + 3 <= cc) (hcc2 : cc <= 9223372036854775807)
    (k : Lst .u32 w (some ⟨g2, 0, none⟩) (t + 2) d M) (hne : g2 ≠ g) (hm : t <= 1073741820) (hd : 2147483648 * 4294967296 ^ (t + 1) <= val M) (hlt : val S < 4294967296 * val M) :
    Calls Tryz.prog 254 #[.slice (some ⟨g, i, none⟩) (t + 3) cc, .slice (some ⟨g2, 0, none⟩) (t + 2) d] w fun e w' => ∃ S', e = .returned (.int .u32 (val S / val M : Nat)) /\ val S / val M <= 4294967295 /\ Own 144 .u32 B w' (some ⟨g, 0, none⟩) n c (P ++ S' ++ T) /\ S'.length = t + 3 /\ val S' = val S % val M /\ w.grownBy w' (some g) := by
 have hlM := k.len
 have hMok := k.ok
 have hr := k.room
 have hc := k.cap
 have okS : Ok S := fun x hx => h.lst.ok x (by simp [hx])
 obtain ⟨r0, h0⟩ := getD_nat okS t
 obtain ⟨r1, h1⟩ := getD_nat okS (t + 1)
 obtain ⟨r2, h2⟩ := getD_nat okS (t + 2)
 obtain ⟨v0, g0⟩ := getD_nat hMok t
 obtain ⟨v1, g1⟩ := getD_nat hMok (t + 1)
 have hv1 := top_ge hMok hlM g1 hd
 have hest := digit_est okS hMok hS hlM h0 h1 h2 g0 g1 hv1 hlt
 have hcut := h.cut (l := t + 3) (c' := cc) hP hS hcc hcc2
 have f1 := hcut.from (j := t) (m' := 3) (d' := cc - t) (by omega) (by omega) rfl
 have f2 := k.from (j := t) (m' := 2) (d' := d - t) (by omega) (by omega) rfl
 rw [drop3 hS, <- h0, <- h1, <- h2] at f1
 rw [drop2 hlM, <- g0, <- g1] at f2
 have hE := Lib.hid (fun q => estimate_c _ _ _ _ r0 r1 r2 v0 v1 (w.drewN q) (f1.drewN q) (f2.drewN q) (by omega) hest.1)
 rw [Nat.zero_add] at hE
 obtain ⟨Q, hQ⟩ : ∃ x, Hid (x = qhat ((r2 * 4294967296 + r1) * 4294967296 + r0) (v1 * 4294967296 + v0)) := ⟨_, rfl⟩
 rw [<- hQ.out] at hE hest
 have HEST := Lib.hid hest.2
 have H := Lib.hid h
 have K := Lib.hid k
 have HHS := Lib.hid hS; have HHM := Lib.hid hlM; have HLT := Lib.hid hlt
 clear hest f1 f2 hcut h0 h1 h2 g0 g1 hv1 h k hS hlM hlt hd okS hMok
 go_enter Tryz.func254, Tryz.ntmps254
 go_wp2_with fail
 go_quiet ((go_at_call 264; exact quiet_draw (hE.out _)))
 have hQ1 : Q <= 4294967295 := by rw [hQ.out]; exact Nat.min_le_right ..
 have hNE : ∀ j, j < t + 2 -> (pt (some ⟨g2, 0, none⟩) j).block ≠ g := fun j _ => by rw [pt_at]; exact hne
 have hsp := subProd_c B g n c i (t + 3) cc (some ⟨g2, 0, none⟩) (t + 2) d Q P S T M (w.drewN nq) (H.out.drewN nq) hP HHS.out rfl hcc hcc2 (K.out.drewN nq) hNE hQ1 (by omega)
 have HSP := Lib.hid hsp
 clear hsp hE
 go_wp2_with fail
 refine HSP.out.mono ?_
 rintro e w1 ⟨S1, b, z, rfl, hz, rfl, o1, hl1, he1, gr1⟩
 have ok1 : Ok S1 := fun x hx => o1.lst.ok x (by simp [hx])
 have hlt1 := val_lt ok1
 rw [hl1] at hlt1
 have hV : 0 < val M := by
  rcases Nat.eq_zero_or_pos (val M) with h | h
  . have := HLT.out; rw [h] at this; omega
  . exact h
 have hst := step_low HEST.out.1 HEST.out.2 he1 hlt1 hz hV
 have hgr : w.grownBy w1 (some g) := grown_trans (grown_drewN (World.grownBy.refl w (some g)) nq) gr1
 have hVP : val M <= 4294967296 ^ (t + 3) := by
  have a := val_lt K.out.ok
  rw [HHM.out, ] at a
  have b : 4294967296 ^ (t + 2) <= 4294967296 ^ (t + 3) := Nat.pow_le_pow_right (by omega) (by omega)
  omega
 rcases (show z = 0 \/ z = 1 by omega) with rfl | rfl
 . have h0 := hst.1 rfl
   have hd0 : decide ((0 : Nat) = 1) = false := by decide
   have F1 := Lib.hid h0.1; have F2 := Lib.hid h0.2; have O1 := Lib.hid o1; have L1 := Lib.hid hl1; have G := Lib.hid hgr
   clear h0 hst o1 hl1 he1 hlt1 ok1 hgr gr1 hVP HSP
   go_wp2_with fail
   go_ret
   exact ⟨S1, by rw [<- F1.out]; rfl, by rw [<- F1.out]; exact hQ1, O1.out, L1.out, F2.out, G.out⟩
 . have h1 := hst.2 rfl
   have hd0 : decide ((1 : Nat) = 1) = true := by decide
   have hab := addBack_c B g n c i (t + 3) cc (some ⟨g2, 0, none⟩) (t + 2) d P S1 T M w1 o1 hP hl1 rfl hcc hcc2 (K.out.grown hgr (fun j hj => by rw [pt_at]; simpa using hne)) hNE (by omega)
   have hQ0 : 0 < Q := by rw [h1.1]; exact Nat.succ_pos _
   have F1 := Lib.hid h1.1; have F2 := Lib.hid h1.2; have G := Lib.hid hgr; have AB := Lib.hid hab
   have VP := Lib.hid hVP; have LT1 := Lib.hid hlt1
   clear h1 hst o1 hl1 he1 hlt1 ok1 hgr gr1 hVP HSP hab
   go_wp2_with fail
   refine AB.out.mono ?_
   rintro e w2 ⟨v, S2, z2, rfl, o2, hl2, he2, gr2⟩
   have ok2 : Ok S2 := fun x hx => o2.lst.ok x (by simp [hx])
   have hlt2 := val_lt ok2
   rw [hl2] at hlt2
   have hb := step_back F2.out he2 hlt2 VP.out hV LT1.out
   have O2 := Lib.hid o2; have L2 := Lib.hid hl2; have HB := Lib.hid hb; have G2 := Lib.hid (grown_trans G.out gr2)
   clear o2 hl2 he2 ok2 hlt2 hb gr2 AB
   go_wp2_with fail
   go_ret
   have e1 : val S / val M = Q - 1 := by have := F1.out; omega
   refine ⟨S2, ?_, by omega, O2.out, L2.out, HB.out, G2.out⟩
   rw [e1]
   go_num
end Go.Proofs.YtemdkkphmldgjaaGreatDoor.Q
/-
  nat.divideLong.
-/
namespace Go.Proofs.YtemdkkphmldgjaaGreatDoor.Q
open Go.RowKit NatMath
theorem shift_facts {V t : Nat} (hl : (limbs V).length = t + 2) : ∃ s : Nat, s < 32 /\ (s : Int) = 32 - (Lib.bitLen ((limbs V).getD (t + 1) 0).toNat : Int) /\ 2147483648 * 4294967296 ^ (t + 1) <= V * 2 ^ s /\ V * 2 ^ s < 4294967296 ^ (t + 2) := by
 have hok := limbs_ok V
 obtain ⟨x, hx⟩ := getD_nat hok (t + 1)
 have hb := hok.getD (t + 1)
 rw [<- hx] at hb
 rw [<- hx, Int.toNat_natCast]
 have hx0 : x ≠ 0 := by
  intro h0
  have hn := limbs_nf V
  apply hn
  rw [List.getLast?_eq_getElem?, hl, show t + 2 - 1 = t + 1 by omega, List.getElem?_eq_getElem (by omega)]
  have : (limbs V)[t + 1] = (limbs V).getD (t + 1) 0 := by simp [List.getD, show t + 1 < (limbs V).length by omega]
  rw [this, <- hx, h0]
  rfl
 obtain ⟨h1, h2, h3⟩ := Lib.bitLenAux_bounds 64 x (by omega) hx0
 obtain ⟨k, hk⟩ : ∃ k, Lib.bitLenAux 64 x = k + 1 := ⟨Lib.bitLenAux 64 x - 1, by omega⟩
 have e : Lib.bitLen x = k + 1 := hk
 rw [hk] at h2 h3
 rw [Nat.add_sub_cancel] at h2
 have hk32 : k < 32 := by
  rcases Nat.lt_or_ge k 32 with h | h
  . exact h
  . have : 2 ^ 32 <= 2 ^ k := Nat.pow_le_pow_right (by omega) h
    omega
 have hs := NatMath.bitLen_shift h2 h3 hk32
 refine ⟨31 - k, by omega, by rw [e]; omega, ?_⟩
 exact top_shift (m := t + 1) hl hx hs.1 hs.2.1 hs.2.2
theorem divideLong_c (ao bo : Option Addr) (n c t d A V : Nat) (w : World) (h : Lst .u32 w ao n c (limbs A)) (k : Lst .u32 w bo (t + 2) d (limbs V)) (hn : n <= 1073741820) (hle : V <= A) :
    Calls Tryz.prog 232 #[.slice ao n c, .slice bo (t + 2) d] w fun e w' => ∃ ao' n' c' bo' m' d', e = .returned (.tuple #[.slice ao' n' c', .slice bo' m' d']) /\ n' <= n /\ m' <= t + 2 /\ Own 144 .u32 w.heap.size w' ao' n' c' (limbs (A / V)) /\ Own 144 .u32 w.heap.size w' bo' m' d' (limbs (A % V)) /\ Below w.heap.size w w' := by
 obtain ⟨i0, hi, hz0, hz1, hz2⟩ := info_parts info60
 have hlA := h.len
 have hlV := k.len
 have htn : t + 2 <= n := by rw [<- hlA, <- hlV]; exact limbs_len_mono hle
 obtain ⟨s, hs, hse, hV0, hV1⟩ := shift_facts hlV
 have hr := k.room
 have hc := k.cap
 have hr2 := h.room
 have hc2 := h.cap
 have hib := ixs k (show t + 1 < t + 2 by omega) (show (t : Int) + 2 - 1 = ((t + 1 : Nat) : Int) by omega)
 obtain ⟨x, HX, hx0, hx1, hcx⟩ := k.at (t + 1) (by omega)
 rw [<- HX.out] at hse
 have HL := Lib.hid (Tryz.bits_LeadingZeros32 x w hx0 hx1)
 rw [<- hse] at HL
 have HV0 := Lib.hid hV0; have HV1 := Lib.hid hV1
 have HLA := Lib.hid hlA; have HLV := Lib.hid hlV; have HLE := Lib.hid hle
 clear hV0 hV1 hlA hlV hse hle
 go_enter Tryz.func232, Tryz.ntmps232
 go_wp2_with fail
 refine HL.out.mono ?_
 rintro e w' ⟨rfl, rfl⟩
 go_wp2_with fail
 have H1 := Lib.hid (h.drewN 1)
 have K1 := Lib.hid (k.drewN 1)
 clear h k hcx hib
 have hsl : (0 : Int) <= (t : Int) + 2 /\ (t : Int) + 2 <= (t : Int) + 2 + 1 := by omega
 go_region_held3 (fun _ => True) (trivial) (first
   | (go_at_call_of 253 (Value.slice ao n c); refine (shiftLeft_c _ _ _ s _ _ H1.out (by omega) hs).mono ?_; rintro e w1 ⟨D0, rfl, o1, hv1, b1⟩)
   | (go_at_call 253; refine (shiftLeft_c _ _ _ s _ _ (K1.out.below b1) (by omega) hs).mono ?_; rintro e w2 ⟨M0, rfl, o2, hv2, b2⟩))
 have o1' : Own 144 .u32 w'.heap.size w1 (some ⟨w'.heap.size, 0, none⟩) (n + 1) (n + 1) D0 := o1
 have b1' : Below w'.heap.size w' w1 := ⟨b1.os, b1.tape, b1.output, b1.size, b1.block⟩
 rw [val_limbs] at hv1 hv2
 have g01 := o1'.blkLt.2
 have g12 := o2.blkLt.2
 have o1w := o1'.kept (b2.mono (Nat.le_refl _))
 have b2' : Below w'.heap.size w' w2 := b1'.trans (b2.mono (by omega))
 have hMl := Lib.hid o2.len
 have lM : Lst .u32 w2 (some ⟨w1.heap.size, 0, none⟩) (t + 2) (t + 2 + 1) (M0.take (t + 2)) := o2.lst.take (by omega)
 have hvM : val (M0.take (t + 2)) = V * 2 ^ s := by
  rw [<- hv2]
  exact (val_take_lt (by rw [hMl.out]; omega) (by rw [hv2]; exact HV1.out)).1
 obtain ⟨M, hM⟩ : ∃ M, Hid (M = M0.take (t + 2)) := ⟨_, rfl⟩
 rw [<- hM.out] at lM hvM
 have HVM := Lib.hid hvM
 obtain ⟨N, hN⟩ : ∃ N, N = n - t - 1 := ⟨_, rfl⟩
 have hNi : (n : Int) + 1 - ((t : Int) + 2) = (N : Int) := by omega
 have hNb : N <= n := by omega
 have HD0 := Lib.hid hv1
 have HNN := Lib.hid hN
 have HN1 : Hid (N + t + 1 = n) := by show N + t + 1 = n; omega
 clear o1 b1 hv1 hv2 hvM o2 o1' b1' b2 hN
 go_wp2_with (at_make; refine wpList_make_full _ rfl _ _ 30 rfl w'.heap.size 144 i0 (.int .u32 0) 1 Tryz.underlying30 hi hz0 hz1 _ _ _ _ N rfl rfl (by omega) (by omega) ?b2 ?b3 (by omega) ?_)
 case b2 => rw [hz2]; omega
 case b3 => unfold maxLen; omega
 intro w3 hown hgr
 have o3 : Own 144 .u32 w'.heap.size w3 (some ⟨w2.heap.size, 0, none⟩) N N (List.replicate N 0) := Own.made (wf_u32 (by omega) (by omega)) hown
 have b3 : Below w'.heap.size w' w3 := b2'.grown hgr (by omega) (fun k hk => by cases hk)
 have oD := o1w.grown hgr (fun a ha => by simp)
 have lM3 := lM.grown hgr (fun i hi => by simp)
 have hDl := Lib.hid oD.len
 have hst : LongInv (A * 2 ^ s) (V * 2 ^ s) D0 (List.replicate N 0) (n + 1 - (t + 2)) :=
  long_start oD.lst.ok oD.len HD0.out (by have := val_lt (limbs_ok A); rw [val_limbs, HLA.out] at this; exact this) hs (by omega) (by omega) (by simpa using HV0.out) _ (by rw [List.length_replicate]; omega) (Ok.zeros _)
 rw [show n + 1 - (t + 2) = N by omega] at hst
 have HG12 := Lib.hid g12
 have HG01 := Lib.hid g01
 clear hown hgr o1w b2' lM g12 g01
 go_wp2_with fail
 go_loopw [9] (fun i9 wr => ∃ (j : Nat) (D Q : List Int), j <= N /\ i9 = .int .i64 ((j : Int) - 1) /\ LongInv (A * 2 ^ s) (V * 2 ^ s) D Q j /\ Own 144 .u32 w'.heap.size wr (some ⟨w'.heap.size, 0, none⟩) (n + 1) (n + 1) D /\ Own 144 .u32 w'.heap.size wr (some ⟨w2.heap.size, 0, none⟩) N N Q /\ Lst .u32 wr (some ⟨w1.heap.size, 0, none⟩) (t + 2) (t + 2 + 1) M /\ Below w'.heap.size w' wr)
   (fun i _ => (intOf i + 1).toNat)
 case atStart => exact ⟨N, D0, _, Nat.le_refl _, rfl, hst, oD, o3, lM3, b3⟩
 case round =>
  obtain ⟨j, D, Q, hj, rfl, hinv, oD', oQ, lM', bb⟩ := hrel
  clear hst oD o3 lM3 b3
  by_cases hlt : 0 < j
  . obtain ⟨u, rfl⟩ : ∃ u, j = u + 1 := ⟨j - 1, by omega⟩
    have hDl' := oD'.len
    have hQl := oQ.len
    obtain ⟨P, hP⟩ : ∃ P, P = D.take u := ⟨_, rfl⟩
    obtain ⟨S, hS⟩ : ∃ S, S = (D.drop u).take (t + 3) := ⟨_, rfl⟩
    obtain ⟨T, hT⟩ : ∃ T, T = (D.drop u).drop (t + 3) := ⟨_, rfl⟩
    have hD : D = P ++ S ++ T := by rw [hP, hS, hT, List.append_assoc, List.take_append_drop, List.take_append_drop]
    have hPl : P.length = u := by rw [hP, List.length_take]; omega
    have hN1 := HN1.out
    have hSl : S.length = t + 3 := by rw [hS, List.length_take, List.length_drop]; omega
    have hST : D.drop u = S ++ T := by rw [hS, hT, List.take_append_drop]
    rw [hD, List.append_assoc] at hinv
    have hbd := hinv.bound hPl
    have okST : Ok (S ++ T) := fun y hy => hinv.okD y (List.mem_append.2 (Or.inr hy))
    have hV1 := HV1.out
    have hsplit := val_take_lt (D := S ++ T) (m := t + 3) (by rw [List.length_append]; omega) (by rw [show t + 3 = (t + 2) + 1 by omega, Nat.pow_succ]; omega)
    rw [List.take_left' hSl, List.drop_left' hSl] at hsplit
    have oD2 := oD'
    rw [hD] at oD2
    have e0 : ((u + 1 : Nat) : Int) - 1 = (u : Int) := by omega
    have hsl1 : (0 : Int) <= (u : Int) /\ (u : Int) <= (u : Int) + ((t : Int) + 2) + 1 /\ (u : Int) + ((t : Int) + 2) + 1 <= (n : Int) + 1 := by omega
    have hun : u + t + 3 <= n + 1 := by omega
    have HQL := Lib.hid hQl
    rw [e0]
    clear e0
    go_wp2_with fail
    rw [show ((u : Int) + max ((t : Int) + 2) 0 + 1).toNat - u = t + 3 by omega]
    have hcall := divideStep_c w'.heap.size w'.heap.size w1.heap.size (n + 1) (n + 1) u (n + 1 - u) t (t + 2 + 1) P S T M wr oD2 hPl hSl (by omega) (by omega) lM' (by have := HG01.out; omega) (by omega) (by rw [HVM.out]; exact HV0.out) (by rw [HVM.out, hsplit.1]; exact hbd)
    rw [HVM.out] at hcall
    have HC := Lib.hid hcall
    clear hcall
    refine HC.out.mono ?_
    rintro e w4 ⟨S', rfl, hdig, o4, hl4, hv4, gr4⟩
    have okS' : Ok (S' ++ T) := by
     have := o4.lst.ok
     rw [List.append_assoc] at this
     exact fun y hy => this y (List.mem_append.2 (Or.inr hy))
    have hvST : val (S' ++ T) = val (S ++ T) % (V * 2 ^ s) := by
     rw [val_append, hsplit.2, Nat.mul_zero, Nat.add_zero, hv4, hsplit.1]
    have hV0' : 0 < V * 2 ^ s := by
     rcases Nat.eq_zero_or_pos (V * 2 ^ s) with h | h
     . rw [h] at hbd; omega
     . exact h
    obtain ⟨q, hq⟩ : ∃ q, q = val S / (V * 2 ^ s) := ⟨_, rfl⟩
    rw [<- hq] at hdig
    have hstep := hinv.step hPl (by rw [HQL.out]; omega) hV0' okS' hvST (d := q) (by rw [hq, hsplit.1]) hdig
    rw [<- List.append_assoc] at hstep
    have oQ4 := oQ.grown gr4 (fun a ha => by cases ha; have := HG12.out; have := HG01.out; simp; omega)
    have lM4 := lM'.grown gr4 (fun i hi => by rw [pt_at]; have := HG01.out; simp; omega)
    have bb4 := bb.grown gr4 bb.size (fun k hk => by cases hk; exact Nat.le_refl _)
    have hia := ix oQ4.lst u (by omega)
    obtain ⟨z, _, _, _, hcz⟩ := oQ4.lst.at u (by omega)
    have hfz := oQ4.frozen (i := u) (by omega)
    have hwf : (Lit.int .u32 (q : Int)).wf = true := wf_u32 (by omega) (by omega)
    have r1 := oQ4.set (i := u) (by omega) hwf
    have hQb := oQ4.setOnly (i := u) (by omega) (.int .u32 (q : Int))
    have r2 := o4.grown hQb (fun a ha => by cases ha; have := HG12.out; have := HG01.out; simp [Value.ownBlock]; omega)
    have r3 := lM4.grown hQb (fun i hi => by rw [pt_at]; have := HG12.out; simp [Value.ownBlock]; omega)
    have r4 := bb4.setCell (oQ4.base (i := u) (by omega)) (.int .u32 (q : Int))
    rw [pt_own] at hia hcz hfz r1 r2 r3 r4
    have R0 := Lib.hid hstep; have R1 := Lib.hid r1; have R2 := Lib.hid r2; have R3 := Lib.hid r3; have R4 := Lib.hid r4
    rw [<- hq]
    clear hstep r1 r2 r3 r4 hQb hwf bb4 lM4 oQ4 hvST okS' hv4 hl4 o4 hinv oD' oD2 oQ lM' bb hbd okST hV1 hsplit hD hST hP hS hT HC hq
    go_wp2_with fail
    go_roundw
    case rel => exact ⟨u, _, _, by omega, rfl, R0.out, R2.out, R1.out, R3.out, R4.out⟩
    case measure => simp [intOf] <;> omega
  . obtain rfl : j = 0 := by omega
    have hdone := hinv.done
    have hDl' := oD'.len
    have hmx : max ((t : Int) + 2) 0 = (t : Int) + 2 := by omega
    have hsl2 : (0 : Int) <= (t : Int) + 2 /\ (t : Int) + 2 <= (n : Int) + 1 := by omega
    have hDt := val_take_lt (D := D) (m := t + 2) (by omega) (by rw [hdone.2]; exact Nat.lt_trans (Nat.mod_lt _ (by have := hinv.lt; omega)) HV1.out)
    have hs2 : 0 < 2 ^ s := Nat.pow_pos (by omega)
    rw [hdone.2, Nat.mul_mod_mul_right] at hDt
    have hq := hdone.1
    rw [Nat.mul_div_mul_right _ _ hs2] at hq
    have hrv : val (D.take (t + 2)) / 2 ^ s = A % V := by rw [hDt.1, Nat.mul_div_cancel _ hs2]
    have OQ := Lib.hid (oQ.drewN 1)
    have LR := Lib.hid ((oD'.drewN 1).lst.take (show t + 2 <= n + 1 by omega))
    have BB := Lib.hid (below_drewN bb 1)
    have HQ := Lib.hid hq; have HR := Lib.hid hrv
    clear hdone hDt hq hrv hinv oD' oQ lM' bb
    go_wp2_with fail
    go_region_held3 (fun _ => True) (trivial) (first
      | (go_at_call 200; refine (trim_c _ _ _ Q _ OQ.out.lst).mono ?_; rintro e w' ⟨rfl, a2, n2, c2, rfl, k2, kh2⟩)
      | (go_at_call 255; refine (shiftRight_c _ _ _ s _ _ LR.out (by omega) hs).mono ?_; rintro e w5 ⟨a5, n5, c5, hn5, rfl, o5, b5⟩))
    go_wp2_with fail
    go_ret2
    have hlen2 := k2.len
    have hle2 := limbs_val_length OQ.out.lst.ok
    rw [hlen2, OQ.out.len] at hle2
    have oq : Own 144 .u32 w'.heap.size (wr.drewN 1) a2 n2 c2 (Q.take n2) := OQ.out.head kh2 hle2
    rw [<- hlen2, <- limbs_take OQ.out.lst.ok, HQ.out] at oq
    rw [HR.out] at o5
    have hsz := BB.out.size
    refine ⟨a2, n2, c2, a5, n5, c5, rfl, by omega, hn5, ?_, ?_, BB.out.trans (b5.mono hsz)⟩
    . rw [<- hlen2, HQ.out]
      exact oq.kept b5
    . exact ⟨⟨o5.1.1, by
       rcases o5.1.2 with h | ⟨q, cap, cur, h1, h2, h3⟩
       . exact Or.inl h
       . exact Or.inr ⟨q, cap, cur, h1, Nat.le_trans hsz h2, h3⟩⟩, o5.2⟩
end Go.Proofs.YtemdkkphmldgjaaGreatDoor.Q
/-
  nat.Div.
-/
namespace Go.Proofs.YtemdkkphmldgjaaGreatDoor.Q
open Go.RowKit NatMath
theorem Own.low {e : TypeId} {k : IntKind} {B B' : Nat} {w : World} {ao : Option Addr} {n c : Nat} {xs : List Int} (h : Own e k B w ao n c xs) (hB : B' <= B) : Own e k B' w ao n c xs := ⟨ownsRow_low h.1 hB, h.2⟩
theorem limbs_single {v : Nat} (h : (limbs v).length = 1) : limbs v = [(v : Int)] /\ v <= 4294967295 /\ v ≠ 0 := by
 have h0 : v ≠ 0 := by
  intro h0; subst h0; rw [limbs_zero] at h; simp at h
 have h1 := val_lt (limbs_ok v)
 rw [val_limbs, h] at h1
 refine ⟨?_, by omega, h0⟩
 rw [limbs_pos h0, show v / 4294967296 = 0 by omega, limbs_zero, show v % 4294967296 = v by omega]
theorem div_c (ao bo : Option Addr) (n c m d : Nat) (xs ys : List Int) (w : World) (h : Lst .u32 w ao n c xs) (k : Lst .u32 w bo m d ys) (hn : n <= 1073741820) (hy : val ys ≠ 0) :
    Calls Tryz.prog 195 #[.slice ao n c, .slice bo m d] w fun e w' => ∃ ao' n' c' bo' m' d', e = .returned (.tuple #[.slice ao' n' c', .slice bo' m' d', .bool true]) /\ Own 144 .u32 w.heap.size w' ao' n' c' (limbs (val xs / val ys)) /\ Own 144 .u32 w.heap.size w' bo' m' d' (limbs (val xs % val ys)) /\ Below w.heap.size w w' := by
 obtain ⟨A, hA⟩ : ∃ A, Hid (A = val xs) := ⟨_, rfl⟩
 obtain ⟨V, hV⟩ : ∃ V, Hid (V = val ys) := ⟨_, rfl⟩
 have hlx := limbs_val_length h.ok
 rw [h.len] at hlx
 have htr := trim_c bo m d ys w k
 have HN := Lib.hid (fun q => norm_c ao n c xs (w.drewN q) (h.drewN q) (by omega))
 have HTX := Lib.hid (fun q => trim_c ao n c xs (w.drewN q) (h.drewN q))
 have hcm := fun (b1 : Option Addr) (m1 d1 : Nat) (k1 : Lst .u32 w b1 m1 d1 (limbs V)) => cmp_c ao b1 n c m1 d1 xs (limbs V) w h k1
 rw [<- hV.out] at htr hy |-
 rw [<- hA.out] at HN HTX hlx hcm |-
 have HTR := Lib.hid htr
 have hr := h.room
 have hc := h.cap
 clear k htr
 go_enter Tryz.func195, Tryz.ntmps195
 go_wp2_with fail
 refine HTR.out.mono ?_
 rintro e w' ⟨rfl, b1, m1, d1, rfl, k1, -⟩
 have hm0 : 0 < m1 := by
  rw [<- k1.len]
  rw [limbs_pos hy]; simp
 have hz : ((m1 : Int) == 0) = false := by simp; omega
 have hcm := hcm b1 m1 d1 k1
 rw [val_limbs] at hcm
 have HC := Lib.hid hcm
 clear hcm HTR h
 have HLX := Lib.hid hlx
 clear hlx
 rcases Nat.lt_or_ge A V with hlt | hge
 . have hcv : cmpI (A : Int) (V : Int) = -1 := by unfold cmpI; rw [if_pos (by omega)]
   rw [hcv] at HC
   have HQ := Lib.hid (Nat.div_eq_of_lt hlt)
   have HR := Lib.hid (Nat.mod_eq_of_lt hlt)
   clear hcv hlt
   go_wp2_with fail
   refine HC.out.mono ?_
   rintro e w' ⟨rfl, q, rfl⟩
   go_wp2_with fail
   refine (HN.out q).mono ?_
   rintro e w1 ⟨a1, n1, c1, hn1, rfl, o1, b1⟩
   go_wp2_with fail
   go_ret3
   refine ⟨none, 0, 0, a1, n1, c1, rfl, ?_, ?_, (below_drewN (Below.refl _ _) q).trans b1⟩
   . rw [HQ.out, limbs_zero]; exact ⟨World.ownsRow_nil _ _ _ _, fun _ hx => by cases hx⟩
   . rw [HR.out]; exact o1
 . have hcv : 0 <= cmpI (A : Int) (V : Int) := by unfold cmpI; rw [if_neg (by omega)]; split <;> omega
   obtain ⟨g, hg⟩ : ∃ g, Hid (g = cmpI (A : Int) (V : Int)) := ⟨_, rfl⟩
   rw [<- hg.out] at HC hcv
   have hgd : decide (g < 0) = false := by simpa using hcv
   have HGE := Lib.hid hge
   have HY := Lib.hid hy
   have hlm := Lib.hid k1.len
   clear hge hy
   by_cases hm1 : m1 = 1
   . subst hm1
     have hs := limbs_single hlm.out
     have hv1 := hs.2.1
     rw [hs.1] at k1
     have HS := Lib.hid hs.2
     clear hs
     have hr1 := k1.room
     have hc1 := k1.cap
     have K := Lib.hid k1
     clear k1
     go_wp2_with fail
     refine HC.out.mono ?_
     rintro e w' ⟨rfl, q, rfl⟩
     go_wp2_with fail
     refine (HN.out q).mono ?_
     rintro e w1 ⟨a1, n1, c1, hn1, rfl, o1, bb1⟩
     have B1 : Below w.heap.size w w1 := (below_drewN (Below.refl _ _) q).trans bb1
     have k2 := ((K.out.drewN q).below bb1)
     have hi0 := ixs k2 (show 0 < 1 by omega) (show (0 : Int) = ((0 : Nat) : Int) by rfl)
     have hc0 : w1.cell? (pt b1 0) = some (.int .u32 (V : Int)) := k2.cell 0 (by omega)
     have o1' : Own 144 .u32 w.heap.size w1 a1 n1 c1 (limbs A) := o1
     have hw := divideByWord_c w.heap.size a1 n1 c1 (limbs A) V w1 o1' (by have := HS.out.2; omega) hv1
     rw [val_limbs] at hw
     have HW := Lib.hid hw
     have O1 := Lib.hid o1'
     clear hw o1 o1' bb1 k2 HN HC
     go_wp2_with fail
     refine HW.out.mono ?_
     rintro e w2 ⟨Z, rfl, o2, hv2, gr2⟩
     have B2 : Below w.heap.size w w2 := B1.grown gr2 B1.size (fun k hk => by
      rcases O1.out.cases with ⟨rfl, rfl, rfl, _⟩ | ⟨g', rfl, hg', _⟩
      . cases hk
      . simp only [Value.ownBlock, Option.some.injEq] at hk; omega)
     have hml : A % V <= 4294967295 := by
      have := Nat.mod_lt A (show 0 < V by have := HS.out.2; omega)
      omega
     obtain ⟨R, hR⟩ : ∃ R, R = A % V := ⟨_, rfl⟩
     have HRR := Lib.hid hR
     rw [<- hR] at hml |-
     have O2 := Lib.hid o2
     have HV2 := Lib.hid hv2
     clear hR o2 hv2 HW O1 B1 hc0 hi0 gr2
     go_wp2_with fail
     refine (trim_c _ _ _ Z _ O2.out.lst).mono ?_
     rintro e w' ⟨rfl, a3, n3, c3, rfl, k3, kh3⟩
     have hlen3 := k3.len
     have hle3 := limbs_val_length O2.out.lst.ok
     rw [hlen3, O2.out.len] at hle3
     have oq : Own 144 .u32 w.heap.size w2 a3 n3 c3 (Z.take n3) := O2.out.head kh3 hle3
     rw [<- hlen3, <- limbs_take O2.out.lst.ok, HV2.out] at oq
     have OQ := Lib.hid oq
     clear oq k3 kh3 hle3
     go_wp2_with fail
     refine (of_c (R : Int) _ (by omega) (by omega)).mono ?_
     rintro e w5 ⟨a5, n5, c5, _, rfl, o5, b5⟩
     go_wp2_with fail
     go_ret3
     refine ⟨a3, n3, c3, a5, n5, c5, rfl, ?_, ?_, B2.trans (b5.mono B2.size)⟩
     . rw [<- hlen3, HV2.out]; exact OQ.out.kept b5
     . rw [<- HRR.out]; rw [Int.toNat_natCast] at o5; exact o5.low B2.size
   . obtain ⟨t, rfl⟩ : ∃ t, m1 = t + 2 := ⟨m1 - 2, by omega⟩
     have hz1 : (((t + 2 : Nat) : Int) == 1) = false := by simp; omega
     have K := Lib.hid k1
     clear k1 hcm
     go_wp2_with fail
     refine HC.out.mono ?_
     rintro e w' ⟨rfl, q, rfl⟩
     go_wp2_with fail
     refine (HTX.out q).mono ?_
     rintro e w' ⟨rfl, a1, n1, c1, rfl, h1, -⟩
     have hl1 := h1.len
     have HL := Lib.hid (divideLong_c _ _ _ _ _ _ A V _ h1 (K.out.drewN q) (by have := HLX.out; omega) HGE.out)
     clear h1 hl1
     go_wp2_with fail
     refine HL.out.mono ?_
     rintro e w3 ⟨a3, n3, c3, b3, m3, d3, rfl, _, _, o3, o4, bb3⟩
     go_wp2_with fail
     go_ret3
     exact ⟨a3, n3, c3, b3, m3, d3, rfl, o3, o4, (below_drewN (Below.refl _ _) q).trans bb3⟩
end Go.Proofs.YtemdkkphmldgjaaGreatDoor.Q
