/-
  DiskOwn.
-/
import Derived.Test.YtbnomkcliejcaaaDskOps
namespace Go.Proofs.Ytbnomkcliejcaaa
open Go.RowKit Ds
attribute [local go_sem] Oper.semAt_some
set_option linter.unusedSimpArgs false

namespace Ds
def own1 (B : List Int) : Dk := ⟨[pad B, zeroS], [some zeroS, none], false, 0, false⟩
theorem own1_write {B : List Int} (h : B.length ≤ 64) : (blank 2).write 0 B = (0, own1 B) := by
  unfold Dk.write
  rw [if_neg (by decide), if_pos (by decide), if_pos h]
  rfl
def own2 (B : List Int) (keep : Bool) : Dk := fresh [if keep then pad B else zeroS, zeroS]
theorem own2_crash (B : List Int) (keep : Bool) : (own1 B).crash [keep] = own2 B keep := by
  cases keep <;> rfl
theorem own3_out (B : List Int) (keep : Bool) : ((own2 B keep).write 1 [122]).1 = 0 := by cases keep <;> rfl
theorem own3_at (B : List Int) (keep : Bool) : ((own2 B keep).write 1 [122]).2.cur.getD 0 [] = if keep then pad B else zeroS := by cases keep <;> rfl
theorem own3_dead (B : List Int) (keep : Bool) : ((own2 B keep).write 1 [122]).2.dead = false := by cases keep <;> rfl
theorem own4_out (B : List Int) : ((own1 B).write 0 [111, 116, 104, 101, 114]).1 = 0 := rfl
theorem own4_at (B : List Int) : ((own1 B).write 0 [111, 116, 104, 101, 114]).2.cur.getD 1 [] = zeroS := rfl
theorem own4_dead (B : List Int) : ((own1 B).write 0 [111, 116, 104, 101, 114]).2.dead = false := rfl
theorem other_bytes : Bytes [111, 116, 104, 101, 114] := by unfold Bytes; decide
end Ds
theorem other_lst (w : World) (fr : Nat × Nat) : Lst .u8 (w.alloc (.cells #[.int .u8 111, .int .u8 116, .int .u8 104, .int .u8 101, .int .u8 114] 5 fr)) (some ⟨w.heap.size, 0, none⟩) 5 5 [111, 116, 104, 101, 114] := by
  refine ⟨rfl, Nat.le_refl _, by omega, fun _ => ⟨_, rfl⟩, fun i hi => ?_, fun y hy => by have := other_bytes y hy; exact wf_u8 this.1 this.2⟩
  rw [pt_own]
  have hh : (w.alloc (.cells #[.int .u8 111, .int .u8 116, .int .u8 104, .int .u8 101, .int .u8 114] 5 fr)).heap[w.heap.size]? = some (.cells #[.int .u8 111, .int .u8 116, .int .u8 104, .int .u8 101, .int .u8 114] 5 fr) := heap_alloc_last w _
  unfold World.cell?
  rw [hh]
  match i, hi with
  | 0, _ => rfl
  | 1, _ => rfl
  | 2, _ => rfl
  | 3, _ => rfl
  | 4, _ => rfl
/-- What the law holds once the written slice has been changed: the disk, the copy of what was written. -/
structure OwnI (w : World) (g a m : Nat) (B : List Int) (so : Option Addr) (k sc : Nat) (u : World) : Prop where
  disk : DskN w u g a m 2 (own1 B)
  was : Lst .u8 u so k sc B
theorem OwnI.below {w : World} {g a m : Nat} {B : List Int} {so : Option Addr} {k sc : Nat} {u u' : World} (h : OwnI w g a m B so k sc u) (hb : Below u.heap.size u u') : OwnI w g a m B so k sc u' := ⟨h.disk.below hb, h.was.below hb⟩
theorem Lst.grown {w w' : World} {row : Option Nat} {ao : Option Addr} {n c : Nat} {xs : List Int} (h : Lst .u8 w ao n c xs) (hg : w.grownBy w' row) (hne : ∀ j, j < n → some (pt ao j).block ≠ row) : Lst .u8 w' ao n c xs :=
  ⟨h.len, h.cap, h.room, h.isSome, fun j hj => (World.cell?_of_block (hg.block _ (h.block j hj) (hne j hj))).trans (h.cell j hj), h.wf⟩
theorem u8_next (v : Int) : ∃ v', IntKind.u8.wrap (v + 1) = v' ∧ (Lit.int .u8 v').wf = true := ⟨_, rfl, by
  rw [IntKind.wrap_u8]
  exact wf_u8 (by omega) (by omega)⟩
set_option maxHeartbeats 6400000 in
set_option maxRecDepth 100000 in
theorem ownLaw_c (bo : Option Addr) (n e0 : Nat) (xs : List Int) (keep : Bool) (w : World) (hL : Lst .u8 w bo n e0 xs) (h0 : bo = none → e0 = 0) : Calls Try.prog 6 #[.slice bo n e0, .bool keep] w fun e w' => e = .returned (.bool true) ∧ Below w.heap.size w w' := by
  obtain ⟨k, hk⟩ : ∃ k, min n 64 = k := ⟨_, rfl⟩
  have hmin := fun ty => run_min #[3, 3] ty n 64 w
  rw [hk] at hmin
  have hkn : k ≤ n := by omega
  have hk64 : k ≤ 64 := by omega
  have hcut := cut8 bo n e0 k (by have := hL.cap; omega) h0 w
  have HL := Lib.hid (hL.take hkn)
  obtain ⟨B, hBd⟩ : ∃ B, xs.take k = B := ⟨_, rfl⟩
  rw [hBd] at HL
  have hBl := Lib.hid HL.out.len
  have hBb : Hid (Bytes B) := fun x hx => by
    have := HL.out.wf x hx
    simpa [Lit.wf, IntKind.min, IntKind.max, IntKind.signed, IntKind.bits] using this
  have h0' := Lib.hid h0
  have hok1 : Hid ((own1 B).Ok 2) := by
    have := (blank_ok (n := 2) (by omega) (by omega)).write 0 hBb.out
    rw [own1_write (by rw [hBl.out]; exact hk64)] at this
    exact this
  have kc := fun (w : World) (C : Array Value) (n c : Nat) => Lib.run_convert_bytes_const (P := Try.prog) w 27 5 C n c Try.underlying27 Try.underlying5
  clear hL h0 hBd hk
  go_enter Try.func6, Try.ntmps6
  go_wp2_with (first
    | (refine wpList_minBy rfl rfl hmin ?_)
    | (refine wpList_sliceBy rfl rfl hcut ?_)
    | (at_builtin; refine wpList_appL (own_nil 5 .u8 w.heap.size w) HL.out h0'.out (Nat.le_refl _) (by omega) (by omega) rfl rfl ?_; intro ro rc w1 O1 B1; rw [Nat.zero_add, List.nil_append] at O1; rw [Nat.zero_add]; replace O1 := Lib.hid O1; replace B1 := Lib.hid B1; have hNew : Calls Try.prog 8 #[.int .i64 2] w1 _ := newN_c 2 (by omega) (by omega) w1)
    | (go_at_call 8; (with_reducible refine hNew.mono ?_); rintro e w2 ⟨rfl, D2⟩; have hWr := writeL_c D2 (Below.refl _ _) (blank_ok (by omega) (by omega)) 0 (O1.out.lst.below D2.bel) (fun j hj => by obtain ⟨q, e1, e2, e3, e4⟩ := O1.out.spot hj; rw [e2]; show q ≠ _; omega); rw [own1_write (by rw [hBl.out]; exact hk64)] at hWr; replace D2 := Lib.hid D2; clear hNew)
    | (go_at_call 10; (with_reducible refine hWr.mono ?_); rintro e w3 ⟨rfl, D3, xx⟩; clear xx; replace D3 := Lib.hid D3; have O3 := Lib.hid (O1.out.kept D3.out.bel); clear hWr D2)
    | (at_builtin; refine wpList_appL (own_nil 5 .u8 w3.heap.size w3) O3.out.lst (fun e => by rcases O3.out.cases with ⟨_, _, e2, _⟩ | ⟨q, e2, _⟩; exact e2; rw [e2] at e; cases e) (Nat.le_refl _) (by omega) (by omega) rfl rfl ?_; intro so sc w4 O4 B4; rw [Nat.zero_add, List.nil_append] at O4; rw [Nat.zero_add]; replace O4 := Lib.hid O4; replace B4 := Lib.hid B4))
  have hsp : Hid (∀ q, (Value.slice ro k rc).ownBlock = some q → w.heap.size ≤ q ∧ q < w1.heap.size) := by
    intro q hq
    rcases O1.out.cases with ⟨rfl, _⟩ | ⟨q', rfl, h1, h2, _⟩
    · cases hq
    · have hq : some q' = some q := hq
      injection hq with hq
      subst hq
      exact ⟨h1, h2⟩
  have hws : Hid (∀ j, j < k → w3.heap.size ≤ (pt so j).block) := fun j hj => O4.out.base hj
  have hz13 : Hid (w1.heap.size ≤ w3.heap.size) := D3.out.bel.size
  have OB4 := Lib.hid (O3.out.kept B4.out)
  have D4 : Hid (DskN w w4 (w1.heap.size + 2) w1.heap.size (w1.heap.size + 1) 2 (own1 B)) := by
    have h1 := B1.out.size
    exact ⟨D3.out.dsk.below B4.out, by omega, h1, by omega, (B1.out.trans (D3.out.bel.mono h1)).trans (B4.out.mono (Nat.le_trans h1 hz13.out))⟩
  have W4 := Lib.hid O4.out.lst
  have hwf : Hid (∀ j, j < k → (pt so j).block ≠ w1.heap.size) := fun j hj => by
    have h1 := hws.out j hj
    have h2 := D3.out.lt
    omega
  have hok2 : ∀ b, Hid ((own2 B b).Ok 2) := fun b => by
    have := hok1.out.crash [b]
    rw [own2_crash] at this
    exact this
  have hok3 : ∀ b, Hid (((own2 B b).write 1 [122]).2.Ok 2) := fun b => (hok2 b).out.write 1 (one_bytes (by omega) (by omega))
  have hok4 : Hid (((own1 B).write 0 [111, 116, 104, 101, 114]).2.Ok 2) := hok1.out.write 0 other_bytes
  clear hmin hcut O1 O4 B4 O3
  go_loopw [7, 31] (fun _ i wr => ∃ (j : Nat) (ys : List Int), j ≤ k ∧ i = .int .i64 (j : Int) ∧ Hid (Own 5 .u8 w.heap.size wr ro k rc ys) ∧ Hid (DskN w wr (w1.heap.size + 2) w1.heap.size (w1.heap.size + 1) 2 (own1 B)) ∧ Hid (Lst .u8 wr so k sc B)) (fun _ i _ => k - (intOf i).toNat)
  case atStart => exact ⟨0, B, by omega, rfl, OB4, D4, W4⟩
  case round =>
    obtain ⟨u, hu⟩ : ∃ x, x = wr := ⟨_, rfl⟩
    subst hu
    obtain ⟨j, ys, hj, rfl, OU, DU, WAS⟩ := hrel
    clear OB4 D4 W4
    by_cases hlt : j < k
    · have hlt' : (j : Int) < (k : Int) := by omega
      have hix := ix8 OU.out.lst j j rfl hlt
      have hce := OU.out.lst.cell j hlt
      have hfr := OU.out.frozen hlt
      obtain ⟨v, hv⟩ : ∃ v, ys.getD j 0 = v := ⟨_, rfl⟩
      rw [hv] at hce
      obtain ⟨v', hv1, hv2⟩ := u8_next v
      have G := OU.out.setOnly hlt (.int .u8 v')
      obtain ⟨q, eq1, eq2, eq3, eq4⟩ := OU.out.spot hlt
      have hq : (Value.slice ro k rc).ownBlock = some q := by rw [eq1]; rfl
      have hq2 := hsp.out q hq
      rw [hq] at G
      have O2 := Lib.hid (OU.out.set hlt hv2)
      have D2 := Lib.hid (DU.out.grown G (by simp <;> omega) (by simp <;> omega) (by simp <;> omega) (fun r hr => by injection hr with hr; omega))
      have W2 := Lib.hid (WAS.out.grown G (fun i hi => by have := hws.out i hi; have := hz13.out; simp <;> omega))
      clear G eq1 eq2 eq3 eq4 hq hq2 hv hv2 OU
      go_wp2_with fail
      go_roundw
      case rel => exact ⟨j + 1, _, by omega, by go_num, O2, D2, W2⟩
      case measure => simp [intOf]; omega
    · have hlt' : ¬ (j : Int) < (k : Int) := by omega
      have hr1 : Calls Try.prog 12 #[.pointer (some ⟨w1.heap.size + 2, 0, none⟩), .int .i64 0] u _ := readN_c DU.out hok1.out rfl 0 (by omega)
      rw [show (own1 B).cur.getD 0 [] = pad B from rfl] at hr1
      clear OU
      cases keep with
      | true =>
        replace hok2 := hok2 true
        replace hok3 := hok3 true
        go_wp2_with (first
          | (go_at_call 12; (with_reducible refine hr1.mono ?_); rintro e w6 ⟨xo, xc, rfl, O6, D6, B6⟩; have hx1 := ix8 O6.lst 63 63 rfl (by omega); have hx2 := O6.lst.cell 63 (by omega); obtain ⟨v5, hv5⟩ : ∃ v, (pad B).getD 63 0 = v := ⟨_, rfl⟩; rw [hv5] at hx2; clear hv5; have hx3 := O6.frozen (i := 63) (by omega); obtain ⟨v6, hv6, hv7⟩ := u8_next v5; obtain ⟨w7, e7⟩ : ∃ W, w6.setCell (pt xo 63) (.int .u8 v6) = W := ⟨_, rfl⟩; have G7 := O6.setOnly (i := 63) (by omega) (.int .u8 v6); rw [e7] at G7; obtain ⟨q6, eq6, pq6, lq6, mq6⟩ := O6.spot (i := 63) (by omega); have eq7 : (Value.slice xo 64 xc).ownBlock = some q6 := (by rw [eq6]; rfl); rw [eq7] at G7; have W7 := Lib.hid ((WAS.out.below B6).grown G7 (fun j hj => by have := WAS.out.block j hj; simp <;> omega)); have D7 := Lib.hid (D6.grown G7 (by have := DU.out.lt; simp <;> omega) (by have := DU.out.lt; simp <;> omega) (by have := DU.out.lt; simp <;> omega) (fun q hq => by injection hq with hq; have := DU.out.bel.size; omega)); have hc1 := crash1_c D7.out hok1.out true; rw [own2_crash] at hc1; clear O6 D6 B6 G7 eq6 eq7 lq6 mq6 pq6 hr1)
          | (go_at_call 19; (with_reducible refine hc1.mono ?_); rintro e w8 ⟨g', a', m', c', rfl, D8c, ge1, ge2, ge3, B8⟩; have D8 := Lib.hid (D7.out.below B8); have W8 := Lib.hid (W7.out.below B8); have ge := Lib.hid (And.intro ge1 (And.intro ge2 ge3)); have hw1 := writeL_c D8c ((Below.refl _ _).alloc (Nat.le_refl _) (.cells #[.int .u8 122] 5 (1, 2))) hok2.out 1 (one_lstF w8 122 (1, 2) (by omega) (by omega)) (fun j _ => by rw [pt_own]; have := D8c.lt; show w8.heap.size ≠ a'; omega); rw [own3_out] at hw1; replace D8c := Lib.hid D8c; replace B8 := Lib.hid B8; clear ge1 ge2 ge3 hc1)
          | (go_at_call 10; (with_reducible refine hw1.mono ?_); rintro e w9 ⟨rfl, D9c, O9⟩; have D9 := Lib.hid (D8.out.other O9 (by have := D7.out.lt; have := ge.out; omega) (by have := D7.out.lt; have := ge.out; omega) (by have := D7.out.lt; have := ge.out; omega) (by have := D7.out.bel.size; have := ge.out; omega) (by have := D7.out.bel.size; have := ge.out; omega) (by have := D7.out.bel.size; have := ge.out; omega)); have W9 := Lib.hid (W8.out.off O9 (fun j hj => by have := W7.out.block j hj; have := ge.out; omega)); have hw2 := writeL_c D9.out ((Below.refl _ _).alloc (Nat.le_refl _) (.cells #[.int .u8 111, .int .u8 116, .int .u8 104, .int .u8 101, .int .u8 114] 5 (5, 6))) hok1.out 0 (other_lst w9 (5, 6)) (fun j _ => by rw [pt_own]; have := D9.out.lt; show w9.heap.size ≠ _; omega); rw [own4_out] at hw2; replace D9c := Lib.hid D9c; clear O9 hw1 D8 W8 D8c)
          | (go_at_call 10; (with_reducible refine hw2.mono ?_); rintro e w10 ⟨rfl, D10, O10⟩; have D10c := Lib.hid (D9c.out.other O10 (by have := D7.out.lt; have := ge.out; omega) (by have := D7.out.lt; have := ge.out; omega) (by have := D7.out.lt; have := ge.out; omega) D9.out.g0 D9.out.a0 D9.out.m0); have W10 := Lib.hid (W9.out.off O10 (W9.out.far D9.out.dsk hwf.out)); have hr2 : Calls Try.prog 12 #[.pointer (some ⟨g', 0, none⟩), .int .i64 0] w10 _ := readN_c D10c.out hok3.out (own3_dead B true) 0 (by omega); rw [own3_at] at hr2; replace D10 := Lib.hid D10; clear O10 hw2 D9 W9 D9c)
          | (go_at_call 12; (with_reducible refine hr2.mono ?_); rintro e w11 ⟨yo, yc, rfl, O11, D11c, B11⟩; have D11 := Lib.hid (D10.out.below B11); have W11 := Lib.hid (W10.out.below B11); have Y11 := Lib.hid (show Lst .u8 w11 yo 64 yc (pad B) from O11.lst); have hr3 : Calls Try.prog 12 #[.pointer (some ⟨w1.heap.size + 2, 0, none⟩), .int .i64 1] w11 _ := readN_c D11.out hok4.out (own4_dead B) 1 (by omega); rw [own4_at] at hr3; clear O11 D11c B11 hr2 D10 W10)
          | (go_at_call 12; (with_reducible refine hr3.mono ?_); rintro e w12 ⟨zo, zc, rfl, O12, D12, B12⟩; have Y12 := Lib.hid (Y11.out.below B12); have Z12 := Lib.hid O12.lst; replace D12 := Lib.hid D12; obtain ⟨w13, e13⟩ : ∃ W, w12.alloc (.cells (madeCells #[.int .u8 0] 64) 5) = W := ⟨_, rfl⟩; have hmk := make64 w12; rw [e13] at hmk; have O13 := made64 w12; rw [e13] at O13; have B13 : Below w12.heap.size w12 w13 := (by rw [← e13]; exact (Below.refl _ _).alloc (Nat.le_refl _) _); have W13 := Lib.hid ((W11.out.below B12).below B13); have D13 := Lib.hid (D12.out.below B13); have Y13 := Lib.hid (Y12.out.below B13); have Z13 := Lib.hid (Z12.out.below B13); clear O12 B12 B13 hr3 D11 W11 Y11 e13; obtain ⟨w14, hcp, O14, G14, _⟩ := O13.copy64 W13.out hk64; replace O14 := Lib.hid (show Own 5 .u8 w12.heap.size w14 (some ⟨w12.heap.size, 0, none⟩) 64 64 (pad B) by rw [copy_pad hBl.out] at O14; exact O14); have D14 := Lib.hid (D13.out.grown G14 (by have := D12.out.lt; simp <;> omega) (by have := D12.out.lt; simp <;> omega) (by have := D12.out.lt; simp <;> omega) (fun q hq => by injection hq with hq; have := D12.out.bel.size; omega)); have Y14 := Lib.hid (Y13.out.grown G14 (fun j hj => by have := Y12.out.block j hj; simp <;> omega)); have Z14 := Lib.hid (Z13.out.grown G14 (fun j hj => by have := Z12.out.block j hj; simp <;> omega)); clear G14 D13 Y13 Z13 W13 O13)
          | (go_at_call 22; (with_reducible refine (awake_c w14).mono ?_); rintro e w15 ⟨rfl, B15⟩; have D15 := Lib.hid (D14.out.below B15); have Z15 := Lib.hid (Z14.out.below B15); have hE1 := eqT_c (Y14.out.below B15) (O14.out.lst.below B15); clear B15 D14 Y14 O14 Z14)
          | (go_at_call 14; (with_reducible refine hE1.mono ?_); rintro e w16 ⟨rfl, B16⟩; have hmk2 := make64 w16; have bU : Below w16.heap.size w16 (w16.alloc (.cells (madeCells #[.int .u8 0] 64) 5)) := (Below.refl _ _).alloc (Nat.le_refl _) _; have D16 := Lib.hid ((D15.out.below B16).below bU); have hE2 := eqT_c ((Z15.out.below B16).below bU) (made64 w16).lst; clear B16 bU hE1 D15 Z15)
          | (go_at_call 14; (with_reducible refine hE2.mono ?_); rintro e w17 ⟨rfl, B17⟩; have D17 := Lib.hid (D16.out.below B17); clear B17 hE2))
        go_ret
        exact ⟨rfl, D17.out.bel⟩
      | false =>
        replace hok2 := hok2 false
        replace hok3 := hok3 false
        go_wp2_with (first
          | (go_at_call 12; (with_reducible refine hr1.mono ?_); rintro e w6 ⟨xo, xc, rfl, O6, D6, B6⟩; have hx1 := ix8 O6.lst 63 63 rfl (by omega); have hx2 := O6.lst.cell 63 (by omega); obtain ⟨v5, hv5⟩ : ∃ v, (pad B).getD 63 0 = v := ⟨_, rfl⟩; rw [hv5] at hx2; clear hv5; have hx3 := O6.frozen (i := 63) (by omega); obtain ⟨v6, hv6, hv7⟩ := u8_next v5; obtain ⟨w7, e7⟩ : ∃ W, w6.setCell (pt xo 63) (.int .u8 v6) = W := ⟨_, rfl⟩; have G7 := O6.setOnly (i := 63) (by omega) (.int .u8 v6); rw [e7] at G7; obtain ⟨q6, eq6, pq6, lq6, mq6⟩ := O6.spot (i := 63) (by omega); have eq7 : (Value.slice xo 64 xc).ownBlock = some q6 := (by rw [eq6]; rfl); rw [eq7] at G7; have W7 := Lib.hid ((WAS.out.below B6).grown G7 (fun j hj => by have := WAS.out.block j hj; simp <;> omega)); have D7 := Lib.hid (D6.grown G7 (by have := DU.out.lt; simp <;> omega) (by have := DU.out.lt; simp <;> omega) (by have := DU.out.lt; simp <;> omega) (fun q hq => by injection hq with hq; have := DU.out.bel.size; omega)); have hc1 := crash1_c D7.out hok1.out false; rw [own2_crash] at hc1; clear O6 D6 B6 G7 eq6 eq7 lq6 mq6 pq6 hr1)
          | (go_at_call 19; (with_reducible refine hc1.mono ?_); rintro e w8 ⟨g', a', m', c', rfl, D8c, ge1, ge2, ge3, B8⟩; have D8 := Lib.hid (D7.out.below B8); have W8 := Lib.hid (W7.out.below B8); have ge := Lib.hid (And.intro ge1 (And.intro ge2 ge3)); have hw1 := writeL_c D8c ((Below.refl _ _).alloc (Nat.le_refl _) (.cells #[.int .u8 122] 5 (1, 2))) hok2.out 1 (one_lstF w8 122 (1, 2) (by omega) (by omega)) (fun j _ => by rw [pt_own]; have := D8c.lt; show w8.heap.size ≠ a'; omega); rw [own3_out] at hw1; replace D8c := Lib.hid D8c; replace B8 := Lib.hid B8; clear ge1 ge2 ge3 hc1)
          | (go_at_call 10; (with_reducible refine hw1.mono ?_); rintro e w9 ⟨rfl, D9c, O9⟩; have D9 := Lib.hid (D8.out.other O9 (by have := D7.out.lt; have := ge.out; omega) (by have := D7.out.lt; have := ge.out; omega) (by have := D7.out.lt; have := ge.out; omega) (by have := D7.out.bel.size; have := ge.out; omega) (by have := D7.out.bel.size; have := ge.out; omega) (by have := D7.out.bel.size; have := ge.out; omega)); have W9 := Lib.hid (W8.out.off O9 (fun j hj => by have := W7.out.block j hj; have := ge.out; omega)); have hw2 := writeL_c D9.out ((Below.refl _ _).alloc (Nat.le_refl _) (.cells #[.int .u8 111, .int .u8 116, .int .u8 104, .int .u8 101, .int .u8 114] 5 (5, 6))) hok1.out 0 (other_lst w9 (5, 6)) (fun j _ => by rw [pt_own]; have := D9.out.lt; show w9.heap.size ≠ _; omega); rw [own4_out] at hw2; replace D9c := Lib.hid D9c; clear O9 hw1 D8 W8 D8c)
          | (go_at_call 10; (with_reducible refine hw2.mono ?_); rintro e w10 ⟨rfl, D10, O10⟩; have D10c := Lib.hid (D9c.out.other O10 (by have := D7.out.lt; have := ge.out; omega) (by have := D7.out.lt; have := ge.out; omega) (by have := D7.out.lt; have := ge.out; omega) D9.out.g0 D9.out.a0 D9.out.m0); have W10 := Lib.hid (W9.out.off O10 (W9.out.far D9.out.dsk hwf.out)); have hr2 : Calls Try.prog 12 #[.pointer (some ⟨g', 0, none⟩), .int .i64 0] w10 _ := readN_c D10c.out hok3.out (own3_dead B false) 0 (by omega); rw [own3_at] at hr2; replace D10 := Lib.hid D10; clear O10 hw2 D9 W9 D9c)
          | (go_at_call 12; (with_reducible refine hr2.mono ?_); rintro e w11 ⟨yo, yc, rfl, O11, D11c, B11⟩; have D11 := Lib.hid (D10.out.below B11); have W11 := Lib.hid (W10.out.below B11); have Y11 := Lib.hid (show Lst .u8 w11 yo 64 yc zeroS from O11.lst); have hr3 : Calls Try.prog 12 #[.pointer (some ⟨w1.heap.size + 2, 0, none⟩), .int .i64 1] w11 _ := readN_c D11.out hok4.out (own4_dead B) 1 (by omega); rw [own4_at] at hr3; clear O11 D11c B11 hr2 D10 W10)
          | (go_at_call 12; (with_reducible refine hr3.mono ?_); rintro e w12 ⟨zo, zc, rfl, O12, D12, B12⟩; have Y12 := Lib.hid (Y11.out.below B12); have Z12 := Lib.hid O12.lst; replace D12 := Lib.hid D12; obtain ⟨w13, e13⟩ : ∃ W, w12.alloc (.cells (madeCells #[.int .u8 0] 64) 5) = W := ⟨_, rfl⟩; have hmk := make64 w12; rw [e13] at hmk; have O13 := made64 w12; rw [e13] at O13; have B13 : Below w12.heap.size w12 w13 := (by rw [← e13]; exact (Below.refl _ _).alloc (Nat.le_refl _) _); have W13 := Lib.hid ((W11.out.below B12).below B13); have D13 := Lib.hid (D12.out.below B13); have Y13 := Lib.hid (Y12.out.below B13); have Z13 := Lib.hid (Z12.out.below B13); clear O12 B12 B13 hr3 D11 W11 Y11 e13; obtain ⟨w14, hw14⟩ : ∃ W, W = w13 := ⟨_, rfl⟩; subst hw14; have O14 := Lib.hid O13; have D14 := D13; have Y14 := Y13; have Z14 := Z13; clear D13 Y13 Z13 W13 O13)
          | (go_at_call 22; (with_reducible refine (awake_c w14).mono ?_); rintro e w15 ⟨rfl, B15⟩; have D15 := Lib.hid (D14.out.below B15); have Z15 := Lib.hid (Z14.out.below B15); have hE1 := eqT_c (Y14.out.below B15) (O14.out.lst.below B15); clear B15 D14 Y14 O14 Z14)
          | (go_at_call 14; (with_reducible refine hE1.mono ?_); rintro e w16 ⟨rfl, B16⟩; have hmk2 := make64 w16; have bU : Below w16.heap.size w16 (w16.alloc (.cells (madeCells #[.int .u8 0] 64) 5)) := (Below.refl _ _).alloc (Nat.le_refl _) _; have D16 := Lib.hid ((D15.out.below B16).below bU); have hE2 := eqT_c ((Z15.out.below B16).below bU) (made64 w16).lst; clear B16 bU hE1 D15 Z15)
          | (go_at_call 14; (with_reducible refine hE2.mono ?_); rintro e w17 ⟨rfl, B17⟩; have D17 := Lib.hid (D16.out.below B17); clear B17 hE2))
        go_ret
        exact ⟨rfl, D17.out.bel⟩
end Go.Proofs.Ytbnomkcliejcaaa
