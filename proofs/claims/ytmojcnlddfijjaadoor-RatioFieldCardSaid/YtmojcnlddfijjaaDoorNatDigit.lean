/-
  nat.divideStep.
-/
import Derived.Test.YtmojcnlddfijjaaDoorNatStep
import Derived.Test.YtmojcnlddfijjaaDoorNatSmul
namespace Go.Proofs.YtmojcnlddfijjaaDoor
open Go.RowKit NatMath

theorem Lst.from {k : IntKind} {w : World} {g i m d : Nat} {ys : List Int} (h : Lst k w (some ⟨g, i, none⟩) m d ys) {j m' d' : Nat} (hj : j ≤ m) (hm : m' = m - j) (hd : d' = d - j) : Lst k w (some ⟨g, i + j, none⟩) m' d' (ys.drop j) := by
  have hl := h.len
  have hc := h.cap
  have hr := h.room
  refine ⟨by rw [List.length_drop]; omega, by omega, by omega, fun _ => ⟨_, rfl⟩, fun t ht => ?_, fun x hx => h.wf x (List.mem_of_mem_drop hx)⟩
  have := h.cell (j + t) (by omega)
  rw [pt_at] at this ⊢
  rw [Nat.add_assoc, this]
  simp [List.getD]

theorem drop3 {S : List Int} {k : Nat} (h : S.length = k + 3) : S.drop k = [S.getD k 0, S.getD (k + 1) 0, S.getD (k + 2) 0] := by
  rw [drop_getD (by omega), drop_getD (by omega), drop_getD (by omega), List.drop_of_length_le (by omega)]
theorem drop2 {S : List Int} {k : Nat} (h : S.length = k + 2) : S.drop k = [S.getD k 0, S.getD (k + 1) 0] := by
  rw [drop_getD (by omega), drop_getD (by omega), List.drop_of_length_le (by omega)]
theorem getD_nat {S : List Int} (h : Ok S) (i : Nat) : ∃ x : Nat, (x : Int) = S.getD i 0 := ⟨(S.getD i 0).toNat, Int.toNat_of_nonneg (h.getD i).1⟩

set_option maxHeartbeats 6400000 in
set_option maxRecDepth 100000 in
theorem divideStep_c (B g g2 n c i cc t d : Nat) (P S T M : List Int) (w : World)
    (h : Own 77 .u32 B w (some ⟨g, 0, none⟩) n c (P ++ S ++ T)) (hP : P.length = i) (hS : S.length = t + 3) (hcc : t + 3 ≤ cc) (hcc2 : cc ≤ 9223372036854775807)
    (k : Lst .u32 w (some ⟨g2, 0, none⟩) (t + 2) d M) (hne : g2 ≠ g) (hm : t ≤ 1073741820) (hd : 2147483648 * 4294967296 ^ (t + 1) ≤ val M) (hlt : val S < 4294967296 * val M) :
    Calls Tryd.prog 104 #[.slice (some ⟨g, i, none⟩) (t + 3) cc, .slice (some ⟨g2, 0, none⟩) (t + 2) d] w fun e w' => ∃ S', e = .returned (.int .u32 (val S / val M : Nat)) ∧ val S / val M ≤ 4294967295 ∧ Own 77 .u32 B w' (some ⟨g, 0, none⟩) n c (P ++ S' ++ T) ∧ S'.length = t + 3 ∧ val S' = val S % val M ∧ w.grownBy w' (some g) := by
  have hlM := k.len
  have hMok := k.ok
  have hr := k.room
  have hc := k.cap
  have okS : Ok S := fun x hx => h.lst.ok x (by simp [hx])
  obtain ⟨r0, h0⟩ := getD_nat okS t
  obtain ⟨r1, h1⟩ := getD_nat okS (t + 1)
  obtain ⟨r2, h2⟩ := getD_nat okS (t + 2)
  obtain ⟨v0, g0⟩ := getD_nat hMok t
  obtain ⟨v1, g1⟩ := getD_nat hMok (t + 1)
  have hv1 := top_ge hMok hlM g1 hd
  have hest := digit_est okS hMok hS hlM h0 h1 h2 g0 g1 hv1 hlt
  have hcut := h.cut (l := t + 3) (c' := cc) hP hS hcc hcc2
  have f1 := hcut.from (j := t) (m' := 3) (d' := cc - t) (by omega) (by omega) rfl
  have f2 := k.from (j := t) (m' := 2) (d' := d - t) (by omega) (by omega) rfl
  rw [drop3 hS, ← h0, ← h1, ← h2] at f1
  rw [drop2 hlM, ← g0, ← g1] at f2
  have hE := Lib.hid (fun q => estimate_c _ _ _ _ r0 r1 r2 v0 v1 (w.drewN q) (f1.drewN q) (f2.drewN q) (by omega) hest.1)
  rw [Nat.zero_add] at hE
  obtain ⟨Q, hQ⟩ : ∃ x, Hid (x = qhat ((r2 * 4294967296 + r1) * 4294967296 + r0) (v1 * 4294967296 + v0)) := ⟨_, rfl⟩
  rw [← hQ.out] at hE hest
  have HEST := Lib.hid hest.2
  have H := Lib.hid h
  have K := Lib.hid k
  have HHS := Lib.hid hS; have HHM := Lib.hid hlM; have HLT := Lib.hid hlt
  clear hest f1 f2 hcut h0 h1 h2 g0 g1 hv1 h k hS hlM hlt hd okS hMok
  go_enter Tryd.func104, Tryd.ntmps104
  go_wp2_with fail
  go_quiet ((go_at_call 109; exact quiet_draw (hE.out _)))
  have hQ1 : Q ≤ 4294967295 := by rw [hQ.out]; exact Nat.min_le_right ..
  have hNE : ∀ j, j < t + 2 → (pt (some ⟨g2, 0, none⟩) j).block ≠ g := fun j _ => by rw [pt_at]; exact hne
  have hsp := subProd_c B g n c i (t + 3) cc (some ⟨g2, 0, none⟩) (t + 2) d Q P S T M (w.drewN nq) (H.out.drewN nq) hP HHS.out rfl hcc hcc2 (K.out.drewN nq) hNE hQ1 (by omega)
  have HSP := Lib.hid hsp
  clear hsp hE
  go_wp2_with fail
  refine HSP.out.mono ?_
  rintro e w1 ⟨S1, b, z, rfl, hz, rfl, o1, hl1, he1, gr1⟩
  have ok1 : Ok S1 := fun x hx => o1.lst.ok x (by simp [hx])
  have hlt1 := val_lt ok1
  rw [hl1] at hlt1
  have hV : 0 < val M := by
    rcases Nat.eq_zero_or_pos (val M) with h | h
    · have := HLT.out; rw [h] at this; omega
    · exact h
  have hst := step_low HEST.out.1 HEST.out.2 he1 hlt1 hz hV
  have hgr : w.grownBy w1 (some g) := grown_trans (grown_drewN (World.grownBy.refl w (some g)) nq) gr1
  have hVP : val M ≤ 4294967296 ^ (t + 3) := by
    have a := val_lt K.out.ok
    rw [HHM.out, ] at a
    have b : 4294967296 ^ (t + 2) ≤ 4294967296 ^ (t + 3) := Nat.pow_le_pow_right (by omega) (by omega)
    omega
  rcases (show z = 0 ∨ z = 1 by omega) with rfl | rfl
  · have h0 := hst.1 rfl
    have hd0 : decide ((0 : Nat) = 1) = false := by decide
    have F1 := Lib.hid h0.1; have F2 := Lib.hid h0.2; have O1 := Lib.hid o1; have L1 := Lib.hid hl1; have G := Lib.hid hgr
    clear h0 hst o1 hl1 he1 hlt1 ok1 hgr gr1 hVP HSP
    go_wp2_with fail
    go_ret
    exact ⟨S1, by rw [← F1.out]; rfl, by rw [← F1.out]; exact hQ1, O1.out, L1.out, F2.out, G.out⟩
  · have h1 := hst.2 rfl
    have hd0 : decide ((1 : Nat) = 1) = true := by decide
    have hab := addBack_c B g n c i (t + 3) cc (some ⟨g2, 0, none⟩) (t + 2) d P S1 T M w1 o1 hP hl1 rfl hcc hcc2 (K.out.grown hgr (fun j hj => by rw [pt_at]; simpa using hne)) hNE (by omega)
    have hQ0 : 0 < Q := by rw [h1.1]; exact Nat.succ_pos _
    have F1 := Lib.hid h1.1; have F2 := Lib.hid h1.2; have G := Lib.hid hgr; have AB := Lib.hid hab
    have VP := Lib.hid hVP; have LT1 := Lib.hid hlt1
    clear h1 hst o1 hl1 he1 hlt1 ok1 hgr gr1 hVP HSP hab
    go_wp2_with fail
    refine AB.out.mono ?_
    rintro e w2 ⟨v, S2, z2, rfl, o2, hl2, he2, gr2⟩
    have ok2 : Ok S2 := fun x hx => o2.lst.ok x (by simp [hx])
    have hlt2 := val_lt ok2
    rw [hl2] at hlt2
    have hb := step_back F2.out he2 hlt2 VP.out hV LT1.out
    have O2 := Lib.hid o2; have L2 := Lib.hid hl2; have HB := Lib.hid hb; have G2 := Lib.hid (grown_trans G.out gr2)
    clear o2 hl2 he2 ok2 hlt2 hb gr2 AB
    go_wp2_with fail
    go_ret
    have e1 : val S / val M = Q - 1 := by have := F1.out; omega
    refine ⟨S2, ?_, by omega, O2.out, L2.out, HB.out, G2.out⟩
    rw [e1]
    go_num
end Go.Proofs.YtmojcnlddfijjaaDoor
