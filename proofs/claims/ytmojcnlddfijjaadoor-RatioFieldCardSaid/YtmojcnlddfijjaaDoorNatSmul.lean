/-
  nat.subtractProduct, nat.addBack.
-/
import Derived.Test.YtmojcnlddfijjaaDoorNatShift
namespace Go.Proofs.YtmojcnlddfijjaaDoor
open Go.RowKit NatMath

set_option maxHeartbeats 6400000 in
set_option maxRecDepth 100000 in
theorem subProd_c (B g n c i l cc : Nat) (bo : Option Addr) (m d f : Nat) (P S T M : List Int) (w : World)
    (h : Own 77 .u32 B w (some ⟨g, 0, none⟩) n c (P ++ S ++ T)) (hP : P.length = i) (hS : S.length = l) (hlm : l = m + 1) (hcc : l ≤ cc) (hcc2 : cc ≤ 9223372036854775807)
    (k : Lst .u32 w bo m d M) (hne : ∀ j, j < m → (pt bo j).block ≠ g) (hf : f ≤ 4294967295) (hm : m ≤ 1073741824) :
    Calls Tryd.prog 110 #[.slice (some ⟨g, i, none⟩) l cc, .slice bo m d, .int .u32 f] w fun e w' => ∃ (S' : List Int) (b : Bool) (z : Nat), e = .returned (.bool b) ∧ z ≤ 1 ∧ b = decide (z = 1) ∧ Own 77 .u32 B w' (some ⟨g, 0, none⟩) n c (P ++ S' ++ T) ∧ S'.length = l ∧ val S' + val M * f = val S + z * 4294967296 ^ l ∧ w.grownBy w' (some g) := by
  have hlS := Lib.hid hS
  have hlM := Lib.hid k.len
  have hMok := Lib.hid k.ok
  have hPi := Lib.hid hP
  have hNE := Lib.hid hne
  have hr := k.room
  have hc := k.cap
  have okS : Ok S := fun x hx => h.lst.ok x (by simp [hx])
  have hst := SmInv.start M okS f
  have HLM := Lib.hid hlm
  have hml : m < l := by omega
  clear okS hP hS hne hlm
  go_enter Tryd.func110, Tryd.ntmps110
  go_wp2_with fail
  go_loopw [7, 8, 14] (fun s7 s8 i14 wr => ∃ (j cy : Nat) (b : Int) (D : List Int), j ≤ m ∧ i14 = .int .i64 j ∧ s7 = .int .u64 cy ∧ s8 = .int .u32 b ∧ SmInv M S D f cy b j ∧ Own 77 .u32 B wr (some ⟨g, 0, none⟩) n c (P ++ D ++ T) ∧ Lst .u32 wr bo m d M ∧ w.grownBy wr (some g))
    (fun _ _ i _ => m - (intOf i).toNat)
  case atStart => exact ⟨0, 0, 0, S, Nat.zero_le _, rfl, rfl, rfl, hst, h, k, World.grownBy.refl _ _⟩
  case round =>
    obtain ⟨j, cy, b, D, hj, rfl, rfl, rfl, hinv, ho, hk, hg⟩ := hrel
    clear hst h k
    have hb0 := hinv.b0
    have hb1 := hinv.b1
    have hcy := hinv.cy1
    have hDl := hinv.len
    rw [hlS.out] at hDl
    have HD := Lib.hid hDl
    have hcut := ho.cut (l := l) (c' := cc) hPi.out hDl hcc hcc2
    have HNE : ∀ t, ∀ t', t' < m → (pt bo t').block ≠ (pt (some ⟨g, i, none⟩) t).block := fun t t' ht' => by rw [pt_at]; exact hNE.out t' ht'
    by_cases hlt : j < m
    · have hib := ix hk j hlt
      obtain ⟨y, HY, hy0, hy1, hcy2⟩ := hk.at j hlt
      obtain ⟨Y, rfl⟩ := Int.eq_ofNat_of_zero_le hy0
      have hia := ix hcut j (by omega)
      obtain ⟨x, HX, hx0, hx1, hcx⟩ := hcut.at j (by omega)
      have hfz := ho.cutFrozen hPi.out (j := j) (by omega)
      have hpb := sm_bound hf (show Y ≤ 4294967295 by omega) hcy
      have eP : ((f * Y : Nat) : Int) = (f : Int) * (Y : Int) := by simp
      have hq0 : (0 : Int) ≤ (f : Int) * (Y : Int) := by rw [← eP]; omega
      have hq1 : (f : Int) * (Y : Int) ≤ 18446744065119617025 := by rw [← eP]; omega
      have eM : (((cy + f * Y) % 4294967296 : Nat) : Int) = ((cy : Int) + (f : Int) * (Y : Int)) % 4294967296 := by simp
      have eQ : (((cy + f * Y) / 4294967296 : Nat) : Int) = ((cy : Int) + (f : Int) * (Y : Int)) / 4294967296 := by simp
      have hs := hinv.step (by rw [hlS.out]; omega) HX.out HY.out (by omega) hf (b' := brw x (((cy + f * Y) % 4294967296 : Nat) : Int) b) rfl
      have hwf : (Lit.int .u32 ((x - (((cy + f * Y) % 4294967296 : Nat) : Int) - b) % 4294967296)).wf = true := wf_u32 (by omega) (by omega)
      have q1 := ho.cutSet hPi.out (j := j) (by omega) hwf
      have q2 := hk.apart (HNE j) (.int .u32 ((x - (((cy + f * Y) % 4294967296 : Nat) : Int) - b) % 4294967296))
      have q3 := grown_trans hg (ho.grownSome i j (.int .u32 ((x - (((cy + f * Y) % 4294967296 : Nat) : Int) - b) % 4294967296)))
      have hm0 : 0 ≤ ((cy : Int) + (f : Int) * (Y : Int)) % 4294967296 := by omega
      have hm1 : ((cy : Int) + (f : Int) * (Y : Int)) % 4294967296 ≤ 4294967295 := by omega
      rw [eM] at hs q1 q2 q3
      rw [pt_at] at hia hcx hfz q1 q2 q3
      have R1 := Lib.hid hs; have R2 := Lib.hid q1; have R3 := Lib.hid q2; have R4 := Lib.hid q3; have EQ := Lib.hid eQ
      clear hs hwf q1 q2 q3 eM eQ eP hpb HNE hinv ho hk hg hcut
      go_wp2_with (go_at_call 61; refine (sub32_c _ _ _ _ (by omega) (by omega) (by omega) (by omega) (by omega) (by omega)).mono ?_; rintro e w' ⟨rfl, rfl⟩)
      go_roundw
      case rel => exact ⟨j + 1, (cy + f * Y) / 4294967296, _, _, by omega, by go_num, by rw [EQ.out], rfl, R1.out, R2.out, R3.out, R4.out⟩
      case measure => simp [intOf] <;> omega
    · obtain rfl : j = m := by omega
      have hia := ix hcut j (by omega)
      obtain ⟨x, HX, hx0, hx1, hcx⟩ := hcut.at j (by omega)
      have hfz := ho.cutFrozen hPi.out (j := j) (by omega)
      have hs := hinv.last hlM.out (by rw [hlS.out]; exact HLM.out) HX.out (b' := brw x (cy : Int) b) rfl
      have hwf : (Lit.int .u32 ((x - (cy : Int) - b) % 4294967296)).wf = true := wf_u32 (by omega) (by omega)
      have q1 := ho.cutSet hPi.out (j := j) (by omega) hwf
      have q3 := grown_trans hg (ho.grownSome i j (.int .u32 ((x - (cy : Int) - b) % 4294967296)))
      have ec : (cy : Int) % 4294967296 = (cy : Int) := by omega
      obtain ⟨z, hz⟩ := Int.eq_ofNat_of_zero_le (brw_01 x cy b).1
      have hz1 := (brw_01 x cy b).2
      rw [hz, Int.toNat_natCast] at hs
      rw [pt_at] at hia hcx hfz q1 q3
      rw [hz] at hz1
      have R1 := Lib.hid hs.1; have R2 := Lib.hid q1; have R4 := Lib.hid q3; have HZ := Lib.hid hz
      clear hs hwf q1 q3 HNE hinv ho hk hg hcut hz
      go_wp2_with (go_at_call 61; refine (sub32_c _ _ _ _ (by omega) (by omega) (by omega) (by omega) (by omega) (by omega)).mono ?_; rintro e w' ⟨rfl, rfl⟩; rw [HZ.out])
      go_ret
      have hl2 : (D.set j ((x - (cy : Int) - b) % 4294967296)).length = l := by rw [List.length_set, HD.out]
      have r1 := R1.out
      rw [← HLM.out] at r1
      refine ⟨_, ((z : Int) != 0), z, rfl, by omega, ?_, R2.out, hl2, r1, R4.out⟩
      have : z = 0 ∨ z = 1 := by omega
      rcases this with rfl | rfl <;> rfl

set_option maxHeartbeats 6400000 in
set_option maxRecDepth 100000 in
theorem addBack_c (B g n c i l cc : Nat) (bo : Option Addr) (m d : Nat) (P S T M : List Int) (w : World)
    (h : Own 77 .u32 B w (some ⟨g, 0, none⟩) n c (P ++ S ++ T)) (hP : P.length = i) (hS : S.length = l) (hlm : l = m + 1) (hcc : l ≤ cc) (hcc2 : cc ≤ 9223372036854775807)
    (k : Lst .u32 w bo m d M) (hne : ∀ j, j < m → (pt bo j).block ≠ g) (hm : m ≤ 1073741824) :
    Calls Tryd.prog 111 #[.slice (some ⟨g, i, none⟩) l cc, .slice bo m d] w fun e w' => ∃ (v : Value) (S' : List Int) (z : Nat), e = .returned v ∧ Own 77 .u32 B w' (some ⟨g, 0, none⟩) n c (P ++ S' ++ T) ∧ S'.length = l ∧ val S' + z * 4294967296 ^ l = val S + val M ∧ w.grownBy w' (some g) := by
  have hlS := Lib.hid hS
  have hlM := Lib.hid k.len
  have hMok := Lib.hid k.ok
  have hPi := Lib.hid hP
  have hNE := Lib.hid hne
  have hr := k.room
  have hc := k.cap
  have okS : Ok S := fun x hx => h.lst.ok x (by simp [hx])
  have hst := AbInv.start M okS
  have HLM := Lib.hid hlm
  have hml : m < l := by omega
  clear okS hP hS hne hlm
  go_enter Tryd.func111, Tryd.ntmps111
  go_wp2_with fail
  go_loopw [4, 9] (fun s4 i9 wr => ∃ (j : Nat) (b : Int) (D : List Int), j ≤ m ∧ i9 = .int .i64 j ∧ s4 = .int .u32 b ∧ AbInv M S D b j ∧ Own 77 .u32 B wr (some ⟨g, 0, none⟩) n c (P ++ D ++ T) ∧ Lst .u32 wr bo m d M ∧ w.grownBy wr (some g))
    (fun _ i _ => m - (intOf i).toNat)
  case atStart => exact ⟨0, 0, S, Nat.zero_le _, rfl, rfl, hst, h, k, World.grownBy.refl _ _⟩
  case round =>
    obtain ⟨j, b, D, hj, rfl, rfl, hinv, ho, hk, hg⟩ := hrel
    clear hst h k
    have hb0 := hinv.c0
    have hb1 := hinv.c1
    have hDl := hinv.len
    rw [hlS.out] at hDl
    have HD := Lib.hid hDl
    have hcut := ho.cut (l := l) (c' := cc) hPi.out hDl hcc hcc2
    have HNE : ∀ t, ∀ t', t' < m → (pt bo t').block ≠ (pt (some ⟨g, i, none⟩) t).block := fun t t' ht' => by rw [pt_at]; exact hNE.out t' ht'
    by_cases hlt : j < m
    · have hib := ix hk j hlt
      obtain ⟨y, HY, hy0, hy1, hcy2⟩ := hk.at j hlt
      have hia := ix hcut j (by omega)
      obtain ⟨x, HX, hx0, hx1, hcx⟩ := hcut.at j (by omega)
      have hfz := ho.cutFrozen hPi.out (j := j) (by omega)
      have hs := hinv.step hMok.out (by rw [hlS.out]; omega) HX.out HY.out
      have hwf : (Lit.int .u32 ((x + y + b) % 4294967296)).wf = true := wf_u32 (by omega) (by omega)
      have q1 := ho.cutSet hPi.out (j := j) (by omega) hwf
      have q2 := hk.apart (HNE j) (.int .u32 ((x + y + b) % 4294967296))
      have q3 := grown_trans hg (ho.grownSome i j (.int .u32 ((x + y + b) % 4294967296)))
      rw [pt_at] at hia hcx hfz q1 q2 q3
      have R1 := Lib.hid hs; have R2 := Lib.hid q1; have R3 := Lib.hid q2; have R4 := Lib.hid q3
      clear hs hwf q1 q2 q3 HNE hinv ho hk hg hcut
      go_wp2_with (go_at_call 94; refine (add32_c _ _ _ _ (by omega) (by omega) (by omega) (by omega) (by omega) (by omega)).mono ?_; rintro e w' ⟨rfl, rfl⟩)
      go_roundw
      case rel => exact ⟨j + 1, _, _, by omega, by go_num, rfl, R1.out, R2.out, R3.out, R4.out⟩
      case measure => simp [intOf] <;> omega
    · obtain rfl : j = m := by omega
      have hia := ix hcut j (by omega)
      obtain ⟨x, HX, hx0, hx1, hcx⟩ := hcut.at j (by omega)
      have hfz := ho.cutFrozen hPi.out (j := j) (by omega)
      obtain ⟨z, hs⟩ := hinv.last hlM.out (by rw [hlS.out]; exact HLM.out) HX.out
      have hwf : (Lit.int .u32 ((x + b) % 4294967296)).wf = true := wf_u32 (by omega) (by omega)
      have q1 := ho.cutSet hPi.out (j := j) (by omega) hwf
      have q3 := grown_trans hg (ho.grownSome i j (.int .u32 ((x + b) % 4294967296)))
      rw [pt_at] at hia hcx hfz q1 q3
      have R1 := Lib.hid hs.1; have R2 := Lib.hid q1; have R4 := Lib.hid q3
      clear hs hwf q1 q3 HNE hinv ho hk hg hcut
      go_wp2_with fail
      go_end0
      have hl2 : (D.set j ((x + b) % 4294967296)).length = l := by rw [List.length_set, HD.out]
      have r1 := R1.out
      rw [← HLM.out] at r1
      exact ⟨_, _, z, rfl, R2.out, hl2, r1, R4.out⟩
end Go.Proofs.YtmojcnlddfijjaaDoor
