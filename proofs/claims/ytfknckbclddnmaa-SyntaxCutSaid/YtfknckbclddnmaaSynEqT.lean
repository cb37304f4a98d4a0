/-
  electionref07.Eq of equal definitions, with lines.
-/
import Derived.Test.YtfknckbclddnmaaSynEq
import Derived.Deep.CutRange
namespace Go.Proofs.Ytfknckbclddnmaa
open Go.RowKit Lx

set_option maxHeartbeats 12800000 in
set_option maxRecDepth 100000 in
theorem eq_true (t : List UInt8) (ao bo : Option Addr) (n m c d : Nat) (xs ys : List Blc) (w : World) (h1 : BlkL true anyF w ao n c xs) (h2 : BlkL true anyF w bo m d ys) (he : eqBs true xs ys) :
    Calls Try.prog 12 #[.agg #[.string (stg t), .slice ao n c], .agg #[.string (stg t), .slice bo m d], .bool true] w fun e w' => e = .returned (.bool true) ∧ Below w.heap.size w w' := by
  obtain rfl : n = m := by rw [← h1.len, ← h2.len]; exact eqBs_len he
  obtain ⟨hc1, hr1⟩ := h1.caps
  obtain ⟨hc2, hr2⟩ := h2.caps
  obtain ⟨V, e1, AV, BV, hz⟩ := new_box w 24 [.string (stg t), .slice ao n c]
  obtain ⟨U, e2, AU, BU, hz2⟩ := new_box V 24 [.string (stg t), .slice bo n d]
  replace AV := AV.kept BU
  obtain ⟨T, hT⟩ : ∃ T, stg t = T := ⟨_, rfl⟩
  rw [hT] at AV AU e1 e2 ⊢
  have hTT : (T.toList == T.toList) = true := by simp
  obtain ⟨b, hb⟩ : ∃ b, w.heap.size = b := ⟨_, rfl⟩
  rw [hb] at AV hz
  rw [hz] at AU
  have HB : Hid (Below b w U) := by show Below _ _ _; rw [← hb]; exact BV.trans (BU.mono BV.size)
  have H1 := Lib.hid (BlkL.keep (BlkL.keep h1 stable_any (keeps_below _ BV)) stable_any (keeps_below _ BU))
  have H2 := Lib.hid (BlkL.keep (BlkL.keep h2 stable_any (keeps_below _ BV)) stable_any (keeps_below _ BU))
  have hnn : ((n : Int) != (n : Int)) = false := by simp
  have y0 : U.cell? ⟨b, 0, none⟩ = some (.string T) := AV.cell 0
  have y1 : U.cell? ⟨b, 1, none⟩ = some (.slice ao n c) := AV.cell 1
  have y2 : U.cell? ⟨b + 1, 0, none⟩ = some (.string T) := AU.cell 0
  have y3 : U.cell? ⟨b + 1, 1, none⟩ = some (.slice bo n d) := AU.cell 1
  replace AV := Lib.hid AV
  replace AU := Lib.hid AU
  replace he := Lib.hid he
  have hUz : Hid (b + 1 < U.heap.size) := AU.out.lt
  clear h1 h2 BV BU hz2 hT
  go_enter Try.func12, Try.ntmps12
  go_wp2_with fail
  clear e1 e2 y0 y2
  go_loopw [7, 8, 9, 10, 11, 12] (fun iv _ _ _ _ _ wr => ∃ j : Nat, j ≤ n ∧ iv = .int .i64 (j : Int) ∧ Below U.heap.size U wr) (fun iv _ _ _ _ _ _ => n - (intOf iv).toNat)
  case atStart => exact ⟨0, by omega, rfl, Below.refl _ _⟩
  case round =>
    clear y1 y3
    obtain ⟨j, hj, rfl, B⟩ := hrel
    have y1 : wr.cell? ⟨b, 1, none⟩ = some (.slice ao n c) := (AV.out.kept B).cell 1
    have y3 : wr.cell? ⟨b + 1, 1, none⟩ = some (.slice bo n d) := (AU.out.kept B).cell 1
    have HBr := Lib.hid B
    by_cases hlt : j < n
    · have hlt' : (j : Int) < (n : Int) := by omega
      obtain ⟨x, a1, fo1, fn1, fc1, z1, hx, i1, p0, p1, p2, p3, FL1, hl1⟩ := (BlkL.keep H1.out stable_any (keeps_below _ B)).get j hlt
      obtain ⟨y, a2, fo2, fn2, fc2, z2, hy, i2, r0, r1, r2, r3, FL2, hl2⟩ := (BlkL.keep H2.out stable_any (keeps_below _ B)).get j hlt
      obtain ⟨g1, g2, g3, g4⟩ := eqBs_at he.out j x y hx hy
      rw [← g1] at r0
      rw [← g2] at r1
      obtain rfl : fn1 = fn2 := by rw [← FL1.len, ← FL2.len]; exact eqFs_len g4
      obtain rfl : z1 = z2 := by rw [hl1 rfl, hl2 rfl, g3 rfl]
      obtain ⟨hfc1, hfr1⟩ := FL1.caps
      obtain ⟨hfc2, hfr2⟩ := FL2.caps
      obtain ⟨K1, hK1⟩ : ∃ S, stg x.kind = S := ⟨_, rfl⟩
      obtain ⟨K2, hK2⟩ : ∃ S, stg x.name = S := ⟨_, rfl⟩
      rw [hK1] at p0 r0
      rw [hK2] at p1 r1
      have k1 : (K1.toList == K1.toList) = true := by simp
      have k2 : (K2.toList == K2.toList) = true := by simp
      have hh := hold1 wr
      have hh2 := hold2 wr
      have y1a := hh _ _ y1
      have y1b := hh2 _ _ y1
      have y3a := hh _ _ y3
      have y3b := hh2 _ _ y3
      have p0a := hh _ _ p0
      have p0b := hh2 _ _ p0
      have p1a := hh _ _ p1
      have p1b := hh2 _ _ p1
      have p2a := hh _ _ p2
      have p2b := hh2 _ _ p2
      have p3a := hh _ _ p3
      have p3b := hh2 _ _ p3
      have r0a := hh _ _ r0
      have r0b := hh2 _ _ r0
      have r1a := hh _ _ r1
      have r1b := hh2 _ _ r1
      have r2a := hh _ _ r2
      have r2b := hh2 _ _ r2
      have r3a := hh _ _ r3
      have r3b := hh2 _ _ r3
      replace FL1 := Lib.hid FL1
      replace FL2 := Lib.hid FL2
      replace g4 := Lib.hid g4
      clear hh hh2 hx hy g1 g2 g3 hl1 hl2 hK1 hK2 B
      go_wp2_with fail
      go_cut [8, 9] from 27 to 114 (fun s8 s9 wx => ∃ p q : Nat, s8 = .pointer (some ⟨p, 0, none⟩) ∧ s9 = .pointer (some ⟨q, 0, none⟩) ∧ Arr wx p 39 [.string K1, .string K2, .slice fo1 fn1 fc1, .int .i64 z1] ∧ Arr wx q 39 [.string K1, .string K2, .slice fo2 fn1 fc2, .int .i64 z1] ∧ Below wr.heap.size wr wx)
      case first =>
        go_region
        · clear y1 y1a y1b y3 y3a y3b p0 p0a p0b p1 p1a p1b p2 p2a p2b p3 p3a p3b r0 r0a r0b r1 r1a r1b r2 r2a r2b r3 r3a r3b i1 i2
          obtain ⟨W, hW, A8, A9, BW, zW⟩ := two_box wr 39 [.string K1, .string K2, .slice fo1 fn1 fc1, .int .i64 z1] [.string K1, .string K2, .slice fo2 fn1 fc2, .int .i64 z1]
          rw [hW]
          clear hW zW
          try go_wp2_with fail
          go_meet
          exact ⟨_, _, rfl, rfl, A8, A9, BW⟩
        · clear y1 y1a y1b y3 y3a y3b p0 p0a p0b p1 p1a p1b p2 p2a p2b p3 p3a p3b r0 r0a r0b r1 r1a r1b r2 r2a r2b r3 r3a r3b i1 i2
          obtain ⟨W, hW, A8, A9, BW, zW⟩ := two_box wr 39 [.string K1, .string K2, .slice fo2 fn1 fc2, .int .i64 z1] [.string K1, .string K2, .slice fo1 fn1 fc1, .int .i64 z1]
          rw [hW]
          clear hW zW
          try go_wp2_with fail
          go_meet
          exact ⟨_, _, rfl, rfl, A9, A8, BW⟩
      case rest =>
        obtain ⟨p, q, rfl, rfl, A8, A9, BW⟩ := hcut
        obtain ⟨W, hWc⟩ : ∃ x, x = wc := ⟨_, rfl⟩
        subst hWc
        clear y1 y1a y1b y3 y3a y3b p0 p0a p0b p1 p1a p1b p2 p2a p2b p3 p3a p3b r0 r0a r0b r1 r1a r1b r2 r2a r2b r3 r3a r3b i1 i2
        have FLa : Hid (FldL true anyF W fo1 fn1 fc1 x.flds) := FldL.keep FL1.out stable_any (keeps_below _ BW)
        have FLb : Hid (FldL true anyF W fo2 fn1 fc2 y.flds) := FldL.keep FL2.out stable_any (keeps_below _ BW)
        have HBW : Hid (Below U.heap.size U W) := HBr.out.trans (BW.mono HBr.out.size)
        have AX : Hid (Arr W p 39 [.string K1, .string K2, .slice fo1 fn1 fc1, .int .i64 z1]) := A8
        have AY : Hid (Arr W q 39 [.string K1, .string K2, .slice fo2 fn1 fc2, .int .i64 z1]) := A9
        have c0 : W.cell? ⟨p, 0, none⟩ = some (.string K1) := AX.out.cell 0
        have c1 : W.cell? ⟨p, 1, none⟩ = some (.string K2) := AX.out.cell 1
        have c2 : W.cell? ⟨p, 2, none⟩ = some (.slice fo1 fn1 fc1) := AX.out.cell 2
        have c3 : W.cell? ⟨p, 3, none⟩ = some (.int .i64 z1) := AX.out.cell 3
        have d0 : W.cell? ⟨q, 0, none⟩ = some (.string K1) := AY.out.cell 0
        have d1 : W.cell? ⟨q, 1, none⟩ = some (.string K2) := AY.out.cell 1
        have d2 : W.cell? ⟨q, 2, none⟩ = some (.slice fo2 fn1 fc2) := AY.out.cell 2
        have d3 : W.cell? ⟨q, 3, none⟩ = some (.int .i64 z1) := AY.out.cell 3
        have hff : ((fn1 : Int) != (fn1 : Int)) = false := by simp
        clear A8 A9 BW FL1 FL2
        go_wp2_with fail
        clear c0 c1 c2 c3 d0 d1 d2 d3
        go_loopw [10, 11, 12] (fun iv _ _ wr => ∃ j2 : Nat, j2 ≤ fn1 ∧ iv = .int .i64 (j2 : Int) ∧ Below W.heap.size W wr) (fun iv _ _ _ => fn1 - (intOf iv).toNat)
        case atStart => exact ⟨0, by omega, rfl, Below.refl _ _⟩
        case round =>
          obtain ⟨j2, hj2, rfl, B2⟩ := hrel
          have HBi := Lib.hid B2
          have c2 : wr.cell? ⟨p, 2, none⟩ = some (.slice fo1 fn1 fc1) := (AX.out.kept B2).cell 2
          have d2 : wr.cell? ⟨q, 2, none⟩ = some (.slice fo2 fn1 fc2) := (AY.out.kept B2).cell 2
          by_cases hlt2 : j2 < fn1
          · have hlt2' : (j2 : Int) < (fn1 : Int) := by omega
            obtain ⟨fx, b1, vo1, vn1, vc1, u1, hfx, k1, v0, v1, v2, SL1, hu1⟩ := (FldL.keep FLa.out stable_any (keeps_below _ B2)).get j2 hlt2
            obtain ⟨fy, b2, vo2, vn2, vc2, u2, hfy, k2, w0, w1, w2, SL2, hu2⟩ := (FldL.keep FLb.out stable_any (keeps_below _ B2)).get j2 hlt2
            obtain ⟨e1, e2, e3⟩ := eqFs_at g4.out j2 fx fy hfx hfy
            rw [← e1] at w0
            rw [← e2] at SL2
            obtain rfl : vn1 = vn2 := by rw [← StrL.len SL1, ← StrL.len SL2]
            obtain rfl : u1 = u2 := by rw [hu1 rfl, hu2 rfl, e3 rfl]
            obtain ⟨L1, hL1⟩ : ∃ S, stg fx.key = S := ⟨_, rfl⟩
            rw [hL1] at v0 w0
            have l1 : (L1.toList == L1.toList) = true := by simp
            have hh := hold1 wr
            have hh2 := hold2 wr
            have c2a := hh _ _ c2
            have c2b := hh2 _ _ c2
            have d2a := hh _ _ d2
            have d2b := hh2 _ _ d2
            have v0a := hh _ _ v0
            have v0b := hh2 _ _ v0
            have v1a := hh _ _ v1
            have v1b := hh2 _ _ v1
            have v2a := hh _ _ v2
            have v2b := hh2 _ _ v2
            have w0a := hh _ _ w0
            have w0b := hh2 _ _ w0
            have w1a := hh _ _ w1
            have w1b := hh2 _ _ w1
            have w2a := hh _ _ w2
            have w2b := hh2 _ _ w2
            replace SL1 := Lib.hid SL1
            replace SL2 := Lib.hid SL2
            clear hh hh2 B2 hfx hfy hu1 hu2 e1 e2 e3 hL1
            go_wp2_with fail
            go_cut [11, 12] from 75 to 114 (fun s11 s12 wx => ∃ p2 q2 : Nat, s11 = .pointer (some ⟨p2, 0, none⟩) ∧ s12 = .pointer (some ⟨q2, 0, none⟩) ∧ Arr wx p2 42 [.string L1, .slice vo1 vn1 vc1, .int .i64 u1] ∧ Arr wx q2 42 [.string L1, .slice vo2 vn1 vc2, .int .i64 u1] ∧ Below wr.heap.size wr wx)
            case first =>
              go_region
              · clear c2 c2a c2b d2 d2a d2b v0 v0a v0b v1 v1a v1b v2 v2a v2b w0 w0a w0b w1 w1a w1b w2 w2a w2b k1 k2
                obtain ⟨W, hW, A8, A9, BW, zW⟩ := two_box wr 42 [.string L1, .slice vo1 vn1 vc1, .int .i64 u1] [.string L1, .slice vo2 vn1 vc2, .int .i64 u1]
                rw [hW]
                clear hW zW
                try go_wp2_with fail
                go_meet
                exact ⟨_, _, rfl, rfl, A8, A9, BW⟩
              · clear c2 c2a c2b d2 d2a d2b v0 v0a v0b v1 v1a v1b v2 v2a v2b w0 w0a w0b w1 w1a w1b w2 w2a w2b k1 k2
                obtain ⟨W, hW, A8, A9, BW, zW⟩ := two_box wr 42 [.string L1, .slice vo2 vn1 vc2, .int .i64 u1] [.string L1, .slice vo1 vn1 vc1, .int .i64 u1]
                rw [hW]
                clear hW zW
                try go_wp2_with fail
                go_meet
                exact ⟨_, _, rfl, rfl, A9, A8, BW⟩
            case rest =>
              obtain ⟨p2, q2, rfl, rfl, A11, A12, BX⟩ := hcut
              clear c2 c2a c2b d2 d2a d2b v0 v0a v0b v1 v1a v1b v2 v2a v2b w0 w0a w0b w1 w1a w1b w2 w2a w2b k1 k2
              have c0 : wc.cell? ⟨p2, 0, none⟩ = some (.string L1) := A11.cell 0
              have c1 : wc.cell? ⟨p2, 1, none⟩ = some (.slice vo1 vn1 vc1) := A11.cell 1
              have c2 : wc.cell? ⟨p2, 2, none⟩ = some (.int .i64 u1) := A11.cell 2
              have d0 : wc.cell? ⟨q2, 0, none⟩ = some (.string L1) := A12.cell 0
              have d1 : wc.cell? ⟨q2, 1, none⟩ = some (.slice vo2 vn1 vc2) := A12.cell 1
              have d2 : wc.cell? ⟨q2, 2, none⟩ = some (.int .i64 u1) := A12.cell 2
              have HSt := Lib.hid (strings_c vo1 vo2 vn1 vn1 vc1 vc2 fx.vals wc (Row.keep SL1.out stable_any (keeps_below _ BX)) (Row.keep SL2.out stable_any (keeps_below _ BX)))
              have hBX : Hid (Below W.heap.size W wc) := HBi.out.trans (BX.mono HBi.out.size)
              clear BX A11 A12
              go_wp2_with fail
              refine HSt.out.mono ?_
              rintro e w5 ⟨rfl, B5⟩
              have hB5 : Hid (Below W.heap.size W w5) := hBX.out.trans (B5.mono hBX.out.size)
              clear HSt B5 hBX c0 c1 c2 d0 d1 d2
              go_wp2_with fail
              go_roundw
              case rel => first | exact ⟨j2 + 1, by omega, by go_num, hB5.out⟩ | (repeat apply Exists.intro); exact ⟨⟨by omega, by go_num, hB5.out⟩, rfl⟩
              case measure => simp [intOf]; omega
          · obtain rfl : j2 = fn1 := by omega
            have hBx : Hid (Below U.heap.size U wr) := HBW.out.trans (B2.mono HBW.out.size)
            clear B2
            go_wp2_with fail
            go_roundw
            case rel => first | exact ⟨j + 1, by omega, by go_num, hBx.out⟩ | (repeat apply Exists.intro); exact ⟨⟨by omega, by go_num, hBx.out⟩, rfl⟩
            case measure => simp [intOf]; omega
    · obtain rfl : j = n := by omega
      have hBf : Hid (Below w.heap.size w wr) := by show Below _ _ _; rw [hb]; exact HB.out.trans (B.mono (by have := hUz.out; omega))
      go_wp2_with fail
      go_ret
      first | exact ⟨rfl, hBf.out⟩ | (rw [hb] at hBf; exact ⟨rfl, hBf.out⟩)
end Go.Proofs.Ytfknckbclddnmaa
