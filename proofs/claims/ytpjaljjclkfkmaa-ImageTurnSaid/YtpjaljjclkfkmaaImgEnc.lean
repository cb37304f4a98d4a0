/-
  The reference's Encode.
-/
import Derived.Test.YtpjaljjclkfkmaaImgValid
import Derived.Test.YtpjaljjclkfkmaaImgCode
import Derived.Deep.Onto
namespace Go.Proofs.Ytpjaljjclkfkmaa
open Go.RowKit Im

namespace Im
def intsN (xs : List Nat) : List Int := xs.map fun (k : Nat) => (k : Int)
theorem intsN_len (xs : List Nat) : (intsN xs).length = xs.length := by simp [intsN]
theorem intsN_snoc (xs : List Nat) (k : Nat) : intsN xs ++ [(k : Int)] = intsN (xs ++ [k]) := by simp [intsN]
theorem emit_len (run : Nat) : (emit run).length ≤ run + 1 := by
  unfold emit
  rw [List.length_append, List.length_replicate, List.length_singleton]
  omega
theorem encR_len : ∀ (l : List Bool) (run : Nat) (on : Bool), (encR l run on).length ≤ 2 * l.length + run + 1
  | [], run, _ => by
    rw [encR]
    have := emit_len run
    simp only [List.length_nil]
    omega
  | b :: l, run, on => by
    rw [encR, List.length_cons]
    split
    · have := encR_len l (run + 1) on
      omega
    · rw [List.length_append]
      have := encR_len l 1 (!on)
      have := emit_len run
      omega
theorem encP_len (v u : Nat) (f : Nat → Bool) : (encP v u f).length ≤ 2 * (v * u) + 5 := by
  unfold encP
  rw [List.length_append, List.length_append]
  have := encR_len (bitsFrom f 0 (v * u)) 0 false
  rw [bitsFrom_len] at this
  show 2 + 2 + _ ≤ _
  omega
/-- What is still to be written at bit i. -/
def cur (f : Nat → Bool) (N i run : Nat) (on : Bool) : List Nat := if i ≤ N then encR (bitsFrom f i (N - i)) run on else []
theorem cur_split {f : Nat → Bool} {N i : Nat} (h : i < N) (run : Nat) (on : Bool) : cur f N i run on = if f i = on then cur f N (i + 1) (run + 1) on else emit run ++ cur f N (i + 1) 1 (!on) := by
  unfold cur
  rw [if_pos (show i ≤ N by omega), if_pos (show i + 1 ≤ N by omega), if_pos (show i + 1 ≤ N by omega), show N - i = N - (i + 1) + 1 by omega, bitsFrom_succ, encR]
theorem cur_last (f : Nat → Bool) (N run : Nat) (on : Bool) : cur f N N run on = emit run ++ cur f N (N + 1) 1 (!on) := by
  unfold cur
  rw [if_pos (Nat.le_refl _), if_neg (by omega), Nat.sub_self, List.append_nil]
  rfl
theorem cur_end (f : Nat → Bool) (N run : Nat) (on : Bool) : cur f N (N + 1) run on = [] := if_neg (by omega)
end Im
set_option maxHeartbeats 3200000 in
set_option maxRecDepth 100000 in
theorem refEncode_c (v u : Nat) (ao : Option Addr) (n c : Nat) (bs : List Int) (w : World) (h : Lst .u8 w ao n c bs) (hO : OkI v u bs) :
    Calls Try.prog 33 #[.agg #[.int .i64 (v : Int), .int .i64 (u : Int), .slice ao n c]] w fun e w' => ∃ (ro : Option Addr) (m d : Nat), e = .returned (.slice ro m d) ∧ Own 5 .u8 w.heap.size w' ro m d (intsN (encP v u (bitL bs))) ∧ Below w.heap.size w w' := by
  obtain ⟨V, e1, AV, BV, hz⟩ := new_img w v u ao n c
  have y0 : V.cell? ⟨w.heap.size, 0, none⟩ = some (.int .i64 (v : Int)) := AV.cell 0
  have y1 : V.cell? ⟨w.heap.size, 1, none⟩ = some (.int .i64 (u : Int)) := AV.cell 1
  have q1 := hO.w2
  have q2 := hO.h2
  obtain ⟨TOT, hTOT⟩ : ∃ T, Hid (encP v u (bitL bs) = T) := ⟨_, rfl⟩
  rw [hTOT.out]
  go_enter Try.func33, Try.ntmps33
  go_wp2_with fail
  obtain ⟨P, hP0⟩ : ∃ P, Hid (v * u = P) := ⟨_, rfl⟩
  have hPb : P ≤ 262144 := by rw [← hP0.out]; exact area_le q1 q2
  have hP : (v : Int) * (u : Int) = (P : Int) := by rw [← hP0.out]; exact (Int.natCast_mul v u).symm
  have hTl : Hid (TOT.length ≤ 600000) := by
    show _ ≤ _
    have := encP_len v u (bitL bs)
    rw [hTOT.out, hP0.out] at this
    omega
  have hlen : Hid (bs.length = n) := h.len
  have hnl : P ≤ 8 * n := by have := hO.len; rw [hP0.out, hlen.out] at this; omega
  have hnb : n ≤ 1000000 := by have := hO.len; rw [hP0.out, hlen.out] at this; omega
  obtain ⟨W, hW⟩ : ∃ W, V.alloc (.cells #[.int .u8 ((v : Int) / 256), .int .u8 ((v : Int) % 256), .int .u8 ((u : Int) / 256), .int .u8 ((u : Int) % 256)] 5) = W := ⟨_, rfl⟩
  have BW : Below V.heap.size V W := by rw [← hW]; exact (Below.refl _ _).alloc (Nat.le_refl _) _
  have O0 : Own 5 .u8 V.heap.size W (some ⟨w.heap.size + 1, 0, none⟩) 4 4 (intsN (two v ++ two u)) := by
    have e : intsN (two v ++ two u) = [(v : Int) / 256, (v : Int) % 256, (u : Int) / 256, (u : Int) % 256] := by
      simp only [intsN, two, List.cons_append, List.nil_append, List.map_cons, List.map_nil]
      rw [Nat.mod_eq_of_lt (show v / 256 < 256 by omega), Nat.mod_eq_of_lt (show u / 256 < 256 by omega)]
      simp
    rw [e, ← hW, ← hz]
    refine ⟨World.ownsRow_lit V #[.int .u8 ((v : Int) / 256), .int .u8 ((v : Int) % 256), .int .u8 ((u : Int) / 256), .int .u8 ((u : Int) % 256)] 4 (by omega) (by unfold maxLen; omega) rfl, ?_⟩
    intro z hzz
    simp at hzz
    rcases hzz with rfl | rfl | rfl | rfl <;> exact wf_u8 (by omega) (by omega)
  rw [hW]
  have A0 := Lib.hid AV
  have HL := Lib.hid (h.below BV)
  have HB : Hid (Below w.heap.size w V) := BV
  have HW := Lib.hid BW
  have hzl : Hid (w.heap.size ≤ V.heap.size) := BV.size
  have hI0 : Hid (TOT = two v ++ two u ++ cur (bitL bs) P 0 0 false) := by
    show _ = _
    rw [← hTOT.out]
    unfold encP cur
    rw [hP0.out, if_pos (Nat.zero_le _), Nat.sub_zero]
  clear e1 y0 y1 AV BV BW hz hW h hO
  go_loopw [3, 4, 5, 6] (fun bv rv ov iv wr => ∃ (i run : Nat) (on : Bool) (xs : List Nat) (ro : Option Addr) (d : Nat), i ≤ P + 1 ∧ run ≤ i ∧ iv = .int .i64 (i : Int) ∧ rv = .int .i64 (run : Int) ∧ ov = .bool on ∧ bv = .slice ro xs.length d ∧ Own 5 .u8 V.heap.size wr ro xs.length d (intsN xs) ∧ TOT = xs ++ cur (bitL bs) P i run on ∧ Below V.heap.size V wr) (fun _ _ _ iv _ => P + 1 - (intOf iv).toNat)
  case atStart => exact ⟨0, 0, false, two v ++ two u, _, _, Nat.zero_le _, Nat.le_refl _, rfl, rfl, rfl, rfl, O0, hI0.out, HW.out⟩
  case round =>
    obtain ⟨v1, hv1⟩ : ∃ y, y = wr := ⟨_, rfl⟩
    subst hv1
    clear O0 hI0 HW
    obtain ⟨i, run, on, xs, ro, d, hi, hrun, rfl, rfl, rfl, rfl, O, hA, B⟩ := hrel
    have y0 : v1.cell? ⟨w.heap.size, 0, none⟩ = some (.int .i64 (v : Int)) := (A0.out.kept B).cell 0
    have y1 : v1.cell? ⟨w.heap.size, 1, none⟩ = some (.int .i64 (u : Int)) := (A0.out.kept B).cell 1
    have y2 : v1.cell? ⟨w.heap.size, 2, none⟩ = some (.slice ao n c) := (A0.out.kept B).cell 2
    replace hA := Lib.hid hA
    by_cases hlt : i ≤ P
    · have hlt' : (i : Int) ≤ (P : Int) := by omega
      by_cases hlt2 : i < P
      · have hlt3 : (i : Int) < (P : Int) := by omega
        have HC := refBit_c ao n c i bs v1 (HL.out.below B) (by omega) hnb
        obtain ⟨b, hb⟩ : ∃ b, bitL bs i = b := ⟨_, rfl⟩
        have hA2 := hA.out
        rw [cur_split hlt2, hb] at hA2
        rw [hb] at HC
        replace HC := Lib.hid HC
        clear hb
        by_cases hbo : b = on
        · subst hbo
          rw [if_pos rfl] at hA2
          replace hA2 := Lib.hid hA2
          replace O := Lib.hid O
          replace B := Lib.hid B
          have hbb : (b == b) = true := beq_self_eq_true _
          go_wp2_with fail
          refine HC.out.mono ?_
          rintro e w5 ⟨rfl, rfl⟩
          go_wp2_with fail
          go_roundw
          case rel => exact ⟨i + 1, run + 1, b, xs, ro, d, by omega, by omega, by go_num, by go_num, rfl, rfl, O.out, hA2.out, B.out⟩
          case measure => simp [intOf]; omega
        · have hbb : (b == on) = false := by simp [hbo]
          rw [if_neg hbo] at hA2
          have hN1 : Hid (TOT = xs ++ (emit run ++ cur (bitL bs) P (i + 1) 1 (!on))) := hA2
          clear hA2 hbo
          go_wp2_with fail
          refine HC.out.mono ?_
          rintro e w5 ⟨rfl, rfl⟩
          clear HC
          have hsz : V.heap.size ≤ v1.heap.size := B.size
          replace O := Lib.hid O
          replace B := Lib.hid B
          go_wp2_with fail
          clear y0 y1 y2 hsz
          go_loopw [3, 4] (fun bv rv wx => ∃ (r2 : Nat) (xs2 : List Nat) (ro2 : Option Addr) (d2 : Nat), r2 ≤ run ∧ rv = .int .i64 (r2 : Int) ∧ bv = .slice ro2 xs2.length d2 ∧ Own 5 .u8 V.heap.size wx ro2 xs2.length d2 (intsN xs2) ∧ TOT = xs2 ++ (emit r2 ++ cur (bitL bs) P (i + 1) 1 (!on)) ∧ Below V.heap.size V wx) (fun _ rv _ => (intOf rv).toNat)
          case atStart => exact ⟨run, xs, ro, d, Nat.le_refl _, rfl, rfl, O.out, hN1.out, B.out⟩
          case round =>
            clear O B
            obtain ⟨r2, xs2, ro2, d2, hr2, rfl, rfl, O, hT, B⟩ := hrel
            have hsz : V.heap.size ≤ wr.heap.size := B.size
            have hxl : xs2.length ≤ 600000 := by
              have h1 := hTl.out
              rw [hT, List.length_append] at h1
              omega
            replace hT := Lib.hid hT
            replace O := Lib.hid O
            replace B := Lib.hid B
            by_cases hbig : 255 ≤ r2
            · have hbig' : (255 : Int) ≤ (r2 : Int) := by omega
              have hT2 : Hid (TOT = (xs2 ++ [255]) ++ (emit (r2 - 255) ++ cur (bitL bs) P (i + 1) 1 (!on))) := by
                show _ = _
                rw [hT.out, emit_big hbig]
                simp
              obtain ⟨r3, hr3⟩ : ∃ r, Hid (r2 - 255 = r) := ⟨_, rfl⟩
              have hsub : (r2 : Int) - 255 = (r3 : Int) := by have := hr3.out; omega
              rw [hr3.out] at hT2
              go_wp2_with (at_builtin; refine wpList_app1 (B := V.heap.size) O.out hsz (by omega) (by omega) (by omega) rfl rfl ?_)
              intro a3 c3 w3 O3 b3
              rw [show (255 : Int) = ((255 : Nat) : Int) from rfl, intsN_snoc] at O3
              have B3 : Hid (Below V.heap.size V w3) := B.out.trans b3
              obtain ⟨L, hL⟩ : ∃ L, Hid (xs2.length + 1 = L) := ⟨_, rfl⟩
              have hL2 : Hid (L = (xs2 ++ [255]).length) := by show _ = _; rw [← hL.out]; simp
              rw [hL.out] at O3 ⊢
              replace O3 := Lib.hid O3
              clear b3
              go_wp2_with fail
              go_roundw
              case rel => exact ⟨r3, xs2 ++ [255], a3, c3, by have := hr3.out; omega, by go_num, by rw [hL2.out], by rw [← hL2.out]; exact O3.out, hT2.out, B3.out⟩
              case measure => simp [intOf]; have := hr3.out; omega
            · have hsm : ¬ (255 : Int) ≤ (r2 : Int) := by omega
              have hwr : IntKind.u8.wrap (r2 : Int) = (r2 : Int) := by rw [IntKind.wrap_u8]; omega
              have hmod : (r2 : Int) % 256 = (r2 : Int) := by omega
              have hT2 : Hid (TOT = (xs2 ++ [r2]) ++ cur (bitL bs) P (i + 1) 1 (!on)) := by
                show _ = _
                rw [hT.out, emit_small (by omega)]
                simp
              go_wp2_with (at_builtin; refine wpList_app1 (B := V.heap.size) O.out hsz (by omega) (by omega) (by omega) rfl rfl ?_)
              intro a3 c3 w3 O3 b3
              rw [intsN_snoc] at O3
              have B3 : Hid (Below V.heap.size V w3) := B.out.trans b3
              obtain ⟨L, hL⟩ : ∃ L, Hid (xs2.length + 1 = L) := ⟨_, rfl⟩
              have hL2 : Hid (L = (xs2 ++ [r2]).length) := by show _ = _; rw [← hL.out]; simp
              rw [hL.out] at O3 ⊢
              replace O3 := Lib.hid O3
              clear b3
              go_wp2_with fail
              go_roundw
              case rel => exact ⟨i + 1, 1, !on, xs2 ++ [r2], a3, c3, by omega, by omega, by go_num, by go_num, rfl, by rw [hL2.out], by rw [← hL2.out]; exact O3.out, hT2.out, B3.out⟩
              case measure => simp [intOf]; omega
      · have hge : ¬ (i : Int) < (P : Int) := by omega
        obtain rfl : i = P := by omega
        have hA2 := hA.out
        rw [cur_last] at hA2
        have hN1 : Hid (TOT = xs ++ (emit run ++ cur (bitL bs) i (i + 1) 1 (!on))) := hA2
        clear hA2
        have hsz : V.heap.size ≤ v1.heap.size := B.size
        replace O := Lib.hid O
        replace B := Lib.hid B
        go_wp2_with fail
        clear y0 y1 y2 hsz
        go_loopw [3, 4] (fun bv rv wx => ∃ (r2 : Nat) (xs2 : List Nat) (ro2 : Option Addr) (d2 : Nat), r2 ≤ run ∧ rv = .int .i64 (r2 : Int) ∧ bv = .slice ro2 xs2.length d2 ∧ Own 5 .u8 V.heap.size wx ro2 xs2.length d2 (intsN xs2) ∧ TOT = xs2 ++ (emit r2 ++ cur (bitL bs) i (i + 1) 1 (!on)) ∧ Below V.heap.size V wx) (fun _ rv _ => (intOf rv).toNat)
        case atStart => exact ⟨run, xs, ro, d, Nat.le_refl _, rfl, rfl, O.out, hN1.out, B.out⟩
        case round =>
          clear O B
          obtain ⟨r2, xs2, ro2, d2, hr2, rfl, rfl, O, hT, B⟩ := hrel
          have hsz : V.heap.size ≤ wr.heap.size := B.size
          have hxl : xs2.length ≤ 600000 := by
            have h1 := hTl.out
            rw [hT, List.length_append] at h1
            omega
          replace hT := Lib.hid hT
          replace O := Lib.hid O
          replace B := Lib.hid B
          by_cases hbig : 255 ≤ r2
          · have hbig' : (255 : Int) ≤ (r2 : Int) := by omega
            have hT2 : Hid (TOT = (xs2 ++ [255]) ++ (emit (r2 - 255) ++ cur (bitL bs) i (i + 1) 1 (!on))) := by
              show _ = _
              rw [hT.out, emit_big hbig]
              simp
            obtain ⟨r3, hr3⟩ : ∃ r, Hid (r2 - 255 = r) := ⟨_, rfl⟩
            have hsub : (r2 : Int) - 255 = (r3 : Int) := by have := hr3.out; omega
            rw [hr3.out] at hT2
            go_wp2_with (at_builtin; refine wpList_app1 (B := V.heap.size) O.out hsz (by omega) (by omega) (by omega) rfl rfl ?_)
            intro a3 c3 w3 O3 b3
            rw [show (255 : Int) = ((255 : Nat) : Int) from rfl, intsN_snoc] at O3
            have B3 : Hid (Below V.heap.size V w3) := B.out.trans b3
            obtain ⟨L, hL⟩ : ∃ L, Hid (xs2.length + 1 = L) := ⟨_, rfl⟩
            have hL2 : Hid (L = (xs2 ++ [255]).length) := by show _ = _; rw [← hL.out]; simp
            rw [hL.out] at O3 ⊢
            replace O3 := Lib.hid O3
            clear b3
            go_wp2_with fail
            go_roundw
            case rel => exact ⟨r3, xs2 ++ [255], a3, c3, by have := hr3.out; omega, by go_num, by rw [hL2.out], by rw [← hL2.out]; exact O3.out, hT2.out, B3.out⟩
            case measure => simp [intOf]; have := hr3.out; omega
          · have hsm : ¬ (255 : Int) ≤ (r2 : Int) := by omega
            have hwr : IntKind.u8.wrap (r2 : Int) = (r2 : Int) := by rw [IntKind.wrap_u8]; omega
            have hmod : (r2 : Int) % 256 = (r2 : Int) := by omega
            have hT2 : Hid (TOT = (xs2 ++ [r2]) ++ cur (bitL bs) i (i + 1) 1 (!on)) := by
              show _ = _
              rw [hT.out, emit_small (by omega)]
              simp
            go_wp2_with (at_builtin; refine wpList_app1 (B := V.heap.size) O.out hsz (by omega) (by omega) (by omega) rfl rfl ?_)
            intro a3 c3 w3 O3 b3
            rw [intsN_snoc] at O3
            have B3 : Hid (Below V.heap.size V w3) := B.out.trans b3
            obtain ⟨L, hL⟩ : ∃ L, Hid (xs2.length + 1 = L) := ⟨_, rfl⟩
            have hL2 : Hid (L = (xs2 ++ [r2]).length) := by show _ = _; rw [← hL.out]; simp
            rw [hL.out] at O3 ⊢
            replace O3 := Lib.hid O3
            clear b3
            go_wp2_with fail
            go_roundw
            case rel => exact ⟨i + 1, 1, !on, xs2 ++ [r2], a3, c3, by omega, by omega, by go_num, by go_num, rfl, by rw [hL2.out], by rw [← hL2.out]; exact O3.out, hT2.out, B3.out⟩
            case measure => simp [intOf]
    · have hgt : ¬ (i : Int) ≤ (P : Int) := by omega
      have hfin : Hid (TOT = xs) := by
        show _ = _
        have h1 := hA.out
        rw [show i = P + 1 by omega, cur_end, List.append_nil] at h1
        exact h1
      have hBx : Hid (Below w.heap.size w v1) := HB.out.trans (B.mono hzl.out)
      go_wp2_with fail
      go_ret
      exact ⟨ro, xs.length, d, rfl, by rw [hfin.out]; exact ⟨World.ownsRow.mono O.1 hzl.out, O.2⟩, hBx.out⟩
end Go.Proofs.Ytpjaljjclkfkmaa
