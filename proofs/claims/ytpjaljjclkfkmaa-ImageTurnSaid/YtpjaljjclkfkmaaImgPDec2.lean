/-
  The program's setRuns.
-/
import Derived.Test.YtpjaljjclkfkmaaImgPDec
namespace Go.Proofs.Ytpjaljjclkfkmaa
open Go.RowKit Im

namespace Im
/-- The bytes of the bits so far. -/
def bitsD (D : List Bool) : Nat → Bool := fun j => (D[j]?).getD false
theorem bitsD_snoc (D : List Bool) (b : Bool) : bitsD (D ++ [b]) = upd (bitsD D) D.length b := by
  funext j
  unfold bitsD upd
  by_cases h : j = D.length
  · subst h
    rw [if_pos rfl, List.getElem?_append_right (Nat.le_refl _), Nat.sub_self]
    rfl
  · rw [if_neg h]
    show ((D ++ [b])[j]?).getD false = (D[j]?).getD false
    by_cases hl : j < D.length
    · rw [List.getElem?_append_left hl]
    · rw [List.getElem?_eq_none (by rw [List.length_append, List.length_singleton]; omega), List.getElem?_eq_none (by omega)]
theorem bitsD_nil : bitsD [] = noB := by funext j; rfl
theorem rep_snoc (D : List Bool) (j : Nat) (b : Bool) : D ++ List.replicate (j + 1) b = (D ++ List.replicate j b) ++ [b] := by rw [List.replicate_succ', List.append_assoc]
/-- An image out of its bits. -/
theorem okD {v u : Nat} {D : List Bool} (h1 : 1 ≤ v) (h2 : v ≤ 512) (h3 : 1 ≤ u) (h4 : u ≤ 512) (hD : D.length = v * u) : OkI v u (packP (bitsD D) ((v * u + 7) / 8)) :=
  ⟨h1, h2, h3, h4, packP_len _ _, fun n hn hl => by
    rw [packP_len] at hl
    rw [bit_pack _ _ _ hl]
    unfold bitsD
    rw [List.getElem?_eq_none (by omega)]
    rfl⟩
theorem bitsFrom_D {v u : Nat} {D : List Bool} (hD : D.length = v * u) : bitsFrom (bitL (packP (bitsD D) ((v * u + 7) / 8))) 0 (v * u) = D := by
  apply List.ext_getElem?
  intro k
  by_cases h : k < v * u
  · rw [bitsFrom_get _ _ _ _ h, Nat.zero_add, bit_pack _ _ _ (by omega)]
    unfold bitsD
    rw [List.getElem?_eq_getElem (by omega)]
    rfl
  · rw [List.getElem?_eq_none (by rw [bitsFrom_len]; omega), List.getElem?_eq_none (by omega)]
end Im
/-- The length of a slice's value. -/
def slN : Value → Nat
  | .slice _ n _ => n
  | _ => 0
theorem flU_some {l : List Nat} {L : Nat} {r : List Nat} (h : flL l = some (L, r)) (hb : ∀ x ∈ l, x ≤ 255) : flU l = (L, l.length - r.length) ∧ r = l.drop (l.length - r.length) ∧ r.length < l.length := by
  have e := fl_some hb h
  have hl : l.length = (emit L).length + r.length := by rw [e, List.length_append]
  have he : 1 ≤ (emit L).length := by unfold emit; rw [List.length_append, List.length_singleton]; omega
  refine ⟨by unfold flU; rw [h], ?_, by omega⟩
  rw [show l.length - r.length = (emit L).length by omega]
  conv => rhs; rw [e]
  rw [List.drop_left]
theorem flU_none {l : List Nat} (h : flL l = none) : flU l = (0, 0) := by unfold flU; rw [h]
/-- What setRuns answers. -/
def RunsOut (B : Nat) (w : World) (gc m mc P : Nat) (c0 : List Nat) (e : Ending) (w' : World) : Prop :=
  ((∃ D : List Bool, e = .returned (.bool true) ∧ D.length = P ∧ encR D 0 false = c0 ∧ Own 5 .u8 B w' (some ⟨gc, 0, none⟩) m mc (packP (bitsD D) m)) ∨ (e = .returned (.bool false) ∧ ∀ D : List Bool, D.length = P → encR D 0 false ≠ c0)) ∧ w.grownBy w' (some gc)
set_option maxHeartbeats 6400000 in
set_option maxRecDepth 100000 in
theorem setRuns_c (v u B gc m mc : Nat) (ao : Option Addr) (n c : Nat) (c0 : List Nat) (w : World) (O : Own 5 .u8 B w (some ⟨gc, 0, none⟩) m mc (packP noB m)) (hvu : 1 ≤ v ∧ v ≤ 512 ∧ 1 ≤ u ∧ u ≤ 512) (hm : m = (v * u + 7) / 8) (hL : ∀ W, w.grownBy W (some gc) → Lst .u8 W ao n c (intsN c0)) (hn : n ≤ 1000000000) (hc : c0.length = n) :
    Calls Try.prog 49 #[.agg #[.int .i64 (v : Int), .int .i64 (u : Int), .slice (some ⟨gc, 0, none⟩) m mc], .slice ao n c] w (RunsOut B w gc m mc (v * u) c0) := by
  obtain ⟨V, e1, AV, BV, hz⟩ := new_img w v u (some ⟨gc, 0, none⟩) m mc
  have y0 : V.cell? ⟨w.heap.size, 0, none⟩ = some (.int .i64 (v : Int)) := AV.cell 0
  have y1 : V.cell? ⟨w.heap.size, 1, none⟩ = some (.int .i64 (u : Int)) := AV.cell 1
  obtain ⟨P, hP0⟩ : ∃ P, Hid (v * u = P) := ⟨_, rfl⟩
  have hPb : P ≤ 262144 := by rw [← hP0.out]; exact area_le hvu.2.1 hvu.2.2.2
  have hP1 : 1 ≤ P := by rw [← hP0.out]; exact Nat.mul_pos (by omega) (by omega)
  have hP : (v : Int) * (u : Int) = (P : Int) := by rw [← hP0.out]; exact (Int.natCast_mul v u).symm
  rw [hP0.out] at hm ⊢
  have hm8 : P ≤ 8 * m := by omega
  have hmb : m ≤ 1000000 := by omega
  have hm1 : 1 ≤ m := by omega
  have hgcl := World.ownsRow.lt O.1 gc rfl
  have HBase : Hid (w.grownBy V (some gc) ∧ Own 5 .u8 B V (some ⟨gc, 0, none⟩) m mc (packP (bitsD []) m) ∧ Arr V w.heap.size 24 [.int .i64 (v : Int), .int .i64 (u : Int), .slice (some ⟨gc, 0, none⟩) m mc]) :=
    ⟨grown_of_below BV _, by rw [bitsD_nil]; exact O.kept BV, AV⟩
  have hgne : Hid (gc < w.heap.size) := hgcl.2
  have HLst := Lib.hid hL
  have hbytes : ∀ x ∈ c0, x ≤ 255 := by
    intro x hx
    have h1 := (hL w ⟨rfl, rfl, rfl, Nat.le_refl _, fun _ _ _ => rfl⟩).bytes (x : Int) (by unfold intsN; exact List.mem_map.2 ⟨x, hx, rfl⟩)
    omega
  have HR0 := Lib.hid (runs_start (N := P) hbytes)
  clear AV BV hz O hL hgcl hbytes hm
  go_enter Try.func49, Try.ntmps49
  go_wp2_with fail
  clear y0 y1
  go_loopw [1, 6, 7] (fun s1 nv ov wr => ∃ (D : List Bool) (code : List Nat) (co : Option Addr) (cn cc : Nat) (on : Bool), D.length ≤ P ∧ cn ≤ n ∧ s1 = .slice co cn cc ∧ nv = .int .i64 (D.length : Int) ∧ ov = .bool on ∧ Hid (∀ W, w.grownBy W (some gc) → Lst .u8 W co cn cc (intsN code)) ∧ Hid (code.length = cn) ∧ Hid (Runs P c0 D code on (decide (D.length = 0) && !on)) ∧
      Hid (w.grownBy wr (some gc) ∧ Own 5 .u8 B wr (some ⟨gc, 0, none⟩) m mc (packP (bitsD D) m) ∧ Arr wr w.heap.size 24 [.int .i64 (v : Int), .int .i64 (u : Int), .slice (some ⟨gc, 0, none⟩) m mc])) (fun s1 _ _ _ => slN s1)
  case atStart => exact ⟨[], c0, ao, n, c, false, Nat.zero_le _, Nat.le_refl _, rfl, rfl, rfl, HLst, hc, HR0, HBase⟩
  case round =>
    obtain ⟨v1, hv1⟩ : ∃ y, y = wr := ⟨_, rfl⟩
    subst hv1
    clear HBase HR0 HLst
    obtain ⟨D, code, co, cn, cc, on, hDP, hcn, rfl, rfl, rfl, HL, hcl, HR, HS⟩ := hrel
    obtain ⟨N, hN⟩ : ∃ N, D.length = N := ⟨_, rfl⟩
    rw [hN] at hDP HR
    by_cases hlt : N < P
    · have hlt' : (N : Int) < (P : Int) := by omega
      have HC := first_c co cn cc code v1 (HL.out _ HS.out.1) (by omega)
      have hbc := HR.out.2.1
      obtain ⟨Rm, hRm⟩ : ∃ R : Int, (P : Int) - (N : Int) = R := ⟨_, rfl⟩
      cases hfl : flL code with
      | none =>
        rw [flU_none hfl] at HC
        replace HC := Lib.hid HC
        have hbad : Hid (∀ D' : List Bool, D'.length = P → encR D' 0 false ≠ c0) := fun D' hD' => runs_bad HR.out (by rw [hN]; exact hlt) (fun L r h => by rw [hfl] at h; cases h) D' hD'
        have hG := Lib.hid HS.out.1
        clear hfl HR hbc HL
        rw [hN]
        go_wp2_with (go_at_call 53; (with_reducible refine HC.out.mono ?_); rintro e w2 ⟨rfl, rfl⟩)
        all_goals
          go_ret
          exact ⟨Or.inr ⟨rfl, hbad.out⟩, hG.out⟩
      | some p =>
        obtain ⟨L, r⟩ := p
        obtain ⟨hu1, hu2, hu3⟩ := flU_some hfl hbc
        rw [hu1] at HC
        obtain ⟨U, hU⟩ : ∃ U, code.length - r.length = U := ⟨_, rfl⟩
        rw [hU] at HC hu2
        have hUn : 1 ≤ U ∧ U ≤ cn := by have := hcl.out; omega
        replace HC := Lib.hid HC
        have hU0 : ((U : Int) == 0) = false := by simp; omega
        have hG := Lib.hid HS.out.1
        by_cases hbig : P - N < L
        · have hbig' : decide ((L : Int) > (P : Int) - (N : Int)) = true := decide_eq_true (by omega)
          have hbig2 : (P : Int) - (N : Int) < (L : Int) := by omega
          have hbad : Hid (∀ D' : List Bool, D'.length = P → encR D' 0 false ≠ c0) := fun D' hD' => runs_bad HR.out (by rw [hN]; exact hlt) (fun L' r' h => by rw [hfl] at h; injection h with h; injection h with h1 h2; left; rw [hN]; omega) D' hD'
          clear hfl HR hbc HL hu1 hu2 hu3 hU
          rw [hN]
          rw [hRm] at hbig' hbig2
          have hw : wrap64 Rm = Rm := by unfold wrap64; omega
          go_wp2_with (go_at_call 53; (with_reducible refine HC.out.mono ?_); rintro e w2 ⟨rfl, rfl⟩)
          all_goals
            go_ret
            exact ⟨Or.inr ⟨rfl, hbad.out⟩, hG.out⟩
        · have hsm : decide ((L : Int) > Rm) = false := decide_eq_false (by omega)
          have hsm2 : ¬ Rm < (L : Int) := by omega
          obtain ⟨f, hf⟩ : ∃ f, (decide (N = 0) && !on) = f := ⟨_, rfl⟩
          have hf2 : (((N : Int) == 0) && !on) = f := by
            rw [← hf]
            by_cases h0 : N = 0
            · subst h0; rfl
            · rw [decide_eq_false h0]
              have : ((N : Int) == 0) = false := by simp; omega
              rw [this]
          by_cases hz : L = 0 ∧ f = false
          · obtain ⟨rfl, hff⟩ := hz
            have hbad : Hid (∀ D' : List Bool, D'.length = P → encR D' 0 false ≠ c0) := fun D' hD' => runs_bad HR.out (by rw [hN]; exact hlt) (fun L' r' h => by rw [hfl] at h; injection h with h; injection h with h1 h2; exact Or.inr ⟨h1.symm, hf.trans hff⟩) D' hD'
            clear hfl HR hbc HL hu1 hu2 hu3 hU
            rw [hN]
            have h4 : (N ≠ 0) ∨ (N = 0 ∧ on = true) := by
              by_cases h0 : N = 0
              · right
                refine ⟨h0, ?_⟩
                subst h0
                rw [hff] at hf
                cases on
                · cases hf
                · rfl
              · exact Or.inl h0
            rcases h4 with h4 | ⟨h4, rfl⟩
            · have h5 : ((N : Int) == 0) = false := by simp; omega
              go_wp2_with (go_at_call 53; (with_reducible refine HC.out.mono ?_); rintro e w2 ⟨rfl, rfl⟩)
              all_goals
                go_ret
                exact ⟨Or.inr ⟨rfl, hbad.out⟩, hG.out⟩
            · subst h4
              go_wp2_with (go_at_call 53; (with_reducible refine HC.out.mono ?_); rintro e w2 ⟨rfl, rfl⟩)
              all_goals
                go_ret
                exact ⟨Or.inr ⟨rfl, hbad.out⟩, hG.out⟩
          · have hLf : f = false → L ≠ 0 := fun e1 e2 => hz ⟨e2, e1⟩
            have hRn := runs_next HR.out hfl (by rw [hN]; omega) (by rw [hf]; exact hLf)
            have hlen2 : (D ++ List.replicate L on).length = N + L := by rw [List.length_append, List.length_replicate, hN]
            have hon : (decide ((D ++ List.replicate L on).length = 0) && !(!on)) = false := by
              rw [hlen2]
              cases on with
              | false => simp
              | true =>
                have : f = false := by rw [← hf]; simp
                have := hLf this
                rw [decide_eq_false (by omega)]
                rfl
            have HR2 : Hid (Runs P c0 (D ++ List.replicate L on) r (!on) (decide ((D ++ List.replicate L on).length = 0) && !(!on))) := by show Runs _ _ _ _ _ _; rw [hon]; exact hRn
            have HL2 : Hid (∀ W, w.grownBy W (some gc) → Lst .u8 W (cutA co cc U) (cn - U) (cc - U) (intsN r)) := fun W hW => by
              have h1 := (HL.out W hW).cut (j := U) hUn.2
              rw [intsN_drop, ← hu2] at h1
              exact h1
            have hsl := slice_from co cn cc U hUn.2
            have hrl : Hid (r.length = cn - U) := by show _ = _; have := hcl.out; rw [← hU]; omega
            have hNL : N + L ≤ P := by omega
            have hDN := Lib.hid hN
            have h6 : (((N : Int) == 0) = false ∧ ((L : Int) == 0) = false) ∨ (((N : Int) == 0) = true ∧ on = false ∧ ((L : Int) == 0) = true) ∨ (((N : Int) == 0) = true ∧ on = false ∧ ((L : Int) == 0) = false) ∨ (((N : Int) == 0) = true ∧ on = true ∧ ((L : Int) == 0) = false) := by
              by_cases h0 : N = 0
              · have h00 : ((N : Int) == 0) = true := by simp; omega
                cases on with
                | false =>
                  by_cases hl0 : L = 0
                  · exact Or.inr (Or.inl ⟨h00, rfl, by simp; omega⟩)
                  · exact Or.inr (Or.inr (Or.inl ⟨h00, rfl, by simp; omega⟩))
                | true =>
                  have : f = false := by rw [← hf]; simp
                  have := hLf this
                  exact Or.inr (Or.inr (Or.inr ⟨h00, rfl, by simp; omega⟩))
              · left
                have : f = false := by rw [← hf, decide_eq_false h0]; rfl
                have := hLf this
                exact ⟨by simp; omega, by simp; omega⟩
            have hcutn : cn - U < cn := by omega
            have hcutn2 : cn - U ≤ n := by omega
            have hwL : wrap64 Rm = Rm := by unfold wrap64; omega
            have hpost : Hid (∀ e w', RunsOut B w gc m mc P c0 e w' → RunsOut B w gc m mc P c0 e w') := fun _ _ h => h
            clear hfl HR hbc HL hu1 hu2 hu3 hU hlen2 hon hRn hz hf hf2 hLf
            rw [hN]
            clear hN
            obtain ⟨bv, hbv⟩ : ∃ b, Hid (b = on) := ⟨on, rfl⟩
            obtain ⟨Lv, hLv⟩ : ∃ l, Hid (l = L) := ⟨L, rfl⟩
            replace HR2 : Hid (Runs P c0 (D ++ List.replicate Lv bv) r (!bv) (decide ((D ++ List.replicate Lv bv).length = 0) && !(!bv))) := by rw [hbv.out, hLv.out]; exact HR2
            have hDL : D.length + Lv ≤ P := by rw [hDN.out, hLv.out]; exact hNL
            have hnb : (!on) = (!bv) := by rw [hbv.out]
            replace hnb := Lib.hid hnb
            clear hpost hsm hsm2 hbig hG
            rcases h6 with ⟨h61, h62⟩ | ⟨h61, rfl, h62⟩ | ⟨h61, rfl, h62⟩ | ⟨h61, rfl, h62⟩
            all_goals
              go_wp2_with (go_at_call 53; (with_reducible refine HC.out.mono ?_); rintro e w2 ⟨rfl, rfl⟩)
            all_goals
              clear hRm hlt'
              go_loopw [6, 48] (fun nv jv wr => ∃ j Ki : Nat, j ≤ Lv ∧ Hid (Ki = D.length + j) ∧ jv = .int .i64 (j : Int) ∧ nv = .int .i64 (Ki : Int) ∧ Hid (w.grownBy wr (some gc) ∧ Own 5 .u8 B wr (some ⟨gc, 0, none⟩) m mc (packP (bitsD (D ++ List.replicate j bv)) m) ∧ Arr wr w.heap.size 24 [.int .i64 (v : Int), .int .i64 (u : Int), .slice (some ⟨gc, 0, none⟩) m mc])) (fun _ jv _ => Lv - (intOf jv).toNat)
              case atStart => exact ⟨0, D.length, Nat.zero_le _, rfl, rfl, by first | (rw [hDN.out]; done) | (rw [hDN.out]; rfl), by rw [List.replicate_zero, List.append_nil]; exact HS⟩
              case round =>
                obtain ⟨v3, hv3⟩ : ∃ y, y = wr := ⟨_, rfl⟩
                subst hv3
                obtain ⟨j, Ki, hj, hKi, rfl, rfl, HI⟩ := hrel
                by_cases hjl : j < Lv
                · have hlv := hLv.out
                  first
                    | (exfalso; omega)
                    | (
                      have hjl2 : (j : Int) < (Lv : Int) := by omega
                      rw [hLv.out] at hjl2
                      have d0 : v3.cell? ⟨w.heap.size, 0, none⟩ = some (.int .i64 (v : Int)) := HI.out.2.2.cell 0
                      have d1 : v3.cell? ⟨w.heap.size, 1, none⟩ = some (.int .i64 (u : Int)) := HI.out.2.2.cell 1
                      have d2 : v3.cell? ⟨w.heap.size, 2, none⟩ = some (.slice (some ⟨gc, 0, none⟩) m mc) := HI.out.2.2.cell 2
                      have hKP : Ki < P := by have := hKi.out; omega
                      have HT := set_c v u B (some ⟨gc, 0, none⟩) m mc (bitsD (D ++ List.replicate j bv)) Ki bv v3 HI.out.2.1 (by omega) hmb
                      rw [hbv.out] at HT
                      replace HT := Lib.hid HT
                      have hend : Hid (∀ Z, SetOut B v3 (some ⟨gc, 0, none⟩) m mc (bitsD (D ++ List.replicate j bv)) Ki bv (.returned (.tuple #[])) Z → w.grownBy Z (some gc) ∧ Own 5 .u8 B Z (some ⟨gc, 0, none⟩) m mc (packP (bitsD (D ++ List.replicate (j + 1) bv)) m) ∧ Arr Z w.heap.size 24 [.int .i64 (v : Int), .int .i64 (u : Int), .slice (some ⟨gc, 0, none⟩) m mc]) := by
                        rintro Z ⟨_, OZ, GZ0⟩
                        have GZ : v3.grownBy Z (some gc) := GZ0
                        refine ⟨grown_trans HI.out.1 GZ, ?_, HI.out.2.2.grownBy GZ (by have := hgne.out; omega)⟩
                        rw [rep_snoc, bitsD_snoc, List.length_append, List.length_replicate, ← hKi.out]
                        exact OZ
                      rw [hbv.out] at hend
                      have hK2 : Hid (Ki + 1 = D.length + (j + 1)) := by show _ = _; have := hKi.out; omega
                      clear hlv
                      go_wp2_with (go_at_call 41; (with_reducible refine HT.out.mono ?_); rintro e Z hZ; obtain ⟨⟨rr, rfl⟩, OZ, GZ⟩ := hZ; have hZ2 := Lib.hid (hend.out Z ⟨⟨_, rfl⟩, OZ, GZ⟩); clear OZ GZ)
                      go_roundw
                      case rel => exact ⟨j + 1, Ki + 1, by omega, hK2, by go_num, by go_num, by first | exact hZ2 | (rw [hbv.out]; exact hZ2)⟩
                      case measure => simp [intOf]; omega)
                · have hjl2 : ¬ (j : Int) < (Lv : Int) := by omega
                  rw [hLv.out] at hjl2
                  have hje : j = Lv := by omega
                  have HI2 : Hid (w.grownBy v3 (some gc) ∧ Own 5 .u8 B v3 (some ⟨gc, 0, none⟩) m mc (packP (bitsD (D ++ List.replicate Lv bv)) m) ∧ Arr v3 w.heap.size 24 [.int .i64 (v : Int), .int .i64 (u : Int), .slice (some ⟨gc, 0, none⟩) m mc]) := by rw [← hje]; exact HI
                  have hKK : Hid (Ki = (D ++ List.replicate Lv bv).length) := by show _ = _; rw [List.length_append, List.length_replicate, ← hje]; exact hKi.out
                  have hKP : Hid ((D ++ List.replicate Lv bv).length ≤ P) := by show _ ≤ _; rw [List.length_append, List.length_replicate]; exact hDL
                  clear HI hje
                  go_wp2_with fail
                  go_roundw
                  case rel => exact ⟨D ++ List.replicate Lv bv, r, cutA co cc U, cn - U, cc - U, !bv, hKP.out, hcutn2, rfl, by rw [← hKK.out], by first | rfl | (rw [hbv.out]; done) | (rw [hbv.out]; rfl), HL2, hrl, HR2, HI2⟩
                  case measure => exact hcutn
    · obtain rfl : N = P := by omega
      have hE := runs_end HR.out hN hP1
      have hG := Lib.hid HS.out.1
      by_cases h0 : cn = 0
      · have hc0 : code = [] := List.eq_nil_of_length_eq_zero (by rw [hcl.out]; exact h0)
        have hfin : Hid (∃ D : List Bool, D.length = N ∧ encR D 0 false = c0 ∧ Own 5 .u8 B v1 (some ⟨gc, 0, none⟩) m mc (packP (bitsD D) m)) := ⟨D, hN, hE.1 hc0, HS.out.2.1⟩
        subst h0
        clear hE HR
        rw [hN]
        go_wp2_with fail
        go_ret
        obtain ⟨D2, x1, x2, x3⟩ := hfin.out
        exact ⟨Or.inl ⟨D2, rfl, x1, x2, x3⟩, hG.out⟩
      · have hc0 : code ≠ [] := fun e => h0 (by rw [← hcl.out, e]; rfl)
        have hfin := Lib.hid (hE.2 hc0)
        have h00 : ((cn : Int) == 0) = false := by simp; omega
        clear hE HR
        rw [hN]
        go_wp2_with fail
        go_ret
        exact ⟨Or.inr ⟨rfl, hfin.out⟩, hG.out⟩
end Go.Proofs.Ytpjaljjclkfkmaa
