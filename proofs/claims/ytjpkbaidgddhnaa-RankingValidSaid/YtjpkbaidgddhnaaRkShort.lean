/-
  electionlaw13.short.
-/
import Derived.Test.YtjpkbaidgddhnaaRkReg
namespace Go.Proofs.Ytjpkbaidgddhnaa
open Go.RowKit Rk

/-- Where short's boxes lie, and what they hold. -/
structure ShA where
  g : Nat
  gv : Nat
  g4 : Nat
  g5 : Nat
  gw : Nat
  cs : List Value
  vt : Int
  ro : Option Addr
  rn : Nat
  rc : Nat
def zC : List Value := [.string ⟨#[]⟩, .slice none 0 0, .int .i64 0, .int .i64 0, .int .i64 0, .int .i64 0, .int .i64 0, .int .i64 0, .int .i64 0]
structure ShI (B : Nat) (w0 w : World) (a : ShA) (wr : World) (ao : Option Addr) (i d : Nat) (us : List Value) (ls : List (List Int)) : Prop where
  c : Arr wr a.g 24 a.cs
  v : Arr wr a.gv 27 [.int .i64 a.vt, .slice a.ro a.rn a.rc]
  z4 : Arr wr a.g4 24 zC
  z5 : Arr wr a.g5 27 [.int .i64 0, .slice none 0 0]
  x : Arr wr a.gw 27 [.int .i64 a.vt, .slice ao i d]
  row : wr.ownsRow B 32 1 (.slice ao i d) i us
  vals : LsV w0 ls us
  low : Below w.heap.size w wr
  base : B = w.heap.size
  ne : a.g ≠ a.gw ∧ a.gv ≠ a.gw ∧ a.g4 ≠ a.gw ∧ a.g5 ≠ a.gw ∧ B ≤ a.gw
section
variable {B : Nat} {w0 w wr : World} {a : ShA} {ao : Option Addr} {i d : Nat} {us : List Value} {ls : List (List Int)}
theorem ShI.drew (h : ShI B w0 w a wr ao i d us ls) : ShI B w0 w a wr.drew ao i d us ls := ⟨h.c, h.v, h.z4, h.z5, h.x, h.row, h.vals, ⟨h.low.os, h.low.tape, h.low.output, h.low.size, h.low.block⟩, h.base, h.ne⟩
theorem ShI.drewN (h : ShI B w0 w a wr ao i d us ls) (q : Nat) : ShI B w0 w a (wr.drewN q) ao i d us ls := ⟨h.c, h.v, h.z4, h.z5, h.x, h.row, h.vals, below_drewN h.low q, h.base, h.ne⟩
/-- One list more. -/
theorem ShI.add (h : ShI B w0 w a wr ao i d us ls) {bo : Option Addr} {m e : Nat} {l : List Int} (hL : Lst .i64 w0 bo m e l) (h0 : bo = none → e = 0) :
    ∃ X, wr.alloc (.cells #[.slice bo m e] 32) = X ∧ Arr X wr.heap.size 32 [.slice bo m e] ∧ X.ownsRow B 32 1 (.slice ao i d) i us ∧ B ≤ X.heap.size ∧ X.cell? ⟨a.gw, 1, none⟩ = some (.slice ao i d) ∧ X.cell? ⟨a.gv, 1, none⟩ = some (.slice a.ro a.rn a.rc) ∧ Below w.heap.size w X ∧
      ∀ ao' d' w5, w5.ownsRow B 32 1 (.slice ao' (i + 1) d') (i + 1) (us ++ [.slice bo m e]) → X.grownBy w5 (Value.slice ao i d).ownBlock → Below B X w5 →
        ∃ Z, w5.setCell ⟨a.gw, 1, none⟩ (.slice ao' (i + 1) d') = Z ∧ w5.cell? ⟨a.gw, 1, none⟩ = some (.slice ao i d) ∧ w5.frozen? ⟨a.gw, 1, none⟩ = false ∧ w5.cell? ⟨a.gv, 1, none⟩ = some (.slice a.ro a.rn a.rc) ∧ Below w.heap.size w w5 ∧ ShI B w0 w a Z ao' (i + 1) d' (us ++ [.slice bo m e]) (ls ++ [l]) := by
  obtain ⟨X, e1, AX, BX, _⟩ := new_box wr 32 [.slice bo m e]
  have OX := ownsRow_keep h.row BX
  have hB : B ≤ wr.heap.size := by rw [h.base]; exact h.low.size
  refine ⟨X, e1, AX, OX, Nat.le_trans hB BX.size, (h.x.kept BX).cell 1, (h.v.kept BX).cell 1, h.low.trans (BX.mono (by rw [← h.base]; exact hB)), fun ao' d' w5 O5 G5 B5 => ?_⟩
  have x5 := (h.x.kept BX).row OX (by decide) G5
  have c5 := (h.c.kept BX).row OX (by decide) G5
  have v5 := (h.v.kept BX).row OX (by decide) G5
  have p5 := (h.z4.kept BX).row OX (by decide) G5
  have q5 := (h.z5.kept BX).row OX (by decide) G5
  have b1 : Below w.heap.size w w5 := by
    have hb := h.low.trans (BX.mono (by rw [← h.base]; exact hB))
    exact hb.trans (by rw [← h.base]; exact B5)
  exact ⟨_, rfl, x5.cell 1, x5.frozen 1, v5.cell 1, b1, c5.off h.ne.1 _, v5.off h.ne.2.1 _, p5.off h.ne.2.2.1 _, q5.off h.ne.2.2.2.1 _, x5.set 1 _, row_set O5 x5 (by decide) _, h.vals.snoc hL h0, b1.setCell (p := ⟨a.gw, 1, none⟩) (by rw [← h.base]; exact h.ne.2.2.2.2) _, h.base, h.ne⟩
end

set_option maxHeartbeats 3200000 in
set_option maxRecDepth 100000 in
theorem short_c (nm : ByteArray) (co : Option Addr) (n cc : Nat) (me se rk dg ti ov sk vt : Int) (ro : Option Addr) (rn rc : Nat) (ls : List (List Int)) (w0 w : World) (h : Rks w0 ro rn rc ls) (hb : Below w0.heap.size w0 w) (hcc : n ≤ cc) (hcc2 : cc ≤ 9223372036854775807) :
    Calls Try.prog 8 #[.agg #[.string nm, .slice co n cc, .int .i64 me, .int .i64 se, .int .i64 rk, .int .i64 dg, .int .i64 ti, .int .i64 ov, .int .i64 sk], .agg #[.int .i64 vt, .slice ro rn rc]] w
      fun e w' => ∃ (n' : Nat) (rk' : Int) (qo : Option Addr) (qn qc : Nat) (ms : List (List Int)), e = .returned (.tuple #[.agg #[.string nm, .slice co n' cc, .int .i64 me, .int .i64 se, .int .i64 rk', .int .i64 dg, .int .i64 ti, .int .i64 ov, .int .i64 sk], .agg #[.int .i64 vt, .slice qo qn qc]]) ∧
        n' ≤ 7 ∧ n' ≤ cc ∧ rk' ≤ 7 ∧ qn ≤ 8 ∧ (∃ us, w'.ownsRow w.heap.size 32 1 (.slice qo qn qc) qn us ∧ LsV w0 ms us) ∧ Below w.heap.size w w' := by
  obtain ⟨n', hn'⟩ : ∃ n' : Nat, (if (7 : Int) < (n : Int) then (7 : Int) else (n : Int)) = (n' : Int) := by
    by_cases h : 7 < n
    · exact ⟨7, by rw [if_pos (by omega)]; rfl⟩
    · exact ⟨n, by rw [if_neg (by omega)]⟩
  obtain ⟨rk', hrk'⟩ : ∃ r, (if (7 : Int) < rk then (7 : Int) else rk) = r := ⟨_, rfl⟩
  have hn7 : n' ≤ 7 ∧ n' ≤ cc := by
    by_cases h : (7 : Int) < (n : Int)
    · rw [if_pos h] at hn'; omega
    · rw [if_neg h] at hn'; omega
  have hr7 : Hid (rk' ≤ 7) := by show _ ≤ _; rw [← hrk']; split <;> omega
  have hn8 := hn7.2
  have hcap := h.cap
  have hroom := h.room
  obtain ⟨V, e1, AV, BV, zV⟩ := new_box w 24 [.string nm, .slice co n cc, .int .i64 me, .int .i64 se, .int .i64 rk, .int .i64 dg, .int .i64 ti, .int .i64 ov, .int .i64 sk]
  obtain ⟨U, e2, AU, BU, zU⟩ := new_box V 27 [.int .i64 vt, .slice ro rn rc]
  obtain ⟨X4, e3, A4, B4, z4⟩ := new_box U 24 zC
  obtain ⟨X5, e4, A5, B5, z5⟩ := new_box X4 27 [.int .i64 0, .slice none 0 0]
  simp only [zC] at e3 A4
  have cA : Arr X5 w.heap.size 24 [.string nm, .slice co n cc, .int .i64 me, .int .i64 se, .int .i64 rk, .int .i64 dg, .int .i64 ti, .int .i64 ov, .int .i64 sk] := ((AV.kept BU).kept B4).kept B5
  have vA : Arr X5 V.heap.size 27 [.int .i64 vt, .slice ro rn rc] := (AU.kept B4).kept B5
  have pA := A4.kept B5
  have b5 : Below w.heap.size w X5 := ((BV.trans (BU.mono BV.size)).trans (B4.mono (by omega))).trans (B5.mono (by omega))
  obtain ⟨Y1, f1⟩ : ∃ Y, X5.setCell ⟨w.heap.size, 1, none⟩ (.slice co n' cc) = Y := ⟨_, rfl⟩
  have cB : Arr Y1 w.heap.size 24 [.string nm, .slice co n' cc, .int .i64 me, .int .i64 se, .int .i64 rk, .int .i64 dg, .int .i64 ti, .int .i64 ov, .int .i64 sk] := by rw [← f1]; exact cA.set 1 _
  have vB : Arr Y1 V.heap.size 27 [.int .i64 vt, .slice ro rn rc] := by rw [← f1]; exact vA.off (by omega) _
  have pB : Arr Y1 U.heap.size 24 zC := by rw [← f1]; exact pA.off (by omega) _
  have qB : Arr Y1 X4.heap.size 27 [.int .i64 0, .slice none 0 0] := by rw [← f1]; exact A5.off (by omega) _
  have bB : Below w.heap.size w Y1 := by rw [← f1]; exact b5.setCell (p := ⟨w.heap.size, 1, none⟩) (Nat.le_refl _) _
  have sB : Y1.heap.size = X5.heap.size := by rw [← f1]; simp [World.setCell]
  obtain ⟨Y2, f2⟩ : ∃ Y, Y1.setCell ⟨w.heap.size, 4, none⟩ (.int .i64 rk') = Y := ⟨_, rfl⟩
  have cC : Arr Y2 w.heap.size 24 [.string nm, .slice co n' cc, .int .i64 me, .int .i64 se, .int .i64 rk', .int .i64 dg, .int .i64 ti, .int .i64 ov, .int .i64 sk] := by rw [← f2]; exact cB.set 4 _
  have vC : Arr Y2 V.heap.size 27 [.int .i64 vt, .slice ro rn rc] := by rw [← f2]; exact vB.off (by omega) _
  have pC : Arr Y2 U.heap.size 24 zC := by rw [← f2]; exact pB.off (by omega) _
  have qC : Arr Y2 X4.heap.size 27 [.int .i64 0, .slice none 0 0] := by rw [← f2]; exact qB.off (by omega) _
  have bC : Below w.heap.size w Y2 := by rw [← f2]; exact bB.setCell (p := ⟨w.heap.size, 4, none⟩) (Nat.le_refl _) _
  have sC : Y2.heap.size = X5.heap.size := by rw [← f2]; simpa [World.setCell] using sB
  obtain ⟨Y3, f3, xD, BD, zD⟩ := new_box Y2 27 [.int .i64 0, .slice none 0 0]
  obtain ⟨Y4, Y5, f4, f5, xE, _, LE, k0, k1, k2, k3⟩ := box_let2 xD (.int .i64 vt) (.slice none 0 0)
  have GE : Below Y2.heap.size Y3 Y5 := LE _ _ (Below.refl _ _) (Nat.le_refl _)
  have BE : Below w.heap.size w Y5 := (bC.trans (BD.mono bC.size)).trans (GE.mono bC.size)
  obtain ⟨A, hA⟩ : ∃ A : ShA, A = ⟨w.heap.size, V.heap.size, U.heap.size, X4.heap.size, Y2.heap.size, [.string nm, .slice co n' cc, .int .i64 me, .int .i64 se, .int .i64 rk', .int .i64 dg, .int .i64 ti, .int .i64 ov, .int .i64 sk], vt, ro, rn, rc⟩ := ⟨_, rfl⟩
  have keepE : ∀ {g : Nat} {t : TypeId} {cs : List Value}, Arr Y2 g t cs → Arr Y5 g t cs := fun hh => ((hh.kept BD).below GE hh.lt)
  have hI0 : Hid (ShI w.heap.size w0 w A Y5 none 0 0 [] []) := by
    rw [hA]
    exact ⟨keepE cC, keepE vC, keepE pC, keepE qC, xE, World.ownsRow_nil _ _ _ _, rfl, BE, rfl, by refine ⟨?_, ?_, ?_, ?_, ?_⟩ <;> dsimp only <;> omega⟩
  have m1 : X5.cell? ⟨w.heap.size, 1, none⟩ = some (.slice co n cc) := cA.cell 1
  have m2 : X5.frozen? ⟨w.heap.size, 1, none⟩ = false := cA.frozen 1
  have m3 : Y1.cell? ⟨w.heap.size, 4, none⟩ = some (.int .i64 rk) := cB.cell 4
  have m4 : Y1.frozen? ⟨w.heap.size, 4, none⟩ = false := cB.frozen 4
  have m5 : Y2.cell? ⟨V.heap.size, 0, none⟩ = some (.int .i64 vt) := vC.cell 0
  have HR : Hid (Rks w0 ro rn rc ls) := h
  have HB0 := Lib.hid hb
  have hne0 : X4.heap.size ≠ U.heap.size ∧ Y2.heap.size ≠ U.heap.size ∧ w.heap.size ≤ U.heap.size ∧ U.heap.size ≠ X4.heap.size ∧ w.heap.size ≤ X4.heap.size := by refine ⟨?_, ?_, ?_, ?_, ?_⟩ <;> omega
  replace hne0 := Lib.hid hne0
  clear AV BV zV AU BU zU A4 B4 z4 A5 B5 z5 cA vA pA b5 cB vB pB qB bB sB cC vC pC qC bC sC xD BD zD xE LE GE BE keepE h hb
  go_enter Try.func8, Try.ntmps8
  go_wp2_with fail
  clear m1 m2 m3 m4 m5 e1 e2 e3 e4 f1 f2 f3 f4 f5 k0 k1 k2 k3 hn' hrk'
  have HA : Hid (∀ (W : World) (ao : Option Addr) (i d : Nat) (us : List Value) (ms : List (List Int)), ShI w.heap.size w0 w A W ao i d us ms → W.cell? ⟨Y2.heap.size, 1, none⟩ = some (.slice ao i d) ∧ W.cell? ⟨V.heap.size, 1, none⟩ = some (.slice ro rn rc) ∧ Arr W w.heap.size 24 [.string nm, .slice co n' cc, .int .i64 me, .int .i64 se, .int .i64 rk', .int .i64 dg, .int .i64 ti, .int .i64 ov, .int .i64 sk] ∧ Arr W Y2.heap.size 27 [.int .i64 vt, .slice ao i d] ∧ Arr W U.heap.size 24 zC ∧ Arr W X4.heap.size 27 [.int .i64 0, .slice none 0 0]) := fun W ao i d us ms hh => by
    rw [hA] at hh
    exact ⟨hh.x.cell 1, hh.v.cell 1, hh.c, hh.x, hh.z4, hh.z5⟩
  have hgw : Hid (A.gw = Y2.heap.size) := by show _ = _; rw [hA]
  have hgv : Hid (A.gv = V.heap.size ∧ A.ro = ro ∧ A.rn = rn ∧ A.rc = rc) := by show _ ∧ _; rw [hA]; exact ⟨rfl, rfl, rfl, rfl⟩
  have hne : Hid (X4.heap.size ≠ U.heap.size ∧ Y2.heap.size ≠ U.heap.size ∧ w.heap.size ≤ U.heap.size ∧ U.heap.size ≠ X4.heap.size ∧ w.heap.size ≤ X4.heap.size) := hne0.out
  clear hA hne0
  go_loopw [7] (fun iv wr => ∃ (i : Nat) (ao : Option Addr) (d : Nat) (us : List Value) (ms : List (List Int)), i ≤ rn ∧ i ≤ 8 ∧ iv = .int .i64 (i : Int) ∧ Hid (ShI w.heap.size w0 w A wr ao i d us ms)) (fun iv _ => rn - (intOf iv).toNat)
  case atStart => exact ⟨0, none, 0, [], [], Nat.zero_le _, by omega, rfl, hI0⟩
  case round =>
    obtain ⟨v1, hv1⟩ : ∃ y, y = wr := ⟨_, rfl⟩
    subst hv1
    clear hI0
    obtain ⟨i, ao, d, us, ms, hi, hi8, rfl, hI⟩ := hrel
    obtain ⟨p1, p2, pc, pw, pz4, pz5⟩ := HA.out v1 ao i d us ms hI.out
    by_cases hlt : i < rn ∧ i < 8
    · have hin := hlt.1
      have hin' : (i : Int) < (rn : Int) := by omega
      have hi7' : (i : Int) < 8 := by omega
      have hb1 : Below w0.heap.size w0 v1 := HB0.out.trans (hI.out.low.mono HB0.out.size)
      have hRv := HR.out.below hb1
      have hix := ixR hRv i i rfl hin
      obtain ⟨bo, l1, d1, p3o, hL, h0⟩ := HR.out.cell i hin
      have p3 : v1.cell? (pt ro i) = some (.slice bo l1 d1) := (hb1.cell (World.block_lt_of_cell? w0 _ p3o)).trans p3o
      have hld := hL.cap
      have hdm := hL.room
      obtain ⟨m1, hm1⟩ : ∃ m1 : Nat, (if (9 : Int) < (l1 : Int) then (9 : Int) else (l1 : Int)) = (m1 : Int) := by
        by_cases h : 9 < l1
        · exact ⟨9, by rw [if_pos (by omega)]; rfl⟩
        · exact ⟨l1, by rw [if_neg (by omega)]⟩
      have hml : m1 ≤ l1 := by
        by_cases h : (9 : Int) < (l1 : Int)
        · rw [if_pos h] at hm1; omega
        · rw [if_neg h] at hm1; omega
      have hmd : (m1 : Int) ≤ (d1 : Int) := by omega
      have hI2 : ShI w.heap.size w0 w A v1.drew ao i d us ms := hI.out.drew
      obtain ⟨X, eX, AX, OX, hBX, x1, x2, LX, hadd⟩ := hI2.add (hL.take hml) h0
      rw [hgw.out] at x1 hadd
      rw [hgv.out.1, hgv.out.2.1, hgv.out.2.2.1, hgv.out.2.2.2] at x2 hadd
      have x3 : X.cell? (pt ro i) = some (.slice bo l1 d1) := ((HB0.out.trans (LX.mono HB0.out.size)).cell (World.block_lt_of_cell? w0 _ p3o)).trans p3o
      have hlo := World.block_lt_of_cell? w0 _ p3o
      clear hI2 hRv hb1 hL pc pw pz4 pz5 hlt LX
      go_upto_region 7 with fail
      refine wp_region_L [(16, fun w' => w'.cell? ⟨Y2.heap.size, 1, none⟩ = some (.slice ao i d)), (18, fun w' => w'.cell? ⟨V.heap.size, 1, none⟩ = some (.slice ro rn rc) ∧ w'.cell? (pt ro i) = some (.slice bo l1 d1))] (by kernel_rfl) (fun c hc _ => by simp only [List.mem_cons, List.not_mem_nil, or_false] at hc; rcases hc with rfl | rfl; exact p1; exact ⟨p2, p3⟩) (fun hS => ?_)
      refine regL_pure (i := 0) rfl (by rfl) (by kernel_rfl) (by kernel_rfl) (by kernel_rfl) (fun _ _ _ h => h) (by rfl) hS (v := ?vs1) ?hys1 ?rts1
      case hys1 => (intro w'; go_simp <;> try rfl)
      intro hS
      try simp only [Act.put, List.setIfInBounds_toArray, List.set_cons_zero, List.set_cons_succ]
      refine regL_take (i := 1) (16, fun w' => w'.cell? ⟨Y2.heap.size, 1, none⟩ = some (.slice ao i d)) rfl (by simp) (by rfl) (by kernel_rfl) (by rfl) (by kernel_rfl) (by kernel_rfl) (by kernel_rfl) (fun _ _ _ h => h) (by rfl) hS (v := ?vs2) ?hys2 ?rts2
      case hys2 => (intro w' hc; dsimp only at hc; go_simp <;> try rfl)
      intro hS
      try simp only [Act.put, List.setIfInBounds_toArray, List.set_cons_zero, List.set_cons_succ]
      refine regL_pure (i := 2) rfl (by rfl) (by kernel_rfl) (by kernel_rfl) (by kernel_rfl) (fun _ _ _ h => h) (by rfl) hS (v := ?vs3) ?hys3 ?rts3
      case hys3 => (intro w'; go_simp <;> try rfl)
      intro hS
      try simp only [Act.put, List.setIfInBounds_toArray, List.set_cons_zero, List.set_cons_succ]
      refine regL_take (i := 3) (18, fun w' => w'.cell? ⟨V.heap.size, 1, none⟩ = some (.slice ro rn rc) ∧ w'.cell? (pt ro i) = some (.slice bo l1 d1)) rfl (by simp) (by rfl) (by kernel_rfl) (by rfl) (by kernel_rfl) (by kernel_rfl) (by kernel_rfl) (fun _ _ _ h => h) (by rfl) hS (v := ?vs4) ?hys4 ?rts4
      case hys4 => (intro w' hc; dsimp only at hc; go_simp <;> try rfl)
      intro hS
      try simp only [Act.put, List.setIfInBounds_toArray, List.set_cons_zero, List.set_cons_succ]
      refine regL_pure (i := 4) rfl (by rfl) (by kernel_rfl) (by kernel_rfl) (by kernel_rfl) (fun _ _ _ h => h) (by rfl) hS (v := ?vs5) ?hys5 ?rts5
      case hys5 => (intro w'; go_simp <;> try rfl)
      intro hS
      try simp only [Act.put, List.setIfInBounds_toArray, List.set_cons_zero, List.set_cons_succ]
      refine regL_pure (i := 5) rfl (by rfl) (by kernel_rfl) (by kernel_rfl) (by kernel_rfl) (fun _ _ _ h => h) (by rfl) hS (v := ?vs6) ?hys6 ?rts6
      case hys6 => (intro w'; go_simp <;> try rfl)
      intro hS
      try simp only [Act.put, List.setIfInBounds_toArray, List.set_cons_zero, List.set_cons_succ]
      refine regL_take (i := 6) (18, fun w' => w'.cell? ⟨V.heap.size, 1, none⟩ = some (.slice ro rn rc) ∧ w'.cell? (pt ro i) = some (.slice bo l1 d1)) rfl (by simp) (by rfl) (by kernel_rfl) (by rfl) (by kernel_rfl) (by kernel_rfl) (by kernel_rfl) (fun _ _ _ h => h) (by rfl) hS (v := ?vs7) ?hys7 ?rts7
      case hys7 => (intro w' hc; dsimp only at hc; go_simp <;> try rfl)
      intro hS
      try simp only [Act.put, List.setIfInBounds_toArray, List.set_cons_zero, List.set_cons_succ]
      refine regL_pure (i := 7) rfl (by rfl) (by kernel_rfl) (by kernel_rfl) (by kernel_rfl) (fun _ _ _ h => h) (by rfl) hS (v := ?vs8) ?hys8 ?rts8
      case hys8 => (intro w'; go_simp <;> try rfl)
      intro hS
      try simp only [Act.put, List.setIfInBounds_toArray, List.set_cons_zero, List.set_cons_succ]
      refine regL_take (i := 8) (18, fun w' => w'.cell? ⟨V.heap.size, 1, none⟩ = some (.slice ro rn rc) ∧ w'.cell? (pt ro i) = some (.slice bo l1 d1)) rfl (by simp) (by rfl) (by kernel_rfl) (by rfl) (by kernel_rfl) (by kernel_rfl) (by kernel_rfl) (fun _ _ _ h => h) (by rfl) hS (v := ?vs9) ?hys9 ?rts9
      case hys9 => (intro w' hc; dsimp only at hc; go_simp <;> try rfl)
      intro hS
      try simp only [Act.put, List.setIfInBounds_toArray, List.set_cons_zero, List.set_cons_succ]
      refine regL_pure (i := 9) rfl (by rfl) (by kernel_rfl) (by kernel_rfl) (by kernel_rfl) (fun _ _ _ h => h) (by rfl) hS (v := ?vs10) ?hys10 ?rts10
      case hys10 => (intro w'; go_simp <;> try rfl)
      intro hS
      try simp only [Act.put, List.setIfInBounds_toArray, List.set_cons_zero, List.set_cons_succ]
      refine regL_pure (i := 10) rfl (by rfl) (by kernel_rfl) (by kernel_rfl) (by kernel_rfl) (fun _ _ _ h => h) (by rfl) hS (v := ?vs11) ?hys11 ?rts11
      case hys11 => (intro w'; go_simp <;> try rfl)
      intro hS
      try simp only [Act.put, List.setIfInBounds_toArray, List.set_cons_zero, List.set_cons_succ]
      refine regL_take (i := 11) (18, fun w' => w'.cell? ⟨V.heap.size, 1, none⟩ = some (.slice ro rn rc) ∧ w'.cell? (pt ro i) = some (.slice bo l1 d1)) rfl (by simp) (by rfl) (by kernel_rfl) (by rfl) (by kernel_rfl) (by kernel_rfl) (by kernel_rfl) (fun _ _ _ h => h) (by rfl) hS (v := ?vs12) ?hys12 ?rts12
      case hys12 => (intro w' hc; dsimp only at hc; go_simp <;> try rfl)
      intro hS
      try simp only [Act.put, List.setIfInBounds_toArray, List.set_cons_zero, List.set_cons_succ]
      refine regL_pure (i := 12) rfl (by rfl) (by kernel_rfl) (by kernel_rfl) (by kernel_rfl) (fun _ _ _ h => h) (by rfl) hS (v := ?vs13) ?hys13 ?rts13
      case hys13 => (intro w'; go_simp <;> try rfl)
      intro hS
      try simp only [Act.put, List.setIfInBounds_toArray, List.set_cons_zero, List.set_cons_succ]
      refine regL_pure (i := 13) rfl (by rfl) (by kernel_rfl) (by kernel_rfl) (by kernel_rfl) (fun _ _ _ h => h) (by rfl) hS (v := ?vs14) ?hys14 ?rts14
      case hys14 => (intro w'; go_simp <;> try rfl)
      intro hS
      try simp only [Act.put, List.setIfInBounds_toArray, List.set_cons_zero, List.set_cons_succ]
      refine regL_pure (i := 14) rfl (by rfl) (by kernel_rfl) (by kernel_rfl) (by kernel_rfl) (fun _ _ _ h => h) (by rfl) hS (v := ?vs15) ?hys15 ?rts15
      case hys15 => (intro w'; go_simp <;> try rfl)
      intro hS
      try simp only [Act.put, List.setIfInBounds_toArray, List.set_cons_zero, List.set_cons_succ]
      refine regL_ready (rs := [15]) (by kernel_rfl) (by simp) ?_
      refine regL_cons rfl (by rfl) (fun K hK => ?_) regL_nil
      go_simp
      refine hK.out _ _ (fun c hc hl => by simp only [List.mem_cons, List.not_mem_nil, or_false] at hc; rcases hc with rfl | rfl; exact x1; exact ⟨x2, x3⟩) ?_
      clear hK K
      intro hS
      try simp only [Act.put, List.setIfInBounds_toArray, List.set_cons_zero, List.set_cons_succ]
      refine regL_ready (rs := [16]) (by kernel_rfl) (by simp) ?_
      refine regL_cons rfl (by rfl) (fun K hK => ?_) regL_nil
      refine wp_appH (vs := [.slice bo m1 d1]) Try.underlying25 infoR rfl (by decide) (by decide) _ _ rfl AX OX hBX (by omega) rfl (by intro u hu; rw [List.mem_singleton.1 hu]; rfl) rfl rfl ?_
      intro ao5 d5 w5 O5 G5 B5
      obtain ⟨Z, eZ, cZ, fZ, z2, LZ, IZ0⟩ := hadd ao5 d5 w5 O5 G5 B5
      have z3 : w5.cell? (pt ro i) = some (.slice bo l1 d1) := ((HB0.out.trans (LZ.mono HB0.out.size)).cell hlo).trans p3o
      refine hK.out _ _ (fun c hc hl => by simp only [List.mem_cons, List.not_mem_nil, or_false] at hc; rcases hc with rfl | rfl; exact Bool.noConfusion (show true = false from hl); exact ⟨z2, z3⟩) ?_
      clear hK K
      intro hS
      try simp only [Act.put, List.setIfInBounds_toArray, List.set_cons_zero, List.set_cons_succ]
      refine regL_pure (i := 17) rfl (by rfl) (by kernel_rfl) (by kernel_rfl) (by kernel_rfl) (fun _ _ _ h => h) (by rfl) hS (v := ?vs16) ?hys16 ?rts16
      case hys16 => (intro w'; go_simp <;> try rfl)
      intro hS
      try simp only [Act.put, List.setIfInBounds_toArray, List.set_cons_zero, List.set_cons_succ]
      refine regL_ready (rs := [18]) (by kernel_rfl) (by simp) ?_
      refine regL_cons rfl (by rfl) (fun K hK => ?_) regL_nil
      go_simp
      refine hK.out _ _ (fun c hc hl => by simp only [List.mem_cons, List.not_mem_nil, or_false] at hc; rcases hc with rfl | rfl; exact Bool.noConfusion (show true = false from hl); exact Bool.noConfusion (show true = false from hl)) ?_
      clear hK K
      intro hS
      try simp only [Act.put, List.setIfInBounds_toArray, List.set_cons_zero, List.set_cons_succ]
      refine regL_done (by kernel_rfl) ?_ _
      have IZ := Lib.hid IZ0
      clear z2 z3 LZ cZ fZ eZ AX OX hBX x1 x2 x3 eX hadd
      go_wp2_with fail
      go_roundw
      case rel => exact ⟨i + 1, ao5, d5, us ++ [.slice bo m1 d1], ms ++ [(ls.getD i []).take m1], by omega, by omega, by go_num, IZ⟩
      case measure => simp [intOf]; omega
    · have hend : ¬ (i : Int) < (rn : Int) ∨ ((i : Int) < (rn : Int) ∧ ¬ (i : Int) < 8) := by omega
      have b0 : Below w.heap.size w v1.drew := hI.out.low.drew
      have pcd : Arr v1.drew w.heap.size 24 [.string nm, .slice co n' cc, .int .i64 me, .int .i64 se, .int .i64 rk', .int .i64 dg, .int .i64 ti, .int .i64 ov, .int .i64 sk] := pc
      have pwd : Arr v1.drew Y2.heap.size 27 [.int .i64 vt, .slice ao i d] := pw
      have p4d : Arr v1.drew U.heap.size 24 zC := pz4
      have p5d : Arr v1.drew X4.heap.size 27 [.int .i64 0, .slice none 0 0] := pz5
      clear pc pw pz4 pz5
      rcases hend with he | ⟨he1, he2⟩
      · go_wp2_with fail
        refine wp_region_L [(2, fun w' => Arr w' w.heap.size 24 [.string nm, .slice co n' cc, .int .i64 me, .int .i64 se, .int .i64 rk', .int .i64 dg, .int .i64 ti, .int .i64 ov, .int .i64 sk]), (3, fun w' => Arr w' Y2.heap.size 27 [.int .i64 vt, .slice ao i d])] (by kernel_rfl) (fun c hc _ => by simp only [List.mem_cons, List.not_mem_nil, or_false] at hc; rcases hc with rfl | rfl; exact pcd; exact pwd) (fun hS => ?_)
        refine regL_take (i := 0) (2, fun w' => Arr w' w.heap.size 24 [.string nm, .slice co n' cc, .int .i64 me, .int .i64 se, .int .i64 rk', .int .i64 dg, .int .i64 ti, .int .i64 ov, .int .i64 sk]) rfl (by simp) (by rfl) (by kernel_rfl) (by rfl) (by kernel_rfl) (by kernel_rfl) (by kernel_rfl) (fun _ _ _ h => h) (by rfl) hS (v := ?ve1) ?hye1 ?rte1
        case hye1 => (intro w' hc; dsimp only at hc; have k0 : w'.cell? ⟨w.heap.size, 0, none⟩ = some (.string nm) := hc.cell 0; have k1 : w'.cell? ⟨w.heap.size, 1, none⟩ = some (.slice co n' cc) := hc.cell 1; have k2 : w'.cell? ⟨w.heap.size, 2, none⟩ = some (.int .i64 me) := hc.cell 2; have k3 : w'.cell? ⟨w.heap.size, 3, none⟩ = some (.int .i64 se) := hc.cell 3; have k4 : w'.cell? ⟨w.heap.size, 4, none⟩ = some (.int .i64 rk') := hc.cell 4; have k5 : w'.cell? ⟨w.heap.size, 5, none⟩ = some (.int .i64 dg) := hc.cell 5; have k6 : w'.cell? ⟨w.heap.size, 6, none⟩ = some (.int .i64 ti) := hc.cell 6; have k7 : w'.cell? ⟨w.heap.size, 7, none⟩ = some (.int .i64 ov) := hc.cell 7; have k8 : w'.cell? ⟨w.heap.size, 8, none⟩ = some (.int .i64 sk) := hc.cell 8; go_simp <;> try rfl)
        intro hS
        try simp only [Act.put, List.setIfInBounds_toArray, List.set_cons_zero, List.set_cons_succ]
        refine regL_take (i := 1) (3, fun w' => Arr w' Y2.heap.size 27 [.int .i64 vt, .slice ao i d]) rfl (by simp) (by rfl) (by kernel_rfl) (by rfl) (by kernel_rfl) (by kernel_rfl) (by kernel_rfl) (fun _ _ _ h => h) (by rfl) hS (v := ?ve2) ?hye2 ?rte2
        case hye2 => (intro w' hc; dsimp only at hc; have k0 : w'.cell? ⟨Y2.heap.size, 0, none⟩ = some (.int .i64 vt) := hc.cell 0; have k1 : w'.cell? ⟨Y2.heap.size, 1, none⟩ = some (.slice ao i d) := hc.cell 1; go_simp <;> try rfl)
        intro hS
        try simp only [Act.put, List.setIfInBounds_toArray, List.set_cons_zero, List.set_cons_succ]
        refine regL_ready (rs := [2]) (by kernel_rfl) (by simp) ?_
        refine regL_cons rfl (by rfl) (fun K hK => ?_) regL_nil
        refine wp_storeA (cs := [.string nm, .slice co n' cc, .int .i64 me, .int .i64 se, .int .i64 rk', .int .i64 dg, .int .i64 ti, .int .i64 ov, .int .i64 sk]) p4d (by rfl) (by rfl) (by kernel_rfl) rfl (by intro u hu; simp at hu; rcases hu with rfl | rfl | rfl | rfl | rfl | rfl | rfl | rfl | rfl <;> rfl) (fun w6 A6 G6 => ?_)
        have p5e := p5d.grownBy G6 hne.out.1
        have pwe := pwd.grownBy G6 hne.out.2.1
        have b6 := b0.grown G6 b0.size (fun k hk => by injection hk with hk; have := hne.out.2.2.1; omega)
        refine hK.out _ _ (fun c hc hl => by simp only [List.mem_cons, List.not_mem_nil, or_false] at hc; rcases hc with rfl | rfl; exact Bool.noConfusion (show true = false from hl); exact pwe) ?_
        clear hK K
        intro hS
        try simp only [Act.put, List.setIfInBounds_toArray, List.set_cons_zero, List.set_cons_succ]
        refine regL_ready (rs := [3]) (by kernel_rfl) (by simp) ?_
        refine regL_cons rfl (by rfl) (fun K hK => ?_) regL_nil
        refine wp_storeA (cs := [.int .i64 vt, .slice ao i d]) p5e (by rfl) (by rfl) (by kernel_rfl) rfl (by intro u hu; simp at hu; rcases hu with rfl | rfl <;> rfl) (fun w7 A7 G7 => ?_)
        have A6e := A6.grownBy G7 hne.out.2.2.2.1
        have b7 := b6.grown G7 b6.size (fun k hk => by injection hk with hk; have := hne.out.2.2.2.2; omega)
        refine hK.out _ _ (fun c hc hl => by simp only [List.mem_cons, List.not_mem_nil, or_false] at hc; rcases hc with rfl | rfl; exact Bool.noConfusion (show true = false from hl); exact Bool.noConfusion (show true = false from hl)) ?_
        clear hK K
        intro hS
        try simp only [Act.put, List.setIfInBounds_toArray, List.set_cons_zero, List.set_cons_succ]
        refine regL_done (by kernel_rfl) ?_ _
        have hO : v1.drew.ownsRow w.heap.size 32 1 (.slice ao i d) i us := hI.out.row
        have O6 := World.ownsRow.kept (row := some U.heap.size) hO G6 (Or.inr (row_ne_arr hO p4d (by decide)))
        have O7 := World.ownsRow.kept (row := some X4.heap.size) O6 G7 (Or.inr (row_ne_arr O6 p5e (by decide)))
        have l7 : ∃ us, w7.ownsRow w.heap.size 32 1 (.slice ao i d) i us ∧ LsV w0 ms us := ⟨us, O7, hI.out.vals⟩
        have hi8' := hi8
        have r0 : w7.cell? ⟨U.heap.size, 0, none⟩ = some (.string nm) := A6e.cell 0
        have r1 : w7.cell? ⟨U.heap.size, 1, none⟩ = some (.slice co n' cc) := A6e.cell 1
        have r2 : w7.cell? ⟨U.heap.size, 2, none⟩ = some (.int .i64 me) := A6e.cell 2
        have r3 : w7.cell? ⟨U.heap.size, 3, none⟩ = some (.int .i64 se) := A6e.cell 3
        have r4 : w7.cell? ⟨U.heap.size, 4, none⟩ = some (.int .i64 rk') := A6e.cell 4
        have r5 : w7.cell? ⟨U.heap.size, 5, none⟩ = some (.int .i64 dg) := A6e.cell 5
        have r6 : w7.cell? ⟨U.heap.size, 6, none⟩ = some (.int .i64 ti) := A6e.cell 6
        have r7 : w7.cell? ⟨U.heap.size, 7, none⟩ = some (.int .i64 ov) := A6e.cell 7
        have r8 : w7.cell? ⟨U.heap.size, 8, none⟩ = some (.int .i64 sk) := A6e.cell 8
        have t0 : w7.cell? ⟨X4.heap.size, 0, none⟩ = some (.int .i64 vt) := A7.cell 0
        have t1 : w7.cell? ⟨X4.heap.size, 1, none⟩ = some (.slice ao i d) := A7.cell 1
        have hn0 := hn7.1
        clear hO O6 O7 A6e A7 A6 p5e p4d p5d pwe pwd pcd G6 G7 b6
        go_wp2_with fail
        refine bodyPost_ret (v := .tuple #[.agg #[.string nm, .slice co n' cc, .int .i64 me, .int .i64 se, .int .i64 rk', .int .i64 dg, .int .i64 ti, .int .i64 ov, .int .i64 sk], .agg #[.int .i64 vt, .slice ao i d]]) (by simp [results, Try.results8, go_sem, r0, r1, r2, r3, r4, r5, r6, r7, r8, t0, t1]) rfl ?_
        exact ⟨n', rk', ao, i, d, ms, rfl, hn0, hn8, hr7.out, hi8', l7, b7⟩
      · go_wp2_with fail
        refine wp_region_L [(2, fun w' => Arr w' w.heap.size 24 [.string nm, .slice co n' cc, .int .i64 me, .int .i64 se, .int .i64 rk', .int .i64 dg, .int .i64 ti, .int .i64 ov, .int .i64 sk]), (3, fun w' => Arr w' Y2.heap.size 27 [.int .i64 vt, .slice ao i d])] (by kernel_rfl) (fun c hc _ => by simp only [List.mem_cons, List.not_mem_nil, or_false] at hc; rcases hc with rfl | rfl; exact pcd; exact pwd) (fun hS => ?_)
        refine regL_take (i := 0) (2, fun w' => Arr w' w.heap.size 24 [.string nm, .slice co n' cc, .int .i64 me, .int .i64 se, .int .i64 rk', .int .i64 dg, .int .i64 ti, .int .i64 ov, .int .i64 sk]) rfl (by simp) (by rfl) (by kernel_rfl) (by rfl) (by kernel_rfl) (by kernel_rfl) (by kernel_rfl) (fun _ _ _ h => h) (by rfl) hS (v := ?vf1) ?hyf1 ?rtf1
        case hyf1 => (intro w' hc; dsimp only at hc; have k0 : w'.cell? ⟨w.heap.size, 0, none⟩ = some (.string nm) := hc.cell 0; have k1 : w'.cell? ⟨w.heap.size, 1, none⟩ = some (.slice co n' cc) := hc.cell 1; have k2 : w'.cell? ⟨w.heap.size, 2, none⟩ = some (.int .i64 me) := hc.cell 2; have k3 : w'.cell? ⟨w.heap.size, 3, none⟩ = some (.int .i64 se) := hc.cell 3; have k4 : w'.cell? ⟨w.heap.size, 4, none⟩ = some (.int .i64 rk') := hc.cell 4; have k5 : w'.cell? ⟨w.heap.size, 5, none⟩ = some (.int .i64 dg) := hc.cell 5; have k6 : w'.cell? ⟨w.heap.size, 6, none⟩ = some (.int .i64 ti) := hc.cell 6; have k7 : w'.cell? ⟨w.heap.size, 7, none⟩ = some (.int .i64 ov) := hc.cell 7; have k8 : w'.cell? ⟨w.heap.size, 8, none⟩ = some (.int .i64 sk) := hc.cell 8; go_simp <;> try rfl)
        intro hS
        try simp only [Act.put, List.setIfInBounds_toArray, List.set_cons_zero, List.set_cons_succ]
        refine regL_take (i := 1) (3, fun w' => Arr w' Y2.heap.size 27 [.int .i64 vt, .slice ao i d]) rfl (by simp) (by rfl) (by kernel_rfl) (by rfl) (by kernel_rfl) (by kernel_rfl) (by kernel_rfl) (fun _ _ _ h => h) (by rfl) hS (v := ?vf2) ?hyf2 ?rtf2
        case hyf2 => (intro w' hc; dsimp only at hc; have k0 : w'.cell? ⟨Y2.heap.size, 0, none⟩ = some (.int .i64 vt) := hc.cell 0; have k1 : w'.cell? ⟨Y2.heap.size, 1, none⟩ = some (.slice ao i d) := hc.cell 1; go_simp <;> try rfl)
        intro hS
        try simp only [Act.put, List.setIfInBounds_toArray, List.set_cons_zero, List.set_cons_succ]
        refine regL_ready (rs := [2]) (by kernel_rfl) (by simp) ?_
        refine regL_cons rfl (by rfl) (fun K hK => ?_) regL_nil
        refine wp_storeA (cs := [.string nm, .slice co n' cc, .int .i64 me, .int .i64 se, .int .i64 rk', .int .i64 dg, .int .i64 ti, .int .i64 ov, .int .i64 sk]) p4d (by rfl) (by rfl) (by kernel_rfl) rfl (by intro u hu; simp at hu; rcases hu with rfl | rfl | rfl | rfl | rfl | rfl | rfl | rfl | rfl <;> rfl) (fun w6 A6 G6 => ?_)
        have p5e := p5d.grownBy G6 hne.out.1
        have pwe := pwd.grownBy G6 hne.out.2.1
        have b6 := b0.grown G6 b0.size (fun k hk => by injection hk with hk; have := hne.out.2.2.1; omega)
        refine hK.out _ _ (fun c hc hl => by simp only [List.mem_cons, List.not_mem_nil, or_false] at hc; rcases hc with rfl | rfl; exact Bool.noConfusion (show true = false from hl); exact pwe) ?_
        clear hK K
        intro hS
        try simp only [Act.put, List.setIfInBounds_toArray, List.set_cons_zero, List.set_cons_succ]
        refine regL_ready (rs := [3]) (by kernel_rfl) (by simp) ?_
        refine regL_cons rfl (by rfl) (fun K hK => ?_) regL_nil
        refine wp_storeA (cs := [.int .i64 vt, .slice ao i d]) p5e (by rfl) (by rfl) (by kernel_rfl) rfl (by intro u hu; simp at hu; rcases hu with rfl | rfl <;> rfl) (fun w7 A7 G7 => ?_)
        have A6e := A6.grownBy G7 hne.out.2.2.2.1
        have b7 := b6.grown G7 b6.size (fun k hk => by injection hk with hk; have := hne.out.2.2.2.2; omega)
        refine hK.out _ _ (fun c hc hl => by simp only [List.mem_cons, List.not_mem_nil, or_false] at hc; rcases hc with rfl | rfl; exact Bool.noConfusion (show true = false from hl); exact Bool.noConfusion (show true = false from hl)) ?_
        clear hK K
        intro hS
        try simp only [Act.put, List.setIfInBounds_toArray, List.set_cons_zero, List.set_cons_succ]
        refine regL_done (by kernel_rfl) ?_ _
        have hO : v1.drew.ownsRow w.heap.size 32 1 (.slice ao i d) i us := hI.out.row
        have O6 := World.ownsRow.kept (row := some U.heap.size) hO G6 (Or.inr (row_ne_arr hO p4d (by decide)))
        have O7 := World.ownsRow.kept (row := some X4.heap.size) O6 G7 (Or.inr (row_ne_arr O6 p5e (by decide)))
        have l7 : ∃ us, w7.ownsRow w.heap.size 32 1 (.slice ao i d) i us ∧ LsV w0 ms us := ⟨us, O7, hI.out.vals⟩
        have hi8' := hi8
        have r0 : w7.cell? ⟨U.heap.size, 0, none⟩ = some (.string nm) := A6e.cell 0
        have r1 : w7.cell? ⟨U.heap.size, 1, none⟩ = some (.slice co n' cc) := A6e.cell 1
        have r2 : w7.cell? ⟨U.heap.size, 2, none⟩ = some (.int .i64 me) := A6e.cell 2
        have r3 : w7.cell? ⟨U.heap.size, 3, none⟩ = some (.int .i64 se) := A6e.cell 3
        have r4 : w7.cell? ⟨U.heap.size, 4, none⟩ = some (.int .i64 rk') := A6e.cell 4
        have r5 : w7.cell? ⟨U.heap.size, 5, none⟩ = some (.int .i64 dg) := A6e.cell 5
        have r6 : w7.cell? ⟨U.heap.size, 6, none⟩ = some (.int .i64 ti) := A6e.cell 6
        have r7 : w7.cell? ⟨U.heap.size, 7, none⟩ = some (.int .i64 ov) := A6e.cell 7
        have r8 : w7.cell? ⟨U.heap.size, 8, none⟩ = some (.int .i64 sk) := A6e.cell 8
        have t0 : w7.cell? ⟨X4.heap.size, 0, none⟩ = some (.int .i64 vt) := A7.cell 0
        have t1 : w7.cell? ⟨X4.heap.size, 1, none⟩ = some (.slice ao i d) := A7.cell 1
        have hn0 := hn7.1
        clear hO O6 O7 A6e A7 A6 p5e p4d p5d pwe pwd pcd G6 G7 b6
        go_wp2_with fail
        refine bodyPost_ret (v := .tuple #[.agg #[.string nm, .slice co n' cc, .int .i64 me, .int .i64 se, .int .i64 rk', .int .i64 dg, .int .i64 ti, .int .i64 ov, .int .i64 sk], .agg #[.int .i64 vt, .slice ao i d]]) (by simp [results, Try.results8, go_sem, r0, r1, r2, r3, r4, r5, r6, r7, r8, t0, t1]) rfl ?_
        exact ⟨n', rk', ao, i, d, ms, rfl, hn0, hn8, hr7.out, hi8', l7, b7⟩
end Go.Proofs.Ytjpkbaidgddhnaa
