/-
  The reference's Open, walked.
-/
import Derived.Test.YtcgfoagfoncjiaaImgOpen
namespace Go.Proofs.Ytcgfoagfoncjiaa
open Go.RowKit Im

/-- An image's cells. -/
structure ImS (b3 v u : Nat) (ao : Option Addr) (n c : Nat) (W : World) : Prop where
  s0 : W.cell? ⟨b3, 0, none⟩ = some (.int .i64 (v : Int))
  s1 : W.cell? ⟨b3, 1, none⟩ = some (.int .i64 (u : Int))
  s2 : W.cell? ⟨b3, 2, none⟩ = some (.slice ao n c)
theorem ImS.keep {b3 v u : Nat} {ao : Option Addr} {n c : Nat} {W W' : World} (h : ImS b3 v u ao n c W) (hb : Below W.heap.size W W') : ImS b3 v u ao n c W' :=
  ⟨cell_keep h.s0 hb, cell_keep h.s1 hb, cell_keep h.s2 hb⟩
theorem ImS.grown {b3 v u g : Nat} {ao : Option Addr} {n c : Nat} {W W' : World} (h : ImS b3 v u ao n c W) (hb : W.grownBy W' (some g)) (h1 : b3 ≠ g) : ImS b3 v u ao n c W' :=
  ⟨cell_grown h.s0 h1 hb, cell_grown h.s1 h1 hb, cell_grown h.s2 h1 hb⟩
set_option maxHeartbeats 6400000 in
set_option maxRecDepth 100000 in
theorem refOpen_c (v u : Nat) (ao : Option Addr) (n c : Nat) (bs : List Int) (w : World) (h : Lst .u8 w ao n c bs) (hO : OkI v u bs) :
    Calls Try.prog 20 #[.agg #[.int .i64 (v : Int), .int .i64 (u : Int), .slice ao n c]] w fun e w' => ∃ go oc G, e = .returned (.slice (some ⟨go, 0, none⟩) u oc) ∧ Pix w.heap.size w' go u oc v G (fun r c => getP v u bs c r) ∧ Below w.heap.size w w' := by
  obtain ⟨V, e1, AV, BV, hz⟩ := new_img w v u ao n c
  have y0 : V.cell? ⟨w.heap.size, 0, none⟩ = some (.int .i64 (v : Int)) := AV.cell 0
  have y1 : V.cell? ⟨w.heap.size, 1, none⟩ = some (.int .i64 (u : Int)) := AV.cell 1
  have y2 : V.cell? ⟨w.heap.size, 2, none⟩ = some (.slice ao n c) := AV.cell 2
  have HB : Hid (Below w.heap.size w V) := BV
  have HL : Hid (∀ W, Below V.heap.size V W → Lst .u8 W ao n c bs) := fun W hb => (h.below BV).below hb
  have a1 := hO.w1
  have a2 := hO.w2
  have a3 := hO.h1
  have a4 := hO.h2
  have hsz : Hid (V.heap.size = w.heap.size + 1) := hz
  obtain ⟨F, hF⟩ : ∃ F : Nat → Nat → Bool, (fun (r c : Nat) => getP v u bs c r) = F := ⟨_, rfl⟩
  have HGet : Hid (∀ (W : World) (cc r : Nat), Below V.heap.size V W → Calls Try.prog 23 #[.agg #[.int .i64 (v : Int), .int .i64 (u : Int), .slice ao n c], .int .i64 (cc : Int), .int .i64 (r : Int)] W fun e w' => e = .returned (.bool (F r cc)) ∧ Below W.heap.size W w') := fun W cc r hb => by
    rw [← hF]
    exact refGet_c v u cc r ao n c bs W (HL.out W hb) hO
  rw [hF]
  have hmR := makeR v (by omega)
  have hyK := Lib.hid (ImS.mk y0 y1 y2)
  have H0 := Lib.hid (op_start V v F)
  clear h BV AV hz hO hF
  go_enter Try.func20, Try.ntmps20
  go_wp2_with fail
  clear e1 y0 y1 y2
  go_loopw [3, 4] (fun pv rv wr => ∃ (r oc : Nat) (po : Option Addr) (G : Nat → Nat), r ≤ u ∧ rv = .int .i64 (r : Int) ∧ pv = .slice po r oc ∧ Hid (OpI V po oc v r G F wr)) (fun _ rv _ => u - (intOf rv).toNat)
  case atStart => exact ⟨0, 0, none, _, Nat.zero_le _, rfl, rfl, H0⟩
  case round =>
    obtain ⟨v1, hv1⟩ : ∃ y, y = wr := ⟨_, rfl⟩
    subst hv1
    clear H0
    obtain ⟨r, oc, po, G, hr, rfl, rfl, HR⟩ := hrel
    obtain ⟨b0, b1, b2⟩ := hyK.out.keep HR.out.b
    by_cases hru : r < u
    · have hru' : (r : Int) < (u : Int) := by omega
      obtain ⟨U, hU⟩ : ∃ U, v1.alloc (.cells (madeCells #[.bool false] v) 4) = U := ⟨_, rfl⟩
      have HN := opr_start HR.out hU
      obtain ⟨g, hg⟩ : ∃ g, v1.heap.size = g := ⟨_, rfl⟩
      rw [hg] at HN
      have b0' : U.cell? ⟨w.heap.size, 0, none⟩ = some (.int .i64 (v : Int)) := (hyK.out.keep HN.o.b).s0
      replace HN := Lib.hid HN
      clear HR
      go_wp2_with fail
      clear b0 b1 b2 b0'
      go_loopw [6] (fun cv wx => ∃ cc : Nat, cc ≤ v ∧ cv = .int .i64 (cc : Int) ∧ Hid (OpR V po oc v r G F g cc wx)) (fun cv _ => v - (intOf cv).toNat)
      case atStart => exact ⟨0, Nat.zero_le _, rfl, HN⟩
      case round =>
        obtain ⟨v2, hv2⟩ : ∃ y, y = wr := ⟨_, rfl⟩
        subst hv2
        clear HN
        obtain ⟨cc, hcc, rfl, HI⟩ := hrel
        obtain ⟨d0, d1, d2⟩ := hyK.out.keep HI.out.o.b
        by_cases hcv : cc < v
        · have hcv' : (cc : Int) < (v : Int) := by omega
          have hc1 : cc + 1 ≤ v := by omega
          obtain ⟨bt, hbt⟩ : ∃ b, F r cc = b := ⟨_, rfl⟩
          have hgb : w.heap.size ≠ g := by have := hsz.out; have := HI.out.low; omega
          have hSS : ImS w.heap.size v u ao n c v2 := hyK.out.keep HI.out.o.b
          have HG : Hid (∀ W, Below v2.heap.size v2 W → Calls Try.prog 23 #[.agg #[.int .i64 (v : Int), .int .i64 (u : Int), .slice ao n c], .int .i64 (cc : Int), .int .i64 (r : Int)] W fun e w' => e = .returned (.bool bt) ∧ Below W.heap.size W w') := fun W hb => by
            have := HGet.out W cc r (HI.out.o.b.trans (hb.mono HI.out.o.b.size))
            rw [hbt] at this
            exact this
          have hend : Hid (∀ W, Below v2.heap.size v2 W → ∃ (Z : World) (o : Bool), W.setCell ⟨g, cc, none⟩ (.bool bt) = Z ∧ W.cell? ⟨g, cc, none⟩ = some (.bool o) ∧ W.frozen? ⟨g, cc, none⟩ = false ∧ (ImS w.heap.size v u ao n c Z ∧ Hid (OpR V po oc v r G F g (cc + 1) Z))) := fun W hb => by
            have PW : OpR V po oc v r G F g cc W := OpR.kept HI.out hb
            obtain ⟨o, q0, q1, G2, P2⟩ := PW.step hcv
            rw [hbt] at G2 P2
            exact ⟨_, o, rfl, q0, q1, (hSS.keep hb).grown G2 hgb, P2⟩
          have hBD : Below v2.heap.size v2 v2 := Below.refl _ _
          have hix2 := ixR g v v cc hcv
          clear hbt HI hgb
          go_wp2_with (go_at_call 23; (with_reducible refine (HG.out _ hBD).mono ?_); rintro e W1 ⟨rfl, hb1⟩; obtain ⟨Z, o, hZ, q0, q1, hfin⟩ := hend.out _ hb1; clear d0 d1 d2 hb1)
          go_roundw
          case rel => exact ⟨cc + 1, hc1, by go_num, hfin.2⟩
          case measure => simp [intOf]; omega
        · obtain rfl : cc = v := by omega
          have hsz2 := HI.out.o.b.size
          go_wp2_with (at_builtin; refine wpList_appP (B := V.heap.size) HI.out.o.out hsz2 (by omega) rfl rfl rfl ?_; intro ao2 oc2 w5 O5 G5 ob5 B5; have HN2 := Lib.hid (opr_end HI.out O5 G5 ob5 B5); clear O5 G5 ob5 B5)
          go_roundw
          case rel => exact ⟨r + 1, oc2, ao2, _, by omega, by go_num, rfl, HN2⟩
          case measure => simp [intOf]; omega
    · obtain rfl : r = u := by omega
      obtain ⟨go, rfl, hP⟩ := op_end HR.out (by omega)
      have hPw := Lib.hid (And.intro (hP.mono HB.out.size) (HB.out.trans (HR.out.b.mono HB.out.size)))
      clear HR hP
      go_wp2_with fail
      go_ret
      exact ⟨go, oc, G, rfl, hPw.out.1, hPw.out.2⟩
end Go.Proofs.Ytcgfoagfoncjiaa
