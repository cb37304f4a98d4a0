/-
  The reference's reader: field.
-/
import Derived.Test.YtaeionfhflnbpaaSynRs
import Derived.Deep.RegionLaw
namespace Go.Proofs.Ytaeionfhflnbpaa
open Go.RowKit Lx

theorem infoS2 : (Try.prog.info? 9).map (fun i => (i.zero, i.size, i.bytes)) = some (some (.string ⟨#[]⟩), 1, 16) := by kernel_rfl
/-- append, as one step of a region that draws. -/
theorem step_appR {T E : TypeId} {s bytes : Nat} {z : Value} (ht : Try.prog.underlying T = some (.slice E)) (hinfo : (Try.prog.info? E).map (fun i => (i.zero, i.size, i.bytes)) = some (some z, s, bytes)) (hzs : z.cells.size = s) (hs : 0 < s) (hby : bytes ≤ 64)
    {ops : Array Oper} {o : Oper} {a : Act} {w X : World} {K : Act → World → Prop} {Q : Exit → Act → World → Prop} {E2 : Prop} (p q : Operand) (hgd : o.guard = none) (hop : o.op = .call { callee := .builtin .append, args := #[p, q], argTypes := #[T, T] })
    {B : Nat} {ao : Option Addr} {n c : Nat} {us vs : List Value} (hX : w.alloc (.cells vs.toArray E) = X) (hO : w.ownsRow B E s (.slice ao n c) n us) (hB : B ≤ w.heap.size) (hn : n ≤ 1048576) (hv : vs.length = s) (h1 : ∀ u ∈ vs, u.oneCell' = true)
    (hp : a.eval p = .slice ao n c) (hq : a.eval q = .slice (some ⟨w.heap.size, 0, none⟩) 1 1)
    (h : ∀ ao' c' w', w'.ownsRow B E s (.slice ao' (n + 1) c') (n + 1) (us ++ vs) → w.grownBy w' (Value.slice ao n c).ownBlock → Below B w w' → K (a.put o.dst (.slice ao' (n + 1) c')) w') :
    if Region.wanted o (yielded ops a.tmps) = true then Oper.wp Try.prog o a X K Q else E2 := by
  have hw : Region.wanted o (yielded ops a.tmps) = true := by simp [Region.wanted, hgd]
  rw [if_pos hw]
  subst hX
  obtain ⟨i0, hi, hz0, hz1, hz2⟩ := info_parts hinfo
  have b1 : Below w.heap.size w (w.alloc (.cells vs.toArray E)) := (Below.refl _ _).alloc (Nat.le_refl _) _
  have g1 : w.grownBy (w.alloc (.cells vs.toArray E)) (Value.slice ao n c).ownBlock := ⟨b1.os, b1.tape, b1.output, b1.size, fun k hk _ => b1.block k hk⟩
  have hnew : Arr (w.alloc (.cells vs.toArray E)) w.heap.size E vs := Arr.new w _ vs
  have hO1 := ownsRow_keep hO b1
  have hbb : (n + 1) * bytes ≤ (1048576 + 1) * 64 := Nat.mul_le_mul (by omega) hby
  refine wp_append_own _ p q T hop B E i0 z s bytes ht hi hz0 hz1 hz2 hzs hs _ n _ hp hO1 ⟨w.heap.size, 0, none⟩ 1 1 vs hq (by omega) ?_ h1 (by unfold maxLen; omega) (by omega) (by simp; omega) ?_
  · intro j u hj
    have e := pt_own w.heap.size j
    simp only [pt, Option.getD_some] at e
    rw [e, hnew.cell]
    exact hj
  · intro v' w' ho' hg _
    obtain ⟨av, cv, hv⟩ : ∃ ao c, v' = .slice ao (n + 1) c := by
      rcases ho'.2 with ⟨hv, h0⟩ | ⟨g, cap, _, hv, _⟩
      · omega
      · exact ⟨_, cap, hv⟩
    subst hv
    exact h av cv w' ho' (grown_trans g1 hg) ((b1.mono hB).trans ((Below.refl _ _).grown hg (by simp; omega) (fun k hk => (World.ownsRow.lt hO k hk).1)))

theorem ownsRow_lower {B B' s n : Nat} {E : TypeId} {w : World} {v : Value} {us : List Value} (h : w.ownsRow B E s v n us) (hB : B' ≤ B) : w.ownsRow B' E s v n us := by
  refine ⟨h.1, ?_⟩
  rcases h.2 with h | ⟨g, cap, cur, hv, hg, r⟩
  · exact Or.inl h
  · exact Or.inr ⟨g, cap, cur, hv, Nat.le_trans hB hg, r⟩
section
variable {w wr w' : World} {g fb n c : Nat} {key ln : Value} {ao : Option Addr} {vs : List (List UInt8)}
theorem FSt.setKey (h : FSt w wr g fb key ln ao n c vs) (u : Value) : ∃ W, wr.setCell ⟨fb, 0, none⟩ u = W ∧ FSt w W g fb u ln ao n c vs ∧ Hid (W = wr.setCell ⟨fb, 0, none⟩ u) ∧ wr.cell? ⟨fb, 0, none⟩ = some key ∧ wr.frozen? ⟨fb, 0, none⟩ = false := by
  have hf := h.new
  exact ⟨_, rfl, ⟨ownsRow_set h.own (row_ne_box h.own h.box (by decide)) _, h.box.set 0 u, h.res.far (by show w.heap.size ≠ fb; omega) _, grown_set h.grown (by omega) _ _, h.new, h.old⟩, rfl, h.box.cell 0, h.box.frozen 0⟩
/-- One value, in a slice that has just been made. -/
theorem FSt.one (h : FSt w wr g fb key ln none 0 0 []) (x : List UInt8) : ∃ X W, wr.alloc (.cells #[.string (stg x)] 9) = X ∧ X.setCell ⟨fb, 1, none⟩ (.slice (some ⟨wr.heap.size, 0, none⟩) 1 1) = W ∧ FSt w W g fb key ln (some ⟨wr.heap.size, 0, none⟩) 1 1 [x] ∧ Hid (W = X.setCell ⟨fb, 1, none⟩ (.slice (some ⟨wr.heap.size, 0, none⟩) 1 1)) ∧ Below wr.heap.size wr X ∧ X.cell? ⟨fb, 1, none⟩ = some (.slice none 0 0) ∧ X.frozen? ⟨fb, 1, none⟩ = false := by
  obtain ⟨X, e1, AX, BX, hz⟩ := new_box wr 9 [.string (stg x)]
  have hX := h.keep BX
  have hf := h.new
  have ho : X.ownsRow w.heap.size 9 1 (.slice (some ⟨wr.heap.size, 0, none⟩) 1 1) 1 ([x].map fun v => .string (stg v)) := by
    rw [← e1]
    exact ownsRow_lower (World.ownsRow_lit wr #[.string (stg x)] 1 (Nat.le_refl _) (by unfold maxLen; omega) rfl) h.grown.size
  exact ⟨X, _, e1, rfl, ⟨ownsRow_set ho (row_ne_box ho hX.box (by decide)) _, hX.box.set 1 _, hX.res.far (by show w.heap.size ≠ fb; omega) _, grown_set hX.grown (by omega) _ _, h.new, h.old⟩, rfl, BX, hX.box.cell 1, hX.box.frozen 1⟩
end
/-- What the reference's field hands back. -/
def RFldOut (B : Nat) (w' : World) (g : Nat) (ao : Option Addr) (n c : Nat) (ts : List Tok) (p : PR Fld) (e : Ending) : Prop := ∃ (x : Fld) (vo : Option Addr) (vn vc : Nat), e = .returned (.agg #[.string (stg x.key), .slice vo vn vc, .int .i64 (x.line : Int)]) ∧ StrL (ownF B [9]) w' vo vn vc x.vals ∧
  (∀ f r, p = .ok f r → x = f) ∧ RS w' g ao n c ts (p.bind fun _ r => .ok () r)
set_option maxHeartbeats 6400000 in
set_option maxRecDepth 100000 in
theorem rField_c (w : World) (g : Nat) (ao : Option Addr) (n c : Nat) (ts l : List Tok) (h : AtS w g ao n c ts l) (he : EndsT ts) (hsz : ∀ t ∈ ts, t.text.length ≤ 500000) (hts : ts.length ≤ 1000000) :
    Calls Try.prog 38 #[.pointer (some ⟨g, 0, none⟩)] w fun e w' => RFldOut w.heap.size w' g ao n c ts (fieldP l) e ∧ w.grownBy w' (some g) := by
  obtain ⟨P, hP⟩ : ∃ P, Hid (fieldP l = P) := ⟨_, rfl⟩
  rw [hP.out]
  have HP : Hid (P = (takeK 1 l).bind fun key r => tailF key (lineP l) ((valueP r).bind fun v r2 => morR [v] r2)) := by show _ = _; rw [← hP.out, fieldP_step]
  have hg : g < w.heap.size := RS.lt (p := .ok () l) h
  obtain ⟨V, e1, AV, BV, hz⟩ := new_box w 42 [.string ⟨#[]⟩, .slice none 0 0, .int .i64 0]
  obtain ⟨b, hb⟩ : ∃ b, w.heap.size = b := ⟨_, rfl⟩
  rw [hb] at AV BV hz hg
  have hA := h.keep (by rw [hb]; exact BV)
  obtain ⟨i, t, r, hR, ht, hl, hr⟩ := AtS.head hA
  have hi : i < n := by rw [← hR.tok.len]; exact drop_at ht
  obtain ⟨gt, hgt, _, a1, a2, a3⟩ := hR.tok.at3 i hi t ht (i * 3) (i * 3 + 1) (i * 3 + 2) (by omega) (by omega) (by omega)
  obtain ⟨Ln, hLn⟩ : ∃ K, Hid (t.line = K) := ⟨_, rfl⟩
  rw [hLn.out] at a3
  have hline : Hid (lineP l = Ln) := by show _ = _; rw [hl]; exact hLn.out
  have y0 : V.cell? ⟨g, 0, none⟩ = some (.slice ao n c) := hR.arr.cell 0
  have y1 : V.cell? ⟨g, 1, none⟩ = some (.int .i64 (i : Int)) := hR.arr.cell 1
  have hold : ∀ (o : Obj) (p : Addr) (v : Value), V.cell? p = some v → (V.alloc o).cell? p = some v := fun o p v hv => (World.cell?_of_block (Below.heap_alloc V o p.block (World.block_lt_of_cell? V _ hv))).trans hv
  have z0 := hold (.cells #[.string ⟨#[]⟩, .slice none 0 0, .int .i64 0] 42) _ _ y0
  have z1 := hold (.cells #[.string ⟨#[]⟩, .slice none 0 0, .int .i64 0] 42) _ _ y1
  have z3 := hold (.cells #[.string ⟨#[]⟩, .slice none 0 0, .int .i64 0] 42) _ _ a3
  obtain ⟨U, hU⟩ : ∃ U, Hid (U = (V.alloc (.cells #[.string ⟨#[]⟩, .slice none 0 0, .int .i64 (Ln : Int)] 42)).drew) := ⟨_, rfl⟩
  have BU : Below V.heap.size V U := by rw [hU.out]; exact Below.drew ((Below.refl _ _).alloc (Nat.le_refl _) _)
  have AU : Arr U V.heap.size 42 [.string ⟨#[]⟩, .slice none 0 0, .int .i64 (Ln : Int)] := by rw [hU.out]; exact Arr.new V _ _
  have hAU := hA.keep BU
  have Fh : FSt w U g V.heap.size (.string ⟨#[]⟩) (.int .i64 (Ln : Int)) none 0 0 [] :=
    ⟨by rw [hb]; exact World.ownsRow_nil _ _ _ _, AU, by rw [hb]; exact AV.kept BU, grown_on (grown_below (by rw [hb]; exact BV) _) (grown_below BU _), by omega, by omega⟩
  rw [hz] at Fh
  have HT := Lib.hid (rsTake_c U g ao n c ts (.ok () l) hAU he 1 (by decide))
  have hFS := Lib.hid Fh
  have hg' := Lib.hid hg
  have hgt' : Hid (∀ a, ao = some a → a.block < b) := by
    show ∀ a, ao = some a → a.block < b
    rw [← hb]
    exact RS.tok_lt (p := .ok () l) h
  subst hgt
  clear h BV hP Fh hA hAU AU BU AV hR ht hl hr a1 a2 hg hold
  go_enter Try.func38, Try.ntmps38
  go_wp2_with fail
  go_region
  rw [← hU.out]
  clear hU y0 y1 a3 z0 z1 z3 e1
  go_wp2_with fail
  refine HT.out.mono ?_
  rintro e w1 ⟨S, p1, rfl, hR1, hGo, G1⟩
  have HP : Hid (P = p1.bind fun _ r => tailF S Ln ((valueP r).bind fun v r2 => morR [v] r2)) := by
    show _ = _
    rw [HP.out, hline.out]
    exact hGo _ (fun key r => tailF key Ln ((valueP r).bind fun v r2 => morR [v] r2))
  obtain ⟨W1, e2, FS1, hW1, f0, f1⟩ := (hFS.out.call G1).setKey (.string (stg S))
  have hR1 : RS W1 g (some ⟨gt, 0, none⟩) n c ts p1 := by
    rw [hW1.out]
    exact hR1.far (by show g ≠ b + 1; have := hg'.out; omega) (fun a ea => by show a.block ≠ b + 1; have := hgt'.out a ea; omega) _
  have HV := Lib.hid (rsValue_c W1 g (some ⟨gt, 0, none⟩) n c ts p1 hR1 he hsz)
  have FS1 := Lib.hid FS1
  clear HT hR1 hGo G1 hFS
  go_wp2_with fail
  clear e2 f0 f1
  refine HV.out.mono ?_
  rintro e w2 ⟨S2, p2, rfl, hR2, hGo, G2⟩
  have HP : Hid (P = p2.bind fun _ r => tailF S Ln (morR [S2] r)) := by
    show _ = _
    rw [HP.out]
    simp only [tailF_bind]
    exact hGo _ (fun v r2 => tailF S Ln (morR [v] r2))
  obtain ⟨X, W2, e2, e3, FS2, hW2, BX, f0, f1⟩ := (FS1.out.call G2).one S2
  have hw2 : b < w2.heap.size := by have := (FS1.out.call G2).res.lt; omega
  have hR2 : RS W2 g (some ⟨gt, 0, none⟩) n c ts p2 := by
    rw [hW2.out]
    exact (hR2.keep BX).far (by show g ≠ b + 1; have := hg'.out; omega) (fun a ea => by show a.block ≠ b + 1; have := hgt'.out a ea; omega) _
  have hR2 := Lib.hid hR2
  have FS2 := Lib.hid FS2
  clear HV hGo G2 FS1 BX hw2
  go_wp2_with fail
  clear e2 e3 f0 f1
  have hlen : Hid (∀ l, p2 = .ok () l → 1 + l.length ≤ ts.length + 1) := by
    intro l e
    have := hR2.out
    rw [e] at this
    have := AtS.sub this
    omega
  go_loopw [] (fun wr => ∃ (ao : Option Addr) (m d : Nat) (vs : List (List UInt8)) (q : PR Unit), RS wr g (some ⟨gt, 0, none⟩) n c ts q ∧ FSt w wr g (b + 1) (.string (stg S)) (.int .i64 (Ln : Int)) ao m d vs ∧ Hid (P = q.bind fun _ r => tailF S Ln (morR vs r)) ∧ (∀ l, q = .ok () l → m + l.length ≤ ts.length + 1)) (fun wr => rsN g wr)
  case atStart => exact ⟨_, 1, 1, [S2], p2, hR2.out, FS2.out, HP, hlen.out⟩
  case round =>
    clear hR2 FS2 HP hlen
    obtain ⟨ao, m, d, vs, q, hR, Fh, HP, hlen⟩ := hrel
    have HA := Lib.hid (rsAt_c wr g (some ⟨gt, 0, none⟩) n c ts q hR 44)
    have Fh := Lib.hid Fh
    have hlen := Lib.hid hlen
    have hmeas : Hid (∀ l, q = .ok () l → rsN g wr = l.length + 1) := by
      intro l e
      rw [e] at hR
      exact AtS.rsN hR
    clear hR
    go_wp2_with fail
    refine HA.out.mono ?_
    rintro e w4 ⟨bb, rfl, hR4, hy, hno, G4⟩
    have FS4 := Fh.out.call G4
    cases bb with
    | true =>
      obtain ⟨l, rfl, hm⟩ := hy rfl
      have hml := hlen.out l rfl
      have hme := Lib.hid (hmeas.out l rfl)
      obtain ⟨i2, k0, k1, k2, V5, e5, hA5, G5⟩ := RS.step hR4 he hm
      have FS5 := FS4.call G5
      have hA5 := AtS.keep hA5 (Below.drew (Below.refl _ _))
      have FS5 := FS5.keep (Below.drew (Below.refl _ _))
      obtain ⟨V6, e6⟩ : ∃ V6, V5.drew = V6 := ⟨_, rfl⟩
      rw [e6] at hA5 FS5
      have HV := Lib.hid (rsValue_c V6 g (some ⟨gt, 0, none⟩) n c ts (.ok () (l.drop 1)) hA5 he hsz)
      have HP : Hid (P = (PR.ok () (l.drop 1)).bind fun _ r => (valueP r).bind fun v r2 => tailF S Ln (morR (vs ++ [v]) r2)) := by
        show _ = _
        rw [HP.out, PR.bind_ok, PR.bind_ok, morR_step hm, tailF_bind]
      have hbV : Hid (b < V6.heap.size) := by show _ < _; have := FS5.res.lt; omega
      have y1 : V6.cell? ⟨b + 1, 1, none⟩ = some (.slice ao m d) := FS5.box.cell 1
      have FS5 := Lib.hid FS5
      clear HA hy hno hR4 G4 Fh FS4 hA5 G5 hm hlen hmeas
      go_wp2_with fail
      go_region_law (first
        | (refine step_appR (vs := [.string (stg S3)]) Try.underlying40 infoS2 rfl (by decide) (by decide) _ _ rfl rfl e7 FS6.own (by omega) (by omega) rfl (by intro u hu; simp at hu; subst hu; rfl) rfl rfl ?_; intro ao3 d3 w7 O3 G3 B3; obtain ⟨Y, e8, FS7, hY, g0, g1⟩ := FS6.push O3 G3 B3)
        | (go_simp; go_at_call 58; refine HV.out.mono ?_; rintro e w6 ⟨S3, q3, rfl, hR6, hGo, G6⟩; have FS6 := FS5.out.call G6; have y2 : w6.cell? ⟨b + 1, 1, none⟩ = some (.slice ao m d) := FS6.box.cell 1; obtain ⟨X, e7, _, BX, _⟩ := new_box w6 9 [.string (stg S3)]; have y3 : X.cell? ⟨b + 1, 1, none⟩ = some (.slice ao m d) := (FS6.keep BX).box.cell 1; have hs6 : b ≤ w6.heap.size := by have := FS6.res.lt; omega))
      all_goals
        have hR7 : RS Y g (some ⟨gt, 0, none⟩) n c ts q3 := by
          rw [hY.out]
          exact (hR6.low B3 (by rw [hb]; exact hg'.out) (by rw [hb]; exact hgt'.out)).far (by show g ≠ b + 1; have := hg'.out; omega) (fun a ea => by show a.block ≠ b + 1; have := hgt'.out a ea; omega) _
        have hR7 := Lib.hid hR7
        have FS7 := Lib.hid FS7
        have hGo := Lib.hid hGo
        clear hR6 FS6 O3 G3 B3 BX hY
        go_wp2_with fail
        go_roundw
        case rel =>
          refine ⟨ao3, m + 1, d3, vs ++ [S3], q3, hR7.out, FS7.out, ?_, fun l' e => ?_⟩
          · show _ = _
            rw [HP.out]
            exact hGo.out _ (fun v r2 => tailF S Ln (morR (vs ++ [v]) r2))
          · have h1 := hGo.out
            rw [e] at h1
            have h2 := value_lt h1.ok
            rw [List.length_drop] at h2
            omega
        case measure =>
          rw [hme.out]
          have h1 := hGo.out
          have h3 := hR7.out
          cases q3 with
          | ok u l' =>
            have h2 := value_lt (Goes.ok h1)
            rw [List.length_drop] at h2
            rw [AtS.rsN h3]
            omega
          | bad e => rw [BdS.rsN h3]; omega
    | false =>
      have HM := Lib.hid (rsMark_c w4 g (some ⟨gt, 0, none⟩) n c ts q hR4 he 59)
      have HP : Hid (P = q.bind fun _ r => (takeM 59 r).bind fun _ r2 => .ok ⟨S, vs, Ln⟩ r2) := by
        show _ = _
        rw [HP.out]
        cases q with
        | bad e => rfl
        | ok u l =>
          rw [PR.bind_ok, PR.bind_ok, morR_end (hno rfl l rfl)]
          rfl
      have FS4 := Lib.hid FS4
      clear HA hy hno hR4 G4 Fh hlen hmeas
      go_wp2_with fail
      refine HM.out.mono ?_
      rintro e w5 ⟨S5, q5, rfl, hR5, hGo, G5⟩
      have HP : Hid (P = q5.bind fun _ r2 => .ok ⟨S, vs, Ln⟩ r2) := by
        show _ = _
        rw [HP.out]
        exact hGo Fld (fun r2 => .ok ⟨S, vs, Ln⟩ r2)
      have FS5 := FS4.out.call G5
      have y0 : w5.cell? ⟨b + 1, 0, none⟩ = some (.string (stg S)) := FS5.box.cell 0
      have y1 : w5.cell? ⟨b + 1, 1, none⟩ = some (.slice ao m d) := FS5.box.cell 1
      have y2 : w5.cell? ⟨b + 1, 2, none⟩ = some (.int .i64 (Ln : Int)) := FS5.box.cell 2
      have hR2 := FS5.res
      rw [hb] at hR2
      obtain ⟨Y, e6, hY, AY, f0, f1, f2, f3, f4, f5⟩ := put_box3 hR2 (.string (stg S)) (.slice ao m d) (.int .i64 (Ln : Int))
      have r0 : Y.cell? ⟨b, 0, none⟩ = some (.string (stg S)) := AY.cell 0
      have r1 : Y.cell? ⟨b, 1, none⟩ = some (.slice ao m d) := AY.cell 1
      have r2 : Y.cell? ⟨b, 2, none⟩ = some (.int .i64 (Ln : Int)) := AY.cell 2
      have GY : Hid (w.grownBy Y (some g)) := by show World.grownBy _ _ _; rw [hY.out]; exact grown_put3 FS5.grown (by omega) _ _ _
      have RY : Hid (RS Y g (some ⟨gt, 0, none⟩) n c ts q5) := by
        show RS _ _ _ _ _ _ _
        rw [hY.out]
        have hn0 : g ≠ b := by have := hg'.out; omega
        have hn1 : ∀ a, (some ⟨gt, 0, none⟩ : Option Addr) = some a → a.block ≠ b := fun a ea => by have := hgt'.out a ea; omega
        exact ((hR5.far (q := ⟨b, 0, none⟩) hn0 hn1 _).far (q := ⟨b, 1, none⟩) hn0 hn1 _).far (q := ⟨b, 2, none⟩) hn0 hn1 _
      have SL : Hid (StrL (ownF w.heap.size [9]) Y ao m d vs) := by
        show StrL _ _ _ _ _ _
        rw [hY.out]
        exact FS5.strs.keep (stable_own _ _) (keeps_put3 hR2 (by decide) _ _ _)
      clear HM FS4 FS5 hR2 AY hR5 G5 hGo
      go_wp2_with fail
      refine bodyPost_ret (v := .agg #[.string (stg S), .slice ao m d, .int .i64 (Ln : Int)]) (by simp [results, Try.results38, go_sem, r0, r1, r2]) rfl ?_
      refine ⟨⟨⟨S, vs, Ln⟩, ao, m, d, rfl, SL.out, fun f r e => ?_, ?_⟩, GY.out⟩
      · rw [HP.out] at e
        cases q5 with
        | bad x => cases e
        | ok u l =>
          rw [PR.bind_ok] at e
          injection e with e _
      · have h1 := RY.out
        rw [HP.out]
        cases q5 <;> exact h1
end Go.Proofs.Ytaeionfhflnbpaa
