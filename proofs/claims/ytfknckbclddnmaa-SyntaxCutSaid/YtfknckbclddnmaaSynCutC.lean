/-
  electionref07.Cut.
-/
import Derived.Test.YtfknckbclddnmaaSynEq
import Derived.Test.YtfknckbclddnmaaSynReg
import Derived.Deep.CutRange
namespace Go.Proofs.Ytfknckbclddnmaa
open Go.RowKit Lx

namespace Lx
/-- A definition with at most 12 blocks, fields, values, its texts short. -/
def cutF (f : Fld) : Fld := ⟨f.key.take 30, (f.vals.take 12).map (List.take 30), f.line⟩
def cutB (b : Blc) : Blc := ⟨b.kind.take 30, b.name.take 30, (b.flds.take 12).map cutF, b.line⟩
def cutBs (l : List Blc) : List Blc := (l.take 12).map cutB
def cutD (s : Src) : Src := ⟨s.title.take 40, cutBs s.blks⟩
theorem take_next {α β : Type} (f : α → β) {l : List α} {j : Nat} {a : α} (h : l[j]? = some a) : (l.take (j + 1)).map f = (l.take j).map f ++ [f a] := by
  rw [List.take_add_one, h, List.map_append]
  rfl
theorem cut_end {α : Type} {l : List α} {j n k : Nat} (hn : l.length = n) (h1 : j ≤ n) (h2 : j ≤ k) (h3 : n ≤ j ∨ k ≤ j) : l.take j = l.take k := by
  rcases h3 with h | h
  · rw [List.take_of_length_le (by omega), List.take_of_length_le (by omega)]
  · rw [show j = k by omega]
theorem cut_of {l : List UInt8} {K : ByteArray} (hK : stg l = K) (k : Nat) (kk : Int) (hk : (k : Int) = kk) : ∃ (m : Nat) (U : ByteArray), (if kk < (K.size : Int) then kk else (K.size : Int)) = (m : Int) ∧ (0 : Int) ≤ (m : Int) ∧ (m : Int) ≤ (K.size : Int) ∧ K.extract 0 m = U ∧ Hid (stg (l.take k) = U) := by
  subst hK
  refine ⟨min (stg l).size k, _, by split <;> omega, by omega, by omega, rfl, ?_⟩
  show _ = _
  have h : (stg l).size = l.length := by rw [← bys_len, bys_stg]
  apply bys_inj
  rw [bys_stg, h]
  show _ = ((stg l).extract 0 (min l.length k)).data.toList
  simp [stg, Nat.min_comm]
end Lx
/-- A row that grows, in the box bb between pre and post, from the world w on. -/
structure CSt (E T : TypeId) (s : Nat) (w wr : World) (bb : Nat) (pre post : List Value) (ao : Option Addr) (n c : Nat) (us : List Value) : Prop where
  own : wr.ownsRow w.heap.size E s (.slice ao n c) n us
  box : Arr wr bb T (pre ++ .slice ao n c :: post)
  below : Below w.heap.size w wr
  new : w.heap.size ≤ bb
section
variable {E T : TypeId} {s : Nat} {w wr w' : World} {bb n c : Nat} {pre post us vs : List Value} {ao : Option Addr}
theorem CSt.keep (h : CSt E T s w wr bb pre post ao n c us) (hb : Below wr.heap.size wr w') : CSt E T s w w' bb pre post ao n c us :=
  ⟨ownsRow_keep h.own hb, h.box.kept hb, h.below.trans (hb.mono h.below.size), h.new⟩
theorem CSt.push (h : CSt E T s w wr bb pre post ao n c us) {Es : List TypeId} (hTE : T ≠ E) (hT : T ∉ Es) (hE : E ∉ Es) {ao' : Option Addr} {c' : Nat} (ho : w'.ownsRow w.heap.size E s (.slice ao' (n + 1) c') (n + 1) (us ++ vs)) (hg : wr.grownBy w' (Value.slice ao n c).ownBlock) (hb : Below w.heap.size wr w') :
    ∃ W, w'.setCell ⟨bb, pre.length, none⟩ (.slice ao' (n + 1) c') = W ∧ CSt E T s w W bb pre post ao' (n + 1) c' (us ++ vs) ∧ w'.cell? ⟨bb, pre.length, none⟩ = some (.slice ao n c) ∧ w'.frozen? ⟨bb, pre.length, none⟩ = false ∧ Keeps (ownF w.heap.size Es) wr W ∧ Hid (∀ (g : Nat) (T' : TypeId) (cs : List Value), T' ≠ E → g ≠ bb → Arr wr g T' cs → Arr W g T' cs) := by
  have A1 := h.box.row h.own hTE hg
  have hset := A1.set pre.length (.slice ao' (n + 1) c')
  have e : (pre ++ .slice ao n c :: post).set pre.length (.slice ao' (n + 1) c') = pre ++ .slice ao' (n + 1) c' :: post := by simp
  rw [e] at hset
  refine ⟨_, rfl, ⟨ownsRow_set ho (row_ne_box ho A1 hTE) _, hset, (h.below.trans hb).setCell (p := ⟨bb, pre.length, none⟩) h.new _, h.new⟩, ?_, A1.frozen _, ?_, ?_⟩
  · rw [A1.cell]; simp
  · exact (keeps_row h.own hg hE).trans (stable_own _ _) hb.size (keeps_set_kind A1 hT _)
  · intro g T' cs hT' hne hA
    exact (hA.row h.own hT' hg).far (by show g ≠ bb; exact hne) _
end
/-- One box, made in a region that draws. -/
theorem drew_box (w : World) (T : TypeId) (cs : List Value) : ∃ W, (w.alloc (.cells cs.toArray T)).drew = W ∧ Arr W w.heap.size T cs ∧ Below w.heap.size w W ∧ W.heap.size = w.heap.size + 1 :=
  ⟨_, rfl, (Arr.new w T cs).drew, ((Below.refl _ _).alloc (Nat.le_refl _) _).drew, by simp⟩
theorem hold0 (w : World) (p : Addr) (v : Value) (hv : w.cell? p = some v) : ∀ o : Obj, (w.alloc o).cell? p = some v := fun o => (World.cell?_of_block (Below.heap_alloc w o p.block (World.block_lt_of_cell? w _ hv))).trans hv

set_option maxHeartbeats 12800000 in
set_option maxRecDepth 100000 in
theorem sCut_c (q : Bool) (t : List UInt8) (ao : Option Addr) (n c : Nat) (bs : List Blc) (w : World) (h : BlkL q anyF w ao n c bs) :
    Calls Try.prog 13 #[.agg #[.string (stg t), .slice ao n c]] w fun e w' => ∃ (ro : Option Addr) (m d : Nat), e = .returned (.agg #[.string (stg (t.take 40)), .slice ro m d]) ∧ BlkL false (ownF w.heap.size [9, 42, 39]) w' ro m d (cutBs bs) ∧ Below w.heap.size w w' := by
  obtain ⟨hc1, hr1⟩ := h.caps
  have hlen : Hid (bs.length = n) := h.len
  obtain ⟨T, hT⟩ : ∃ T, stg t = T := ⟨_, rfl⟩
  obtain ⟨m1, T1, q1, q2, q3, q4, hT1⟩ := cut_of hT 40 40 rfl
  rw [hT1.out, hT]
  obtain ⟨V, e1, AV, BV, hz⟩ := new_box w 24 [.string T, .slice ao n c]
  obtain ⟨U, e2, AU, BU, hz2⟩ := new_box V 24 [.string ⟨#[]⟩, .slice none 0 0]
  obtain ⟨U1, U2, e3, e4, AW, BW, hz3, k0, k1, k2, k3⟩ := new_put2 U 24 (.string ⟨#[]⟩) (.slice none 0 0) (.string T1) (.slice none 0 0)
  obtain ⟨b, hb⟩ : ∃ b, w.heap.size = b := ⟨_, rfl⟩
  rw [hb] at AV hz
  rw [hz] at AU
  replace hz2 : U.heap.size = b + 2 := by omega
  rw [hz2] at AW e4 k0 k1 k2 k3
  have y0 : U.cell? ⟨b, 0, none⟩ = some (.string T) := (AV.kept BU).cell 0
  have H := Lib.hid h
  have A0 := Lib.hid ((AV.kept BU).kept BW)
  have A1 := Lib.hid (AU.kept BW)
  have AW := Lib.hid AW
  have HB : Hid (Below w.heap.size w U2) := by show Below _ _ _; exact BV.trans ((BU.mono BV.size).trans (BW.mono (by omega)))
  have hle : Hid (w.heap.size ≤ b + 2) := by show _ ≤ _; omega
  clear h BV BU BW AV AU hT hz3
  go_enter Try.func13, Try.ntmps13
  go_wp2_with fail
  clear e1 e2 e3 e4 k0 k1 k2 k3 y0 hz hz2 q1 q2 q3 q4
  go_loopw [4, 5, 6, 7, 8, 9, 10] (fun iv _ _ _ _ _ _ wr => ∃ (i : Nat) (ro : Option Addr) (rc : Nat) (us : List Value), i ≤ n ∧ i ≤ 12 ∧ iv = .int .i64 (i : Int) ∧ CSt 39 24 4 w wr (b + 2) [.string T1] [] ro i rc us ∧ BCells false (ownF w.heap.size [9, 42]) wr ((bs.take i).map cutB) us ∧ Arr wr b 24 [.string T, .slice ao n c] ∧ Arr wr (b + 1) 24 [.string ⟨#[]⟩, .slice none 0 0]) (fun iv _ _ _ _ _ _ _ => 12 - (intOf iv).toNat)
  case atStart => exact ⟨0, none, 0, [], Nat.zero_le _, Nat.zero_le _, rfl, ⟨World.ownsRow_nil _ _ _ _, AW.out, HB.out, hle.out⟩, rfl, A0.out, A1.out⟩
  case round =>
    obtain ⟨w1, hw1⟩ : ∃ x, x = wr := ⟨_, rfl⟩
    subst hw1
    clear A0 A1 AW HB
    obtain ⟨i, ro, rc, us, hi, hi2, rfl, CS, BC, A0, A1⟩ := hrel
    have y1 : w1.cell? ⟨b, 1, none⟩ = some (.slice ao n c) := A0.cell 1
    have HL := BlkL.keep H.out stable_any (keeps_below _ CS.below)
    have BC := Lib.hid BC
    have A0 := Lib.hid A0
    have A1 := Lib.hid A1
    have CS := Lib.hid CS
    by_cases hlt : i < n
    · have hlt' : (i : Int) < (n : Int) := by omega
      by_cases hlt2 : i < 12
      · have hlt3 : (i : Int) < 12 := by omega
        obtain ⟨x, a1, fo, fn, fc, z, hx, i1, p0, p1, p2, p3, FL, _⟩ := HL.get i hlt
        obtain ⟨hfc, hfr⟩ := FL.caps
        obtain ⟨Kk, hKk⟩ : ∃ S, stg x.kind = S := ⟨_, rfl⟩
        obtain ⟨N, hN⟩ : ∃ S, stg x.name = S := ⟨_, rfl⟩
        obtain ⟨m2, K1, q1, q2, q3, q4, hK1⟩ := cut_of hKk 30 30 rfl
        obtain ⟨m3, N1, s1, s2, s3, s4, hN1⟩ := cut_of hN 30 30 rfl
        rw [hKk] at p0
        rw [hN] at p1
        obtain ⟨V1, W1, e1, e2, AW, BW, zW, f0, f1, f2, f3, f4, f5, f6, f7⟩ := new_put4 w1 39 (.string ⟨#[]⟩) (.string ⟨#[]⟩) (.slice none 0 0) (.int .i64 0) (.string Kk) (.string N) (.slice fo fn fc) (.int .i64 z)
        have c0 : W1.cell? ⟨w1.heap.size, 0, none⟩ = some (.string Kk) := AW.cell 0
        have c1 : W1.cell? ⟨w1.heap.size, 1, none⟩ = some (.string N) := AW.cell 1
        have c3 : W1.cell? ⟨w1.heap.size, 3, none⟩ = some (.int .i64 z) := AW.cell 3
        have c0a := hold0 _ _ _ c0
        have c1a := hold0 _ _ _ c1
        have c3a := hold0 _ _ _ c3
        have hx := Lib.hid hx
        have FL := Lib.hid FL
        have AW := Lib.hid AW
        have BW := Lib.hid BW
        have zW := Lib.hid zW
        clear HL hKk hN
        go_wp2_with fail
        go_cut [6] from 19 to 118 (fun s6 wx => ∃ p : Nat, s6 = .pointer (some ⟨p, 0, none⟩) ∧ w1.heap.size < p ∧ Arr wx p 39 [.string K1, .string N1, .slice none 0 0, .int .i64 z] ∧ Arr wx w1.heap.size 39 [.string Kk, .string N, .slice fo fn fc, .int .i64 z] ∧ Below w1.heap.size w1 wx)
        case first =>
          clear FL CS BC A0 A1 H e1 e2 f0 f1 f2 f3 f4 f5 f6 f7 p0 p1 p2 p3 i1 y1 hx hlen hT1 hle hb hlt hlt' hlt2 hlt3 hi hi2 hc1 hr1 hfc hfr hK1 hN1
          go_region_held3 (fun w' => w'.cell? ⟨w1.heap.size, 0, none⟩ = some (.string Kk) ∧ w'.cell? ⟨w1.heap.size, 1, none⟩ = some (.string N) ∧ w'.cell? ⟨w1.heap.size, 3, none⟩ = some (.int .i64 z)) (go_keep) (fail)
          all_goals
            clear c0 c1 c3 c0a c1a c3a q1 q2 q3 q4 s1 s2 s3 s4
            obtain ⟨W2, hW2, A6, B6, z6⟩ := drew_box W1 39 [.string K1, .string N1, .slice none 0 0, .int .i64 z]
            rw [hW2]
            clear hW2
            try go_wp2_with fail
            go_meet
            have zW' := zW.out
            exact ⟨_, rfl, by omega, by first | exact A6 | (rw [← zW']; exact A6), AW.out.kept B6, BW.out.trans (B6.mono BW.out.size)⟩
        case rest =>
        obtain ⟨p6, rfl, hp6, A6, A5, H6⟩ := hcut
        obtain ⟨W2, hW2⟩ : ∃ x, x = wc := ⟨_, rfl⟩
        subst hW2
        replace A5 := Lib.hid A5
        replace A6 := Lib.hid A6
        replace H6 := Lib.hid H6
        replace hp6 := Lib.hid hp6
        clear e1 e2 f0 f1 f2 f3 f4 f5 f6 f7 c0 c1 c3 c0a c1a c3a p0 p1 p2 p3 i1 AW BW q1 q2 q3 q4 s1 s2 s3 s4 zW y1
        first | go_step | go_back
        first | go_step | go_back
        go_cut [] from 19 to 118 (fun wx => ∃ (so : Option Addr) (m sc : Nat), Arr wx p6 39 [.string K1, .string N1, .slice so m sc, .int .i64 z] ∧ FldL false (ownF w1.heap.size [9, 42]) wx so m sc ((x.flds.take 12).map cutF) ∧ Below w1.heap.size w1 wx)
        case first =>
          go_wp2_with fail
          go_loopw [7, 8, 9, 10] (fun iv _ _ _ wr => ∃ (k : Nat) (so : Option Addr) (sc : Nat) (vs : List Value), k ≤ fn ∧ k ≤ 12 ∧ iv = .int .i64 (k : Int) ∧ CSt 42 39 3 w1 wr p6 [.string K1, .string N1] [.int .i64 z] so k sc vs ∧ FCells false (ownF w1.heap.size [9]) wr ((x.flds.take k).map cutF) vs ∧ Arr wr w1.heap.size 39 [.string Kk, .string N, .slice fo fn fc, .int .i64 z]) (fun iv _ _ _ _ => 12 - (intOf iv).toNat)
          case atStart => exact ⟨0, none, 0, [], Nat.zero_le _, Nat.zero_le _, rfl, ⟨World.ownsRow_nil _ _ _ _, A6.out, H6.out, by have := hp6.out; omega⟩, rfl, A5.out⟩
          case round =>
            obtain ⟨w2, hw2⟩ : ∃ x, x = wr := ⟨_, rfl⟩
            subst hw2
            clear A5 A6 H6
            obtain ⟨k, so, sc, vs, hk, hk2, rfl, CT, FC, A5⟩ := hrel
            have y1 : w2.cell? ⟨w1.heap.size, 2, none⟩ = some (.slice fo fn fc) := A5.cell 2
            have HF := FldL.keep FL.out stable_any (keeps_below _ CT.below)
            have FC := Lib.hid FC
            have A5 := Lib.hid A5
            have CT := Lib.hid CT
            by_cases hmt : k < fn
            · have hmt' : (k : Int) < (fn : Int) := by omega
              by_cases hmt2 : k < 12
              · have hmt3 : (k : Int) < 12 := by omega
                obtain ⟨fx, a2, vo, vn, vc, u, hfx, i2, p0, p1, p2, SL, _⟩ := HF.get k hmt
                obtain ⟨hvc, hvr⟩ : vn ≤ vc ∧ vc ≤ 9223372036854775807 := ⟨SL.cap, SL.room⟩
                obtain ⟨Q, hQ⟩ : ∃ S, stg fx.key = S := ⟨_, rfl⟩
                obtain ⟨m4, Q1, q1, q2, q3, q4, hQ1⟩ := cut_of hQ 30 30 rfl
                rw [hQ] at p0
                obtain ⟨V3, W3, e1, e2, AW, BW, zW, f0, f1, f2, f3, f4, f5⟩ := new_put3 w2 42 (.string ⟨#[]⟩) (.slice none 0 0) (.int .i64 0) (.string Q) (.slice vo vn vc) (.int .i64 u)
                have c0 : W3.cell? ⟨w2.heap.size, 0, none⟩ = some (.string Q) := AW.cell 0
                have c2 : W3.cell? ⟨w2.heap.size, 2, none⟩ = some (.int .i64 u) := AW.cell 2
                have c0a := hold0 _ _ _ c0
                have c2a := hold0 _ _ _ c2
                have hfx := Lib.hid hfx
                have SL := Lib.hid SL
                have AW := Lib.hid AW
                have BW := Lib.hid BW
                have zW := Lib.hid zW
                clear HF hQ
                go_wp2_with fail
                go_cut [9] from 52 to 112 (fun s9 wx => ∃ p : Nat, s9 = .pointer (some ⟨p, 0, none⟩) ∧ w2.heap.size < p ∧ Arr wx p 42 [.string Q1, .slice none 0 0, .int .i64 u] ∧ Arr wx w2.heap.size 42 [.string Q, .slice vo vn vc, .int .i64 u] ∧ Below w2.heap.size w2 wx)
                case first =>
                  clear SL FL CT FC A5 CS BC A0 A1 H e1 e2 f0 f1 f2 f3 f4 f5 p0 p1 p2 i2 y1 hx hlen hT1 hle hb hlt hlt' hlt2 hlt3 hi hi2 hc1 hr1 hfc hfr hK1 hN1 hfx hvc hvr hQ1 hk hk2 hmt hmt' hmt2 hmt3
                  go_region_held3 (fun w' => w'.cell? ⟨w2.heap.size, 0, none⟩ = some (.string Q) ∧ w'.cell? ⟨w2.heap.size, 2, none⟩ = some (.int .i64 u)) (go_keep) (fail)
                  all_goals
                    clear c0 c2 c0a c2a q1 q2 q3 q4
                    obtain ⟨W4, hW4, A9, B9, z9⟩ := drew_box W3 42 [.string Q1, .slice none 0 0, .int .i64 u]
                    rw [hW4]
                    clear hW4
                    try go_wp2_with fail
                    go_meet
                    have zW' := zW.out
                    exact ⟨_, rfl, by omega, by first | exact A9 | (rw [← zW']; exact A9), AW.out.kept B9, BW.out.trans (B9.mono BW.out.size)⟩
                case rest =>
                obtain ⟨p9, rfl, hp9, A9, A8, H9⟩ := hcut
                obtain ⟨W4, hW4⟩ : ∃ x, x = wc := ⟨_, rfl⟩
                subst hW4
                replace A8 := Lib.hid A8
                replace A9 := Lib.hid A9
                replace H9 := Lib.hid H9
                replace hp9 := Lib.hid hp9
                clear e1 e2 f0 f1 f2 f3 f4 f5 c0 c2 c0a c2a p0 p1 p2 i2 AW BW q1 q2 q3 q4 zW y1
                first | go_step | go_back
                first | go_step | go_back
                go_cut [] from 52 to 112 (fun wx => ∃ (vo2 : Option Addr) (m vd : Nat), Arr wx p9 42 [.string Q1, .slice vo2 m vd, .int .i64 u] ∧ StrL (ownF w2.heap.size [9]) wx vo2 m vd ((fx.vals.take 12).map (List.take 30)) ∧ Below w2.heap.size w2 wx)
                case first =>
                  go_wp2_with fail
                  go_loopw [10] (fun iv wr => ∃ (j : Nat) (vo2 : Option Addr) (vd : Nat), j ≤ vn ∧ j ≤ 12 ∧ iv = .int .i64 (j : Int) ∧ CSt 9 42 1 w2 wr p9 [.string Q1] [.int .i64 u] vo2 j vd (((fx.vals.take j).map (List.take 30)).map fun v => .string (stg v)) ∧ Arr wr w2.heap.size 42 [.string Q, .slice vo vn vc, .int .i64 u]) (fun iv _ => 12 - (intOf iv).toNat)
                  case atStart => exact ⟨0, none, 0, Nat.zero_le _, Nat.zero_le _, rfl, ⟨World.ownsRow_nil _ _ _ _, A9.out, H9.out, by have := hp9.out; omega⟩, A8.out⟩
                  case round =>
                    obtain ⟨w3, hw3⟩ : ∃ x, x = wr := ⟨_, rfl⟩
                    subst hw3
                    clear A8 A9 H9
                    obtain ⟨j, vo2, vd, hj, hj2, rfl, CV, A8⟩ := hrel
                    have y1 : w3.cell? ⟨w2.heap.size, 1, none⟩ = some (.slice vo vn vc) := A8.cell 1
                    have HS := Row.keep SL.out stable_any (keeps_below _ CV.below)
                    have A8 := Lib.hid A8
                    have CV := Lib.hid CV
                    by_cases hnt : j < vn
                    · have hnt' : (j : Int) < (vn : Int) := by omega
                      by_cases hnt2 : j < 12
                      · have hnt3 : (j : Int) < 12 := by omega
                        obtain ⟨v, hv⟩ : ∃ v, fx.vals[j]? = some v := ⟨_, List.getElem?_eq_getElem (by rw [StrL.len SL.out]; exact hnt)⟩
                        have i3 := StrL.ix' HS j hnt
                        have d0 := StrL.at HS j v hv
                        obtain ⟨L, hL⟩ : ∃ S, stg v = S := ⟨_, rfl⟩
                        rw [hL] at d0
                        obtain ⟨m5, L1, q1, q2, q3, q4, hL1⟩ := cut_of hL 30 30 rfl
                        obtain ⟨pa, hpa⟩ : ∃ p, pt vo j = p := ⟨_, rfl⟩
                        rw [hpa] at d0 i3
                        have dw2 := StrL.at SL.out j v hv
                        rw [hL, hpa] at dw2
                        have hpl : Hid (pa.block < w2.heap.size) := World.block_lt_of_cell? w2 _ dw2
                        have dw2 := Lib.hid dw2
                        have d0d : Hid (w3.drew.cell? pa = some (.string L)) := d0
                        have hfs : 42 ≠ 9 := by decide
                        have hp9n : Hid (w2.heap.size ≠ p9) := by show _ ≠ _; have := hp9.out; omega
                        have y2 : w3.cell? ⟨p9, 1, none⟩ = some (.slice vo2 j vd) := CV.out.box.cell 1
                        have y2a := hold0 _ _ _ y2
                        have y1a := hold0 _ _ _ y1
                        have d0a := hold0 _ _ _ d0
                        obtain ⟨X, e7, _, BX, _⟩ := new_box w3 9 [.string L1]
                        have e7d : w3.drew.alloc (.cells ([.string L1] : List Value).toArray 9) = X.drew := by rw [← e7]; rfl
                        have CD := Lib.hid (CV.out.keep (Below.refl w3.heap.size w3).drew)
                        have AD := Lib.hid A8.out.drew
                        have y3 : X.cell? ⟨p9, 1, none⟩ = some (.slice vo2 j vd) := (CV.out.keep BX).box.cell 1
                        have x1 : X.cell? ⟨w2.heap.size, 1, none⟩ = some (.slice vo vn vc) := (A8.out.kept BX).cell 1
                        have x2 : X.cell? pa = some (.string L) := (World.cell?_of_block (BX.block _ (World.block_lt_of_cell? w3 _ d0))).trans d0
                        have hs3 : w2.heap.size ≤ w3.heap.size := CV.out.below.size
                        have hs3d : w2.heap.size ≤ w3.drew.heap.size := hs3
                        have h12 : j ≤ 1048576 := by omega
                        have hone : ∀ e ∈ ([.string L1] : List Value), e.oneCell' = true := by
                          intro e he
                          simp at he
                          subst he
                          rfl
                        have hv := Lib.hid hv
                        have BX := Lib.hid BX
                        clear HS hL hpa
                        go_wp2_with fail
                        refine wp_region_held_drew (S := fun w' => w'.cell? ⟨w2.heap.size, 1, none⟩ = some (.slice vo vn vc) ∧ w'.cell? pa = some (.string L)) (by kernel_rfl) (⟨y1, d0⟩) (fun hHeld => ?_)
                        refine reg_take (i := 0) rfl (by kernel_rfl) (by kernel_rfl) (by kernel_rfl) (fun _ _ _ h => h) (by rfl) hHeld (v := ?v1) ?hy1 ?rest1
                        case hy1 => (intro w' hSw; have hc1 := hSw.1; have hc2 := hSw.2; go_simp <;> try rfl)
                        try simp only [Act.put, List.setIfInBounds_toArray, List.set_cons_zero, List.set_cons_succ]
                        refine reg_take (i := 2) rfl (by kernel_rfl) (by kernel_rfl) (by kernel_rfl) (fun _ _ _ h => h) (by rfl) hHeld (v := ?v2) ?hy2 ?rest2
                        case hy2 => (intro w' hSw; have hc1 := hSw.1; have hc2 := hSw.2; go_simp <;> try rfl)
                        try simp only [Act.put, List.setIfInBounds_toArray, List.set_cons_zero, List.set_cons_succ]
                        refine reg_take (i := 3) rfl (by kernel_rfl) (by kernel_rfl) (by kernel_rfl) (fun _ _ _ h => h) (by rfl) hHeld (v := ?v3) ?hy3 ?rest3
                        case hy3 => (intro w' hSw; have hc1 := hSw.1; have hc2 := hSw.2; go_simp <;> try rfl)
                        try simp only [Act.put, List.setIfInBounds_toArray, List.set_cons_zero, List.set_cons_succ]
                        refine reg_take (i := 4) rfl (by kernel_rfl) (by kernel_rfl) (by kernel_rfl) (fun _ _ _ h => h) (by rfl) hHeld (v := ?v4) ?hy4 ?rest4
                        case hy4 => (intro w' hSw; have hc1 := hSw.1; have hc2 := hSw.2; go_simp <;> try rfl)
                        try simp only [Act.put, List.setIfInBounds_toArray, List.set_cons_zero, List.set_cons_succ]
                        refine reg_take (i := 5) rfl (by kernel_rfl) (by kernel_rfl) (by kernel_rfl) (fun _ _ _ h => h) (by rfl) hHeld (v := ?v5) ?hy5 ?rest5
                        case hy5 => (intro w' hSw; have hc1 := hSw.1; have hc2 := hSw.2; go_simp <;> try rfl)
                        try simp only [Act.put, List.setIfInBounds_toArray, List.set_cons_zero, List.set_cons_succ]
                        refine reg_take (i := 6) rfl (by kernel_rfl) (by kernel_rfl) (by kernel_rfl) (fun _ _ _ h => h) (by rfl) hHeld (v := ?v6) ?hy6 ?rest6
                        case hy6 => (intro w' hSw; have hc1 := hSw.1; have hc2 := hSw.2; go_simp <;> try rfl)
                        try simp only [Act.put, List.setIfInBounds_toArray, List.set_cons_zero, List.set_cons_succ]
                        refine reg_take (i := 7) rfl (by kernel_rfl) (by kernel_rfl) (by kernel_rfl) (fun _ _ _ h => h) (by rfl) hHeld (v := ?v7) ?hy7 ?rest7
                        case hy7 => (intro w' hSw; have hc1 := hSw.1; have hc2 := hSw.2; go_simp <;> try rfl)
                        try simp only [Act.put, List.setIfInBounds_toArray, List.set_cons_zero, List.set_cons_succ]
                        refine reg_take (i := 8) rfl (by kernel_rfl) (by kernel_rfl) (by kernel_rfl) (fun _ _ _ h => h) (by rfl) hHeld (v := ?v8) ?hy8 ?rest8
                        case hy8 => (intro w' hSw; have hc1 := hSw.1; have hc2 := hSw.2; go_simp <;> try rfl)
                        try simp only [Act.put, List.setIfInBounds_toArray, List.set_cons_zero, List.set_cons_succ]
                        refine reg_take (i := 9) rfl (by kernel_rfl) (by kernel_rfl) (by kernel_rfl) (fun _ _ _ h => h) (by rfl) hHeld (v := ?v9) ?hy9 ?rest9
                        case hy9 => (intro w' hSw; have hc1 := hSw.1; have hc2 := hSw.2; go_simp <;> try rfl)
                        try simp only [Act.put, List.setIfInBounds_toArray, List.set_cons_zero, List.set_cons_succ]
                        refine reg_take (i := 10) rfl (by kernel_rfl) (by kernel_rfl) (by kernel_rfl) (fun _ _ _ h => h) (by rfl) hHeld (v := ?v10) ?hy10 ?rest10
                        case hy10 => (intro w' hSw; have hc1 := hSw.1; have hc2 := hSw.2; go_simp <;> try rfl)
                        try simp only [Act.put, List.setIfInBounds_toArray, List.set_cons_zero, List.set_cons_succ]
                        refine reg_take (i := 11) rfl (by kernel_rfl) (by kernel_rfl) (by kernel_rfl) (fun _ _ _ h => h) (by rfl) hHeld (v := ?v11) ?hy11 ?rest11
                        case hy11 => (intro w' hSw; have hc1 := hSw.1; have hc2 := hSw.2; go_simp <;> try rfl)
                        try simp only [Act.put, List.setIfInBounds_toArray, List.set_cons_zero, List.set_cons_succ]
                        refine reg_take (i := 12) rfl (by kernel_rfl) (by kernel_rfl) (by kernel_rfl) (fun _ _ _ h => h) (by rfl) hHeld (v := ?v12) ?hy12 ?rest12
                        case hy12 => (intro w' hSw; have hc1 := hSw.1; have hc2 := hSw.2; go_simp <;> try rfl)
                        try simp only [Act.put, List.setIfInBounds_toArray, List.set_cons_zero, List.set_cons_succ]
                        refine reg_take (i := 13) rfl (by kernel_rfl) (by kernel_rfl) (by kernel_rfl) (fun _ _ _ h => h) (by rfl) hHeld (v := ?v13) ?hy13 ?rest13
                        case hy13 => (intro w' hSw; have hc1 := hSw.1; have hc2 := hSw.2; go_simp <;> try rfl)
                        try simp only [Act.put, List.setIfInBounds_toArray, List.set_cons_zero, List.set_cons_succ]
                        refine reg_take (i := 14) rfl (by kernel_rfl) (by kernel_rfl) (by kernel_rfl) (fun _ _ _ h => h) (by rfl) hHeld (v := ?v14) ?hy14 ?rest14
                        case hy14 => (intro w' hSw; have hc1 := hSw.1; have hc2 := hSw.2; go_simp <;> try rfl)
                        try simp only [Act.put, List.setIfInBounds_toArray, List.set_cons_zero, List.set_cons_succ]
                        refine wpAnyH_ready (rs := [1, 15]) (by kernel_rfl) (by simp) ?_
                        refine reg_cons rfl (by rfl) (fun K hK => ?_) ?_
                        · go_simp
                          refine hK.out _ _ (hHeld) (fun hHeld => ?_)
                          clear hK K
                          try simp only [Act.put, List.setIfInBounds_toArray, List.set_cons_zero, List.set_cons_succ]
                          refine wpAnyH_ready (rs := [15]) (by kernel_rfl) (by simp) ?_
                          refine reg_cons rfl (by rfl) (fun K hK => ?_) ?_
                          · go_simp
                            refine hK.out _ _ (⟨x1, x2⟩) (fun hHeld => ?_)
                            clear hK K
                            try simp only [Act.put, List.setIfInBounds_toArray, List.set_cons_zero, List.set_cons_succ]
                            refine wpAnyH_ready (rs := [16]) (by kernel_rfl) (by simp) ?_
                            refine reg_cons rfl (by rfl) (fun K hK => ?_) ?_
                            · refine oper_appR (vs := [.string L1]) Try.underlying40 infoS2 rfl (by decide) (by decide) _ _ rfl rfl e7d CD.out.own hs3d h12 rfl hone rfl rfl ?_
                              intro ao3 d3 w7 O3 G3 B3
                              obtain ⟨Y, e8, CV3, g0, g1, K3, hA⟩ := CD.out.push (Es := []) (by decide) (by simp) (by simp) O3 G3 B3
                              have g0 : w7.cell? ⟨p9, 1, none⟩ = some (.slice vo2 j vd) := g0
                              have g1 : w7.frozen? ⟨p9, 1, none⟩ = false := g1
                              have e8 : w7.setCell ⟨p9, 1, none⟩ (.slice ao3 (j + 1) d3) = Y := e8
                              have a1 : w7.cell? ⟨w2.heap.size, 1, none⟩ = some (.slice vo vn vc) := (AD.out.row CD.out.own hfs G3).cell 1
                              have a2 : w7.cell? pa = some (.string L) := (World.cell?_of_block (B3.block _ hpl.out)).trans d0d.out
                              have A83 := Lib.hid (hA.out _ _ _ hfs hp9n.out AD.out)
                              have b1 : Y.cell? ⟨w2.heap.size, 1, none⟩ = some (.slice vo vn vc) := A83.out.cell 1
                              have b2 : Y.cell? pa = some (.string L) := (World.cell?_of_block (CV3.below.block _ hpl.out)).trans dw2.out
                              refine hK.out _ _ (⟨a1, a2⟩) (fun hHeld => ?_)
                              clear hK K
                              try simp only [Act.put, List.setIfInBounds_toArray, List.set_cons_zero, List.set_cons_succ]
                              refine reg_take (i := 17) rfl (by kernel_rfl) (by kernel_rfl) (by kernel_rfl) (fun _ _ _ h => h) (by rfl) hHeld (v := ?v15) ?hy15 ?rest15
                              case hy15 => (intro w' hSw; have hc1 := hSw.1; have hc2 := hSw.2; go_simp <;> try rfl)
                              try simp only [Act.put, List.setIfInBounds_toArray, List.set_cons_zero, List.set_cons_succ]
                              refine wpAnyH_ready (rs := [18]) (by kernel_rfl) (by simp) ?_
                              refine reg_cons rfl (by rfl) (fun K hK => ?_) ?_
                              · go_simp
                                refine hK.out _ _ (⟨b1, b2⟩) (fun hHeld => ?_)
                                clear hK K
                                try simp only [Act.put, List.setIfInBounds_toArray, List.set_cons_zero, List.set_cons_succ]
                                refine wpAnyH_done (by kernel_rfl) ?_ _
                                clear hHeld
                                have CV4 : Hid (CSt 9 42 1 w2 Y p9 [.string Q1] [.int .i64 u] ao3 (j + 1) d3 (((fx.vals.take (j + 1)).map (List.take 30)).map fun v => .string (stg v))) := by
                                  show CSt _ _ _ _ _ _ _ _ _ _ _ _
                                  rw [take_next _ hv.out, List.map_append]
                                  show CSt _ _ _ _ _ _ _ _ _ _ _ (_ ++ [.string (stg (v.take 30))])
                                  rw [hL1.out]
                                  exact CV3
                                clear O3 G3 B3 K3 hA CV3 A8 CV CD AD e7d a1 a2 b1 b2 x1 x2 g0 g1 e8 hpl dw2 d0d y1 y1a y2 y2a y3 d0 d0a i3 q1 q2 q3 q4 e7
                                go_wp2_with fail
                                go_roundw
                                case rel => exact ⟨j + 1, ao3, d3, by omega, by omega, by go_num, CV4.out, A83.out⟩
                                case measure => simp [intOf]; omega
                              exact AllReadyH.nil
                            exact AllReadyH.nil
                          exact AllReadyH.nil
                        refine reg_cons rfl (by rfl) (fun K hK => ?_) ?_
                        · go_simp
                          refine hK.out _ _ (⟨x1, x2⟩) (fun hHeld => ?_)
                          clear hK K
                          try simp only [Act.put, List.setIfInBounds_toArray, List.set_cons_zero, List.set_cons_succ]
                          refine wpAnyH_ready (rs := [1]) (by kernel_rfl) (by simp) ?_
                          refine reg_cons rfl (by rfl) (fun K hK => ?_) ?_
                          · go_simp
                            refine hK.out _ _ (hHeld) (fun hHeld => ?_)
                            clear hK K
                            try simp only [Act.put, List.setIfInBounds_toArray, List.set_cons_zero, List.set_cons_succ]
                            refine wpAnyH_ready (rs := [16]) (by kernel_rfl) (by simp) ?_
                            refine reg_cons rfl (by rfl) (fun K hK => ?_) ?_
                            · refine oper_appR (vs := [.string L1]) Try.underlying40 infoS2 rfl (by decide) (by decide) _ _ rfl rfl e7d CD.out.own hs3d h12 rfl hone rfl rfl ?_
                              intro ao3 d3 w7 O3 G3 B3
                              obtain ⟨Y, e8, CV3, g0, g1, K3, hA⟩ := CD.out.push (Es := []) (by decide) (by simp) (by simp) O3 G3 B3
                              have g0 : w7.cell? ⟨p9, 1, none⟩ = some (.slice vo2 j vd) := g0
                              have g1 : w7.frozen? ⟨p9, 1, none⟩ = false := g1
                              have e8 : w7.setCell ⟨p9, 1, none⟩ (.slice ao3 (j + 1) d3) = Y := e8
                              have a1 : w7.cell? ⟨w2.heap.size, 1, none⟩ = some (.slice vo vn vc) := (AD.out.row CD.out.own hfs G3).cell 1
                              have a2 : w7.cell? pa = some (.string L) := (World.cell?_of_block (B3.block _ hpl.out)).trans d0d.out
                              have A83 := Lib.hid (hA.out _ _ _ hfs hp9n.out AD.out)
                              have b1 : Y.cell? ⟨w2.heap.size, 1, none⟩ = some (.slice vo vn vc) := A83.out.cell 1
                              have b2 : Y.cell? pa = some (.string L) := (World.cell?_of_block (CV3.below.block _ hpl.out)).trans dw2.out
                              refine hK.out _ _ (⟨a1, a2⟩) (fun hHeld => ?_)
                              clear hK K
                              try simp only [Act.put, List.setIfInBounds_toArray, List.set_cons_zero, List.set_cons_succ]
                              refine reg_take (i := 17) rfl (by kernel_rfl) (by kernel_rfl) (by kernel_rfl) (fun _ _ _ h => h) (by rfl) hHeld (v := ?v16) ?hy16 ?rest16
                              case hy16 => (intro w' hSw; have hc1 := hSw.1; have hc2 := hSw.2; go_simp <;> try rfl)
                              try simp only [Act.put, List.setIfInBounds_toArray, List.set_cons_zero, List.set_cons_succ]
                              refine wpAnyH_ready (rs := [18]) (by kernel_rfl) (by simp) ?_
                              refine reg_cons rfl (by rfl) (fun K hK => ?_) ?_
                              · go_simp
                                refine hK.out _ _ (⟨b1, b2⟩) (fun hHeld => ?_)
                                clear hK K
                                try simp only [Act.put, List.setIfInBounds_toArray, List.set_cons_zero, List.set_cons_succ]
                                refine wpAnyH_done (by kernel_rfl) ?_ _
                                clear hHeld
                                have CV4 : Hid (CSt 9 42 1 w2 Y p9 [.string Q1] [.int .i64 u] ao3 (j + 1) d3 (((fx.vals.take (j + 1)).map (List.take 30)).map fun v => .string (stg v))) := by
                                  show CSt _ _ _ _ _ _ _ _ _ _ _ _
                                  rw [take_next _ hv.out, List.map_append]
                                  show CSt _ _ _ _ _ _ _ _ _ _ _ (_ ++ [.string (stg (v.take 30))])
                                  rw [hL1.out]
                                  exact CV3
                                clear O3 G3 B3 K3 hA CV3 A8 CV CD AD e7d a1 a2 b1 b2 x1 x2 g0 g1 e8 hpl dw2 d0d y1 y1a y2 y2a y3 d0 d0a i3 q1 q2 q3 q4 e7
                                go_wp2_with fail
                                go_roundw
                                case rel => exact ⟨j + 1, ao3, d3, by omega, by omega, by go_num, CV4.out, A83.out⟩
                                case measure => simp [intOf]; omega
                              exact AllReadyH.nil
                            exact AllReadyH.nil
                          exact AllReadyH.nil
                        exact AllReadyH.nil
                      · have hend : Hid (fx.vals.take j = fx.vals.take 12) := cut_end (StrL.len SL.out) (Nat.le_of_lt hnt) hj2 (Or.inr (by omega))
                        have hnt3 : ¬ (j : Int) < 12 := by omega
                        go_wp2_with fail
                        go_meet
                        refine ⟨vo2, j, vd, CV.out.box, ?_, CV.out.below⟩
                        rw [← hend.out]
                        exact (Row.own CV.out.own (by decide)).mono (own_mono (Nat.le_refl _) (by simp))
                    · have hend : Hid (fx.vals.take j = fx.vals.take 12) := cut_end (StrL.len SL.out) hj hj2 (Or.inl (by omega))
                      have hnt' : ¬ (j : Int) < (vn : Int) := by omega
                      go_wp2_with fail
                      go_meet
                      refine ⟨vo2, j, vd, CV.out.box, ?_, CV.out.below⟩
                      rw [← hend.out]
                      exact (Row.own CV.out.own (by decide)).mono (own_mono (Nat.le_refl _) (by simp))
                case rest =>
                obtain ⟨vo2, m, vd, A10, SN, H10⟩ := hcut
                obtain ⟨w3, hw3⟩ : ∃ x, x = wc := ⟨_, rfl⟩
                subst hw3
                clear A8 A9 hp9 SL
                have CT2 := Lib.hid (CT.out.keep H10)
                have FC2 := Lib.hid (FC.out.keep (stable_own _ _) (keeps_below _ H10))
                have A52 := Lib.hid (A5.out.kept H10)
                have hsz : Hid (w1.heap.size ≤ w2.heap.size) := CT.out.below.size
                have hsz2 : w1.heap.size ≤ w3.heap.size := by have := CT2.out.below.size; omega
                have SLN : Hid (StrL (ownF w1.heap.size [9]) w3 vo2 m vd ((fx.vals.take 12).map (List.take 30))) := SN.mono (own_mono hsz.out (by simp))
                have p0 : w3.cell? ⟨p9, 0, none⟩ = some (.string Q1) := A10.cell 0
                have p1 : w3.cell? ⟨p9, 1, none⟩ = some (.slice vo2 m vd) := A10.cell 1
                have p2 : w3.cell? ⟨p9, 2, none⟩ = some (.int .i64 u) := A10.cell 2
                have y2 : w3.cell? ⟨p6, 2, none⟩ = some (.slice so k sc) := CT2.out.box.cell 2
                clear CT FC A5 A10 SN H10
                have h12 : k ≤ 1048576 := by omega
                have hone : ∀ e ∈ ([.string Q1, .slice vo2 m vd, .int .i64 u] : List Value), e.oneCell' = true := by
                  intro e he
                  simp at he
                  rcases he with rfl | rfl | rfl <;> rfl
                go_wp2_with (at_builtin; refine wpList_appR (vs := [.string Q1, .slice vo2 m vd, .int .i64 u]) Try.underlying37 infoF rfl (by decide) (by decide) CT2.out.own hsz2 h12 rfl hone rfl rfl ?_)
                intro ao3 d3 w6 O3 G3 B3
                obtain ⟨Y, e6, CT3, g0, g1, K3, hA⟩ := CT2.out.push (Es := [9]) (by decide) (by decide) (by decide) O3 G3 B3
                have g0 : w6.cell? ⟨p6, 2, none⟩ = some (.slice so k sc) := g0
                have g1 : w6.frozen? ⟨p6, 2, none⟩ = false := g1
                have e6 : w6.setCell ⟨p6, 2, none⟩ (.slice ao3 (k + 1) d3) = Y := e6
                have FC3 : Hid (FCells false (ownF w1.heap.size [9]) Y ((x.flds.take (k + 1)).map cutF) (vs ++ [.string Q1, .slice vo2 m vd, .int .i64 u])) := by
                  show FCells _ _ _ _ _
                  rw [take_next cutF hfx.out]
                  exact FCells.append (FC2.out.keep (stable_own _ _) K3) ⟨vo2, m, vd, u, [], by rw [← hQ1.out]; rfl, Row.keep SLN.out (stable_own _ _) K3, fun e => (by cases e), rfl⟩
                have A53 := Lib.hid (hA.out _ _ _ (by decide) (by have := hp6.out; omega) A52.out)
                have CT3 := Lib.hid CT3
                clear O3 G3 B3 K3 hA CT2 FC2 A52 SLN p0 p1 p2 y2
                go_wp2_with fail
                go_roundw
                case rel => first | exact ⟨k + 1, ao3, d3, _, by omega, by omega, by go_num, CT3.out, FC3.out, A53.out⟩ | ((repeat apply Exists.intro); exact ⟨⟨by omega, by omega, by go_num, CT3.out, FC3.out, A53.out⟩, rfl⟩)
                case measure => simp [intOf]; omega
              · have hend : Hid (x.flds.take k = x.flds.take 12) := cut_end FL.out.len (Nat.le_of_lt hmt) hk2 (Or.inr (by omega))
                have hmt3 : ¬ (k : Int) < 12 := by omega
                go_wp2_with fail
                go_meet
                refine ⟨so, k, sc, CT.out.box, ?_, CT.out.below⟩
                rw [← hend.out]
                exact ⟨vs, (Row.own CT.out.own (by decide)).mono (own_mono (Nat.le_refl _) (by simp)), FC.out.mono (own_mono (Nat.le_refl _) (by simp))⟩
            · have hend : Hid (x.flds.take k = x.flds.take 12) := cut_end FL.out.len hk hk2 (Or.inl (by omega))
              have hmt' : ¬ (k : Int) < (fn : Int) := by omega
              go_wp2_with fail
              go_meet
              refine ⟨so, k, sc, CT.out.box, ?_, CT.out.below⟩
              rw [← hend.out]
              exact ⟨vs, (Row.own CT.out.own (by decide)).mono (own_mono (Nat.le_refl _) (by simp)), FC.out.mono (own_mono (Nat.le_refl _) (by simp))⟩
        case rest =>
        obtain ⟨so, m, sc, A7, FN, H7⟩ := hcut
        obtain ⟨w2, hw2⟩ : ∃ x, x = wc := ⟨_, rfl⟩
        subst hw2
        clear A5 A6 hp6 FL
        have CS2 := Lib.hid (CS.out.keep H7)
        have BC2 := Lib.hid (BC.out.keep (stable_own _ _) (keeps_below _ H7))
        have A02 := Lib.hid (A0.out.kept H7)
        have A12 := Lib.hid (A1.out.kept H7)
        have hsz : Hid (w.heap.size ≤ w1.heap.size) := CS.out.below.size
        have hsz2 : w.heap.size ≤ w2.heap.size := by have := CS2.out.below.size; omega
        have FLN : Hid (FldL false (ownF w.heap.size [9, 42]) w2 so m sc ((x.flds.take 12).map cutF)) := FN.mono (own_mono hsz.out (by simp))
        have p0 : w2.cell? ⟨p6, 0, none⟩ = some (.string K1) := A7.cell 0
        have p1 : w2.cell? ⟨p6, 1, none⟩ = some (.string N1) := A7.cell 1
        have p2 : w2.cell? ⟨p6, 2, none⟩ = some (.slice so m sc) := A7.cell 2
        have p3 : w2.cell? ⟨p6, 3, none⟩ = some (.int .i64 z) := A7.cell 3
        have y2 : w2.cell? ⟨b + 2, 1, none⟩ = some (.slice ro i rc) := CS2.out.box.cell 1
        clear CS BC A0 A1 A7 FN H7
        have h12 : i ≤ 1048576 := by omega
        have hone : ∀ e ∈ ([.string K1, .string N1, .slice so m sc, .int .i64 z] : List Value), e.oneCell' = true := by
          intro e he
          simp at he
          rcases he with rfl | rfl | rfl | rfl <;> rfl
        go_wp2_with (at_builtin; refine wpList_appR (vs := [.string K1, .string N1, .slice so m sc, .int .i64 z]) Try.underlying22 infoB rfl (by decide) (by decide) CS2.out.own hsz2 h12 rfl hone rfl rfl ?_)
        intro ao3 d3 w6 O3 G3 B3
        obtain ⟨Y, e6, CS3, g0, g1, K3, hA⟩ := CS2.out.push (Es := [9, 42]) (by decide) (by decide) (by decide) O3 G3 B3
        have g0 : w6.cell? ⟨b + 2, 1, none⟩ = some (.slice ro i rc) := g0
        have g1 : w6.frozen? ⟨b + 2, 1, none⟩ = false := g1
        have e6 : w6.setCell ⟨b + 2, 1, none⟩ (.slice ao3 (i + 1) d3) = Y := e6
        have BC3 : Hid (BCells false (ownF w.heap.size [9, 42]) Y ((bs.take (i + 1)).map cutB) (us ++ [.string K1, .string N1, .slice so m sc, .int .i64 z])) := by
          show BCells _ _ _ _ _
          rw [take_next cutB hx.out]
          exact BCells.append (BC2.out.keep (stable_own _ _) K3) ⟨so, m, sc, z, [], by rw [← hK1.out, ← hN1.out]; rfl, FLN.out.keep (stable_own _ _) K3, fun e => (by cases e), rfl⟩
        have A03 := Lib.hid (hA.out _ _ _ (by decide) (by omega) A02.out)
        have A13 := Lib.hid (hA.out _ _ _ (by decide) (by omega) A12.out)
        have CS3 := Lib.hid CS3
        clear O3 G3 B3 K3 hA CS2 BC2 A02 A12 FLN p0 p1 p2 p3 y2
        go_wp2_with fail
        go_roundw
        case rel => first | exact ⟨i + 1, ao3, d3, _, by omega, by omega, by go_num, CS3.out, BC3.out, A03.out, A13.out⟩ | ((repeat apply Exists.intro); exact ⟨⟨by omega, by omega, by go_num, CS3.out, BC3.out, A03.out, A13.out⟩, rfl⟩)
        case measure => simp [intOf]; omega
      · obtain rfl : i = 12 := by omega
        have hend : Hid (bs.take 12 = bs.take 12) := rfl
        have y2 : w1.cell? ⟨b + 2, 0, none⟩ = some (.string T1) := CS.out.box.cell 0
        have y3 : w1.cell? ⟨b + 2, 1, none⟩ = some (.slice ro 12 rc) := CS.out.box.cell 1
        obtain ⟨Y, e6, hY, AY, f0, f1, f2, f3⟩ := put_box2 A1.out (.string T1) (.slice ro 12 rc)
        have r0 : Y.cell? ⟨b + 1, 0, none⟩ = some (.string T1) := AY.cell 0
        have r1 : Y.cell? ⟨b + 1, 1, none⟩ = some (.slice ro 12 rc) := AY.cell 1
        have HY : Hid (Below w.heap.size w Y) := by show Below _ _ _; rw [hY.out]; exact below_put2 CS.out.below (by omega) _ _
        have RB : Hid (BlkL false (ownF w.heap.size [9, 42, 39]) Y ro 12 rc (cutBs bs)) := by
          show BlkL _ _ _ _ _ _ ((bs.take 12).map cutB)
          rw [hY.out, ← hend.out]
          have hk := keeps_put2 (lo := w.heap.size) (Es := [9, 42, 39]) A1.out (by decide) (.string T1) (.slice ro 12 rc)
          have hB : BlkL false (ownF w.heap.size [9, 42, 39]) w1 ro 12 rc ((bs.take 12).map cutB) := ⟨us, (Row.own CS.out.own (by decide)).mono (own_mono (Nat.le_refl _) (by simp)), BC.out.mono (own_mono (Nat.le_refl _) (by simp))⟩
          exact hB.keep (stable_own _ _) hk
        clear AY A0 A1 CS BC HL H
        go_wp2_with fail
        refine bodyPost_ret (v := .agg #[.string T1, .slice ro 12 rc]) (by simp [results, Try.results13, go_sem, r0, r1]) rfl ?_
        first | exact ⟨ro, 12, rc, rfl, RB.out, HY.out⟩ | (have HY2 := HY.out; have RB2 := RB.out; rw [hb] at HY2 RB2; exact ⟨ro, 12, rc, rfl, RB2, HY2⟩)
    · obtain rfl : i = n := by omega
      have hend : Hid (bs.take i = bs.take 12) := cut_end hlen.out (Nat.le_refl _) hi2 (Or.inl (Nat.le_refl _))
      have y2 : w1.cell? ⟨b + 2, 0, none⟩ = some (.string T1) := CS.out.box.cell 0
      have y3 : w1.cell? ⟨b + 2, 1, none⟩ = some (.slice ro i rc) := CS.out.box.cell 1
      obtain ⟨Y, e6, hY, AY, f0, f1, f2, f3⟩ := put_box2 A1.out (.string T1) (.slice ro i rc)
      have r0 : Y.cell? ⟨b + 1, 0, none⟩ = some (.string T1) := AY.cell 0
      have r1 : Y.cell? ⟨b + 1, 1, none⟩ = some (.slice ro i rc) := AY.cell 1
      have HY : Hid (Below w.heap.size w Y) := by show Below _ _ _; rw [hY.out]; exact below_put2 CS.out.below (by omega) _ _
      have RB : Hid (BlkL false (ownF w.heap.size [9, 42, 39]) Y ro i rc (cutBs bs)) := by
        show BlkL _ _ _ _ _ _ ((bs.take 12).map cutB)
        rw [hY.out, ← hend.out]
        have hk := keeps_put2 (lo := w.heap.size) (Es := [9, 42, 39]) A1.out (by decide) (.string T1) (.slice ro i rc)
        have hB : BlkL false (ownF w.heap.size [9, 42, 39]) w1 ro i rc ((bs.take i).map cutB) := ⟨us, (Row.own CS.out.own (by decide)).mono (own_mono (Nat.le_refl _) (by simp)), BC.out.mono (own_mono (Nat.le_refl _) (by simp))⟩
        exact hB.keep (stable_own _ _) hk
      clear AY A0 A1 CS BC HL H
      go_wp2_with fail
      refine bodyPost_ret (v := .agg #[.string T1, .slice ro i rc]) (by simp [results, Try.results13, go_sem, r0, r1]) rfl ?_
      first | exact ⟨ro, i, rc, rfl, RB.out, HY.out⟩ | (have HY2 := HY.out; have RB2 := RB.out; rw [hb] at HY2 RB2; exact ⟨ro, i, rc, rfl, RB2, HY2⟩)
end Go.Proofs.Ytfknckbclddnmaa

/-
  What a law on a definition begins with: the definition is cut and stored again.
-/
namespace Go.Proofs.Ytfknckbclddnmaa
open Go.RowKit Lx

namespace Lx
theorem small_cut (s : Src) : smallS (cutD s) := by
  have hm : ∀ (α : Type) (l : List α) (f : α → α) (n : Nat) (x : α), x ∈ (l.take n).map f → ∃ y, x = f y := by
    intro α l f n x hx
    obtain ⟨y, _, rfl⟩ := List.mem_map.1 hx
    exact ⟨y, rfl⟩
  refine ⟨by show (List.take _ _).length ≤ _; rw [List.length_take]; omega, fun b hb => ?_⟩
  obtain ⟨y, rfl⟩ := hm _ _ _ _ _ hb
  refine ⟨by show (List.take _ _).length ≤ _; rw [List.length_take]; omega, by show (List.take _ _).length ≤ _; rw [List.length_take]; omega, fun f hf => ?_⟩
  obtain ⟨g, rfl⟩ := hm _ _ _ _ _ hf
  refine ⟨by show (List.take _ _).length ≤ _; rw [List.length_take]; omega, fun v hv => ?_⟩
  obtain ⟨u, rfl⟩ := hm _ _ _ _ _ hv
  rw [List.length_take]
  omega
end Lx
/-- What a law on a definition begins with: the definition is cut and stored again, and printed. -/
theorem cut_start (t : List UInt8) (ao : Option Addr) (n c : Nat) (bs : List Blc) (w : World) (h : BlkL false anyF w ao n c bs) : ∃ V T K cs, w.alloc (.cells #[.string T, .slice ao n c] 24) = V ∧ V.cell? ⟨w.heap.size, 0, none⟩ = some (.string T) ∧ V.cell? ⟨w.heap.size, 1, none⟩ = some (.slice ao n c) ∧ Hid (stg t = T) ∧ Hid (stg (t.take 40) = K) ∧ Hid (cutBs bs = cs) ∧
    Hid (Calls Try.prog 13 #[.agg #[.string T, .slice ao n c]] V fun e w1 => ∃ (ro : Option Addr) (m d : Nat), e = .returned (.agg #[.string K, .slice ro m d]) ∧ ∃ W, (w1.setCell ⟨w.heap.size, 0, none⟩ (.string K)).setCell ⟨w.heap.size, 1, none⟩ (.slice ro m d) = W ∧
      w1.cell? ⟨w.heap.size, 0, none⟩ = some (.string T) ∧ w1.frozen? ⟨w.heap.size, 0, none⟩ = false ∧ (w1.setCell ⟨w.heap.size, 0, none⟩ (.string K)).cell? ⟨w.heap.size, 1, none⟩ = some (.slice ao n c) ∧ (w1.setCell ⟨w.heap.size, 0, none⟩ (.string K)).frozen? ⟨w.heap.size, 1, none⟩ = false ∧
      Hid (Arr W w.heap.size 24 [.string K, .slice ro m d]) ∧ Hid (BlkL false anyF W ro m d cs) ∧ Hid (Below w.heap.size w W)) := by
  obtain ⟨V, e1, AV, BV, hz⟩ := new_box w 24 [.string (stg t), .slice ao n c]
  refine ⟨V, _, _, _, e1, AV.cell 0, AV.cell 1, rfl, rfl, rfl, ?_⟩
  show Calls _ _ _ _ _
  refine (sCut_c false t ao n c bs V (h.keep stable_any (keeps_below _ BV))).mono ?_
  rintro e w1 ⟨ro, m, d, rfl, BL, B1⟩
  have A1 := AV.kept B1
  obtain ⟨W, e2, hW, AW, f0, f1, f2, f3⟩ := put_box2 A1 (.string (stg (t.take 40))) (.slice ro m d)
  refine ⟨ro, m, d, rfl, W, e2, f0, f1, f2, f3, AW, ?_, ?_⟩
  · show BlkL _ _ _ _ _ _ _
    rw [hW.out]
    exact (BL.keep (stable_own _ _) (keeps_put2 A1 (by decide) _ _)).mono (fun _ _ => trivial)
  · show Below _ _ _
    rw [hW.out]
    exact below_put2 (BV.trans (B1.mono BV.size)) (Nat.le_refl _) _ _

end Go.Proofs.Ytfknckbclddnmaa
