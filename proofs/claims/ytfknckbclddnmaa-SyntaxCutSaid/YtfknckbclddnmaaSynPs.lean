/-
  The program's reader of tokens in memory: next, take, token, mark.
-/
import Derived.Test.YtfknckbclddnmaaSynMem
import Derived.Test.YtfknckbclddnmaaSynTake
namespace Go.Proofs.Ytfknckbclddnmaa
open Go.RowKit Lx

/-- Block g is a parser whose tokens begin at place i of ts, which lie in block gt. -/
structure Ps (w : World) (g gt n c : Nat) (ts : List Tok) (i : Nat) : Prop where
  arr : Arr w g 50 [.slice (some ⟨gt, 3 * i, none⟩) (n - i) (c - i)]
  tok : TokOwn 0 w (some ⟨gt, 0, none⟩) n c ts
  ne : gt ≠ g
  lt : i < n
  cap : n ≤ c ∧ c ≤ maxLen
/-- The parser stands before the tokens l. -/
def AtP (w : World) (g gt n c : Nat) (ts l : List Tok) : Prop := ∃ i, Ps w g gt n c ts i ∧ ts.drop i = l
section
variable {w w' : World} {g gt n c i : Nat} {ts l : List Tok}
theorem Ps.keep (h : Ps w g gt n c ts i) (hb : Below w.heap.size w w') : Ps w' g gt n c ts i := ⟨h.arr.kept hb, h.tok.keep hb, h.ne, h.lt, h.cap⟩
theorem Ps.far (h : Ps w g gt n c ts i) {p : Addr} (h1 : g ≠ p.block) (h2 : gt ≠ p.block) (u : Value) : Ps (w.setCell p u) g gt n c ts i :=
  ⟨h.arr.far h1 u, World.ownsRow.kept (row := some p.block) h.tok ⟨rfl, rfl, rfl, by simp [World.setCell], fun k _ hk => Below.heap_setCell w _ u k (fun e => hk (by rw [e]))⟩ (Or.inr (fun e => h2 (by injection e))), h.ne, h.lt, h.cap⟩
theorem Ps.step (h : Ps w g gt n c ts i) (hi : i + 1 < n) : Ps (w.setCell ⟨g, 0, none⟩ (.slice (some ⟨gt, 3 * (i + 1), none⟩) (n - (i + 1)) (c - (i + 1)))) g gt n c ts (i + 1) :=
  ⟨h.arr.set 0 _, World.ownsRow.kept (row := some g) h.tok (set_grown w g 0 _) (Or.inr (fun e => h.ne (by injection e))), h.ne, hi, h.cap⟩
theorem Ps.at (h : Ps w g gt n c ts i) (t : Tok) (ht : ts[i]? = some t) : w.cell? ⟨gt, 3 * i, none⟩ = some (.int .i64 (t.kind : Int)) ∧ w.cell? ⟨gt, 3 * i + 1, none⟩ = some (.string (stg t.text)) ∧ w.cell? ⟨gt, 3 * i + 2, none⟩ = some (.int .i64 (t.line : Int)) := by
  obtain ⟨g', h1, _, a, b, d⟩ := h.tok.at3 i h.lt t ht (3 * i) (3 * i + 1) (3 * i + 2) rfl rfl rfl
  injection h1 with h1
  injection h1 with h1 _ _
  subst h1
  exact ⟨a, b, d⟩
theorem AtP.keep (h : AtP w g gt n c ts l) (hb : Below w.heap.size w w') : AtP w' g gt n c ts l := by
  obtain ⟨i, h1, h2⟩ := h
  exact ⟨i, h1.keep hb, h2⟩
theorem AtP.head (h : AtP w g gt n c ts l) : ∃ i t r, Ps w g gt n c ts i ∧ ts[i]? = some t ∧ l = t :: r ∧ ts.drop (i + 1) = r := by
  obtain ⟨i, h1, h2⟩ := h
  have hl := h1.tok.len
  have h3 : i < ts.length := by rw [hl]; exact h1.lt
  refine ⟨i, ts[i], ts.drop (i + 1), h1, List.getElem?_eq_getElem h3, ?_, rfl⟩
  rw [← h2, List.drop_eq_getElem_cons h3]
end
theorem Ps.sizes {w : World} {g gt n c i : Nat} {ts : List Tok} (h : Ps w g gt n c ts i) : g < w.heap.size ∧ gt < w.heap.size := by
  refine ⟨h.arr.lt, ?_⟩
  exact (World.ownsRow.lt (v := .slice (some ⟨gt, 0, none⟩) n c) h.tok gt rfl).2
theorem Ps.put3 {w : World} {g gt n c i : Nat} {ts : List Tok} (h : Ps w g gt n c ts i) {b : Nat} (h1 : g ≠ b) (h2 : gt ≠ b) (u0 u1 u2 : Value) : Ps (put3 w b u0 u1 u2) g gt n c ts i :=
  ((h.far (p := ⟨b, 0, none⟩) h1 h2 u0).far (p := ⟨b, 1, none⟩) h1 h2 u1).far (p := ⟨b, 2, none⟩) h1 h2 u2
theorem AtP.sizes {w : World} {g gt n c : Nat} {ts l : List Tok} (h : AtP w g gt n c ts l) : g < w.heap.size ∧ gt < w.heap.size := by
  obtain ⟨i, h1, _⟩ := h
  exact h1.sizes
set_option maxRecDepth 100000 in
/-- The slice without its first token. -/
theorem slice_tok (gt i n c : Nat) (hi : i + 1 < n) (hc : n ≤ c) (W : World) :
    (Instr.slice 43 (.slice (some ⟨gt, 3 * i, none⟩) (n - i) (c - i)) (some (.int .i64 1)) none none).run Try.prog W = .ok (.slice (some ⟨gt, 3 * (i + 1), none⟩) (n - (i + 1)) (c - (i + 1))) W := by
  obtain ⟨inf, hinf, hs⟩ := Option.map_eq_some_iff.1 sizeT
  rw [run_slice_l (P := Try.prog) (w := W) 43 (some ⟨gt, 3 * i, none⟩) (n - i) (c - i) Try.underlying43 .i64 1 (by omega) (by omega)]
  have e : (sizeOf (Try.prog.elem 43)).run Try.prog W = .ok 3 W := by
    show (sizeOf 47).run Try.prog W = .ok 3 W
    simp [sizeOf, typeInfo, hinf, hs]
  rw [e]
  have h1 : ¬ (c - i = 1) := by omega
  have e3 : 3 * (i + 1) = 3 * i + 3 := by omega
  have e4 : n - (i + 1) = n - i - 1 := by omega
  have e5 : c - (i + 1) = c - i - 1 := by omega
  rw [e3, e4, e5]
  simp only [Result.andThen, sliced, Int.toNat_one, if_neg h1, Option.map_some, Addr.add]
  rw [if_neg (by decide)]
theorem ix_tok (gt i n c : Nat) (hi : i < n) (W : World) :
    (Instr.indexAt 43 (.slice (some ⟨gt, 3 * i, none⟩) (n - i) (c - i)) (.int .i64 0)).run Try.prog W = .ok (.pointer (some ⟨gt, 3 * i, none⟩)) W := by
  obtain ⟨inf, hinf, hs⟩ := Option.map_eq_some_iff.1 sizeT
  have h1 : 0 < n - i := by omega
  simp [Instr.indexAt, run_underlying Try.underlying43, asIntOf, sizeOf, typeInfo, hinf, Addr.add]
  omega

set_option maxHeartbeats 1600000 in
set_option maxRecDepth 100000 in
theorem next_c (w : World) (g gt n c : Nat) (ts : List Tok) (i : Nat) (h : Ps w g gt n c ts i) (t : Tok) (ht : ts[i]? = some t) (k : Nat) :
    Calls Try.prog 37 #[.pointer (some ⟨g, 0, none⟩), .int .i64 (k : Int)] w fun e w' => e = .returned (.bool (decide (t.kind = k))) ∧ w = w' := by
  obtain ⟨a1, _, _⟩ := h.at t ht
  have y0 : w.cell? ⟨g, 0, none⟩ = some (.slice (some ⟨gt, 3 * i, none⟩) (n - i) (c - i)) := h.arr.cell 0
  have x0 := ix_tok gt i n c h.lt
  obtain ⟨K, hK⟩ : ∃ K, Hid (t.kind = K) := ⟨_, rfl⟩
  have hd : (((t.kind : Nat) : Int) == (k : Int)) = decide (t.kind = k) := by
    rw [Bool.eq_iff_iff]; simp only [beq_iff_eq, decide_eq_true_eq]; omega
  rw [hK.out] at a1 hd ⊢
  clear h ht
  go_enter Try.func37, Try.ntmps37
  go_wp2_with fail
  go_ret
  exact ⟨rfl, rfl⟩

set_option maxHeartbeats 3200000 in
set_option maxRecDepth 100000 in
theorem pTake_ok (w : World) (g gt n c : Nat) (ts : List Tok) (i : Nat) (h : Ps w g gt n c ts i) (t : Tok) (ht : ts[i]? = some t) (k : Nat) (hk : t.kind = k) (hi : i + 1 < n) :
    Calls Try.prog 34 #[.pointer (some ⟨g, 0, none⟩), .int .i64 (k : Int)] w fun e w' =>
      e = .returned (.tuple #[.agg #[.int .i64 (t.kind : Int), .string (stg t.text), .int .i64 (t.line : Int)], .bool true]) ∧ Ps w' g gt n c ts (i + 1) ∧ w.grownBy w' (some g) := by
  obtain ⟨K, hK⟩ : ∃ K, Hid (t.kind = K) := ⟨_, rfl⟩
  obtain ⟨Tx, hTx⟩ : ∃ K, Hid (stg t.text = K) := ⟨_, rfl⟩
  obtain ⟨Ln, hLn⟩ : ∃ K, Hid (t.line = K) := ⟨_, rfl⟩
  obtain ⟨V, hV⟩ : ∃ V, Hid (V = w.alloc (.cells #[.int .i64 0, .string ⟨#[]⟩, .int .i64 0] 47)) := ⟨_, rfl⟩
  have BV : Below w.heap.size w V := by rw [hV.out]; exact (Below.refl _ _).alloc (Nat.le_refl _) _
  have AV : Arr V w.heap.size 47 [.int .i64 0, .string ⟨#[]⟩, .int .i64 0] := by rw [hV.out]; exact Arr.new w _ _
  have PV := h.keep BV
  obtain ⟨hg, hgt⟩ := h.sizes
  have hsz : V.heap.size = w.heap.size + 1 := by rw [hV.out]; simp
  obtain ⟨b, hb⟩ : ∃ b, Hid (w.heap.size = b) := ⟨_, rfl⟩
  rw [hb.out] at AV hg hsz hgt
  have HN := next_c V g gt n c ts i PV t ht k
  rw [decide_eq_true hk] at HN
  obtain ⟨a1, a2, a3⟩ := PV.at t ht
  have y0 : V.cell? ⟨g, 0, none⟩ = some (.slice (some ⟨gt, 3 * i, none⟩) (n - i) (c - i)) := PV.arr.cell 0
  have x0 := ix_tok gt i n c h.lt
  have x1 := slice_tok gt i n c hi h.cap.1
  rw [hTx.out, hLn.out, hK.out]
  rw [hK.out] at a1
  rw [hTx.out] at a2
  rw [hLn.out] at a3
  obtain ⟨V2, hV2⟩ : ∃ V2, Hid (V2 = V.alloc (.cells #[.int .i64 (K : Int), .string Tx, .int .i64 (Ln : Int)] 47)) := ⟨_, rfl⟩
  have B2 : Below V.heap.size V V2 := by rw [hV2.out]; exact (Below.refl _ _).alloc (Nat.le_refl _) _
  have A2 : Arr V2 (b + 1) 47 [.int .i64 (K : Int), .string Tx, .int .i64 (Ln : Int)] := by rw [hV2.out, ← hsz]; exact Arr.new V _ _
  have P2 := PV.keep B2
  have AV2 := AV.kept B2
  have z0 : V2.cell? ⟨g, 0, none⟩ = some (.slice (some ⟨gt, 3 * i, none⟩) (n - i) (c - i)) := P2.arr.cell 0
  have f0 : V2.frozen? ⟨g, 0, none⟩ = false := P2.arr.frozen 0
  have P3 := P2.step hi
  obtain ⟨V3, hV3⟩ : ∃ V3, Hid (V3 = V2.setCell ⟨g, 0, none⟩ (.slice (some ⟨gt, 3 * (i + 1), none⟩) (n - (i + 1)) (c - (i + 1)))) := ⟨_, rfl⟩
  have GW : w.grownBy V3 (some g) := by
    rw [hV3.out]
    exact grown_on (grown_below BV _) (grown_on (grown_below B2 _) (set_grown _ _ _ _))
  rw [← hV3.out] at P3
  have A3 : Arr V3 (b + 1) 47 [.int .i64 (K : Int), .string Tx, .int .i64 (Ln : Int)] := by rw [hV3.out]; exact A2.far (by show b + 1 ≠ g; omega) _
  have AV3 : Arr V3 b 47 [.int .i64 0, .string ⟨#[]⟩, .int .i64 0] := by rw [hV3.out]; exact AV2.far (by show b ≠ g; omega) _
  have v0 : V3.cell? ⟨b + 1, 0, none⟩ = some (.int .i64 (K : Int)) := A3.cell 0
  have v1 : V3.cell? ⟨b + 1, 1, none⟩ = some (.string Tx) := A3.cell 1
  have v2 : V3.cell? ⟨b + 1, 2, none⟩ = some (.int .i64 (Ln : Int)) := A3.cell 2
  obtain ⟨r0, r1, r2, r3, r4, r5⟩ := AV3.store3 (.int .i64 (K : Int)) (.string Tx)
  obtain ⟨V4, e5⟩ : ∃ V4, ((V3.setCell ⟨b, 0, none⟩ (.int .i64 (K : Int))).setCell ⟨b, 1, none⟩ (.string Tx)).setCell ⟨b, 2, none⟩ (.int .i64 (Ln : Int)) = V4 := ⟨_, rfl⟩
  have e5' : put3 V3 b (.int .i64 (K : Int)) (.string Tx) (.int .i64 (Ln : Int)) = V4 := e5
  have AF := Lib.hid (AV3.put3 (.int .i64 (K : Int)) (.string Tx) (.int .i64 (Ln : Int)))
  have PF := Lib.hid (P3.put3 (b := b) (by omega) (by omega) (.int .i64 (K : Int)) (.string Tx) (.int .i64 (Ln : Int)))
  have GF := Lib.hid (grown_put3 GW (Nat.le_of_eq hb.out) (.int .i64 (K : Int)) (.string Tx) (.int .i64 (Ln : Int)))
  rw [e5'] at AF PF GF
  clear e5'
  have HN := Lib.hid HN
  have e1 := hV.out.symm
  have e2 := hV2.out.symm
  have e3 := hV3.out.symm
  have e4 := hb.out
  clear h PV AV P2 AV2 P3 A3 AV3 GW B2 BV hK hTx hLn ht A2 hV hV2 hV3 hb
  go_enter Try.func34, Try.ntmps34
  go_wp2_with fail
  refine HN.out.mono ?_
  rintro e w1 ⟨rfl, rfl⟩
  go_wp2_with fail
  obtain ⟨q0, q1, q2⟩ : V4.cell? ⟨b, 0, none⟩ = some (.int .i64 (K : Int)) ∧ V4.cell? ⟨b, 1, none⟩ = some (.string Tx) ∧ V4.cell? ⟨b, 2, none⟩ = some (.int .i64 (Ln : Int)) := ⟨AF.out.cell 0, AF.out.cell 1, AF.out.cell 2⟩
  refine bodyPost_ret (v := .tuple #[.agg #[.int .i64 (K : Int), .string Tx, .int .i64 (Ln : Int)], .bool true]) (by simp [results, Try.results34, go_sem, q0, q1, q2]) rfl ?_
  exact ⟨rfl, PF.out, GF.out⟩

set_option maxHeartbeats 3200000 in
set_option maxRecDepth 100000 in
theorem pTake_no (w : World) (g gt n c : Nat) (ts : List Tok) (i : Nat) (h : Ps w g gt n c ts i) (t : Tok) (ht : ts[i]? = some t) (k : Nat) (hk : t.kind ≠ k) :
    Calls Try.prog 34 #[.pointer (some ⟨g, 0, none⟩), .int .i64 (k : Int)] w fun e w' =>
      e = .returned (.tuple #[.agg #[.int .i64 0, .string ⟨#[]⟩, .int .i64 0], .bool false]) ∧ Ps w' g gt n c ts i ∧ w.grownBy w' (some g) := by
  obtain ⟨V, e1, AV, BV, hsz⟩ := new_box w 47 [.int .i64 0, .string ⟨#[]⟩, .int .i64 0]
  have PV := h.keep BV
  obtain ⟨hg, hgt⟩ := h.sizes
  obtain ⟨V2, e2, hV2, A2, r0, r1, r2, r3, r4, r5⟩ := put_box3 AV (.int .i64 0) (.string ⟨#[]⟩) (.int .i64 0)
  have HN := next_c V g gt n c ts i PV t ht k
  rw [decide_eq_false hk] at HN
  have HN := Lib.hid HN
  have P2 := PV.put3 (b := w.heap.size) (by omega) (by omega) (.int .i64 0) (.string ⟨#[]⟩) (.int .i64 0)
  have G2 := grown_put3 (grown_below BV (some g)) (Nat.le_refl _) (.int .i64 0) (.string ⟨#[]⟩) (.int .i64 0)
  rw [← hV2.out] at P2 G2
  have P2 := Lib.hid P2
  have G2 := Lib.hid G2
  have q0 : V2.cell? ⟨w.heap.size, 0, none⟩ = some (.int .i64 0) := A2.cell 0
  have q1 : V2.cell? ⟨w.heap.size, 1, none⟩ = some (.string ⟨#[]⟩) := A2.cell 1
  have q2 : V2.cell? ⟨w.heap.size, 2, none⟩ = some (.int .i64 0) := A2.cell 2
  clear h ht PV AV A2 BV
  go_enter Try.func34, Try.ntmps34
  go_wp2_with fail
  refine HN.out.mono ?_
  rintro e w1 ⟨rfl, rfl⟩
  go_wp2_with fail
  refine bodyPost_ret (v := .tuple #[.agg #[.int .i64 0, .string ⟨#[]⟩, .int .i64 0], .bool false]) (by simp [results, Try.results34, go_sem, q0, q1, q2]) rfl ?_
  exact ⟨rfl, P2.out, G2.out⟩

theorem AtP.uncons {w : World} {g gt n c : Nat} {ts r : List Tok} {t : Tok} (h : AtP w g gt n c ts (t :: r)) : ∃ i, Ps w g gt n c ts i ∧ ts[i]? = some t ∧ ts.drop (i + 1) = r := by
  obtain ⟨i, t', r', h1, h2, h3, h4⟩ := h.head
  injection h3 with h3 h5
  subst h3 h5
  exact ⟨i, h1, h2, h4⟩
theorem pTake_yes (w : World) (g gt n c : Nat) (ts r : List Tok) (t : Tok) (h : AtP w g gt n c ts (t :: r)) (he : EndsT ts) (k : Nat) (hk : t.kind = k) (hk5 : k ≠ 5) :
    Calls Try.prog 34 #[.pointer (some ⟨g, 0, none⟩), .int .i64 (k : Int)] w fun e w' =>
      e = .returned (.tuple #[.agg #[.int .i64 (t.kind : Int), .string (stg t.text), .int .i64 (t.line : Int)], .bool true]) ∧ AtP w' g gt n c ts r ∧ w.grownBy w' (some g) := by
  obtain ⟨i, h1, h2, h3⟩ := h.uncons
  exact (pTake_ok w g gt n c ts i h1 t h2 k hk (by have := he.next h2 (by rw [hk]; exact hk5); have := h1.tok.len; omega)).mono fun e w' ⟨a, b, d⟩ => ⟨a, ⟨i + 1, b, h3⟩, d⟩
theorem pTake_not (w : World) (g gt n c : Nat) (ts r : List Tok) (t : Tok) (h : AtP w g gt n c ts (t :: r)) (k : Nat) (hk : t.kind ≠ k) :
    Calls Try.prog 34 #[.pointer (some ⟨g, 0, none⟩), .int .i64 (k : Int)] w fun e w' =>
      e = .returned (.tuple #[.agg #[.int .i64 0, .string ⟨#[]⟩, .int .i64 0], .bool false]) ∧ AtP w' g gt n c ts (t :: r) ∧ w.grownBy w' (some g) := by
  obtain ⟨i, h1, h2, h3⟩ := h.uncons
  refine (pTake_no w g gt n c ts i h1 t h2 k hk).mono fun e w' ⟨a, b, d⟩ => ⟨a, ⟨i, b, ?_⟩, d⟩
  obtain ⟨hl, ht⟩ := List.getElem?_eq_some_iff.1 h2
  rw [List.drop_eq_getElem_cons hl, ht, h3]

set_option maxHeartbeats 3200000 in
set_option maxRecDepth 100000 in
theorem pTok_c (w : World) (g gt n c : Nat) (ts l : List Tok) (h : AtP w g gt n c ts l) (he : EndsT ts) (k : Nat) (hk5 : k ≠ 5) (x : List UInt8) :
    Calls Try.prog 33 #[.pointer (some ⟨g, 0, none⟩), .int .i64 (k : Int), .string (stg x)] w fun e w' => ∃ b : Bool, e = .returned (.bool b) ∧
      (∀ t r, l = t :: r → b = (decide (t.kind = k) && decide (t.text = x))) ∧ AtP w' g gt n c ts (if b then l.drop 1 else l) ∧ w.grownBy w' (some g) := by
  obtain ⟨i, t, r, hP, ht, rfl, hr⟩ := h.head
  obtain ⟨a1, a2, a3⟩ := hP.at t ht
  have y0 : w.cell? ⟨g, 0, none⟩ = some (.slice (some ⟨gt, 3 * i, none⟩) (n - i) (c - i)) := hP.arr.cell 0
  have x0 := ix_tok gt i n c hP.lt
  obtain ⟨X, hX⟩ : ∃ X, Hid (stg x = X) := ⟨_, rfl⟩
  obtain ⟨Y, hY⟩ : ∃ X, Hid (stg t.text = X) := ⟨_, rfl⟩
  rw [hY.out] at a2
  rw [hX.out]
  by_cases hT : t.text = x
  · have hne : (Y.toList == X.toList) = true := by rw [← hX.out, ← hY.out, hT]; simp
    by_cases hk : t.kind = k
    · have HT := Lib.hid (pTake_yes w g gt n c ts r t h he k hk hk5)
      have hb : Hid (∀ t' r', t :: r = t' :: r' → true = (decide (t'.kind = k) && decide (t'.text = x))) := by
        intro t' r' e
        injection e with e _
        subst e
        rw [decide_eq_true hk, decide_eq_true hT]; rfl
      clear h hP ht a1 a3 hr hk hT hY hX
      go_enter Try.func33, Try.ntmps33
      go_wp2_with fail
      refine HT.out.mono ?_
      rintro e w1 ⟨rfl, hA, hG⟩
      obtain ⟨V, e1, AV, BV, hsz⟩ := new_box w1 47 [.int .i64 (t.kind : Int), .string (stg t.text), .int .i64 (t.line : Int)]
      have hA := Lib.hid (hA.keep BV)
      have hG := Lib.hid (grown_on hG (grown_below BV _))
      clear HT AV BV
      go_wp2_with fail
      go_ret
      exact ⟨true, rfl, hb.out, hA.out, hG.out⟩
    · have HT := Lib.hid (pTake_not w g gt n c ts r t h k hk)
      have hb : Hid (∀ t' r', t :: r = t' :: r' → false = (decide (t'.kind = k) && decide (t'.text = x))) := by
        intro t' r' e
        injection e with e _
        subst e
        rw [decide_eq_false hk]; rfl
      clear h hP ht a1 a3 hr hk hT hY hX
      go_enter Try.func33, Try.ntmps33
      go_wp2_with fail
      refine HT.out.mono ?_
      rintro e w1 ⟨rfl, hA, hG⟩
      obtain ⟨V0, V, e1, e2, AV, BV, hsz, r0, r1, r2, r3, r4, r5⟩ := new_put3 w1 47 (.int .i64 0) (.string ⟨#[]⟩) (.int .i64 0) (.int .i64 0) (.string ⟨#[]⟩) (.int .i64 0)
      have hA := Lib.hid (hA.keep BV)
      have hG := Lib.hid (grown_on hG (grown_below BV _))
      clear HT AV BV
      go_wp2_with fail
      go_ret
      exact ⟨false, rfl, hb.out, hA.out, hG.out⟩
  · have hne : (Y.toList == X.toList) = false := by
      rw [← hX.out, ← hY.out, beq_eq_false_iff_ne]
      intro e
      exact hT (stg_eq (by rw [ByteArray.toList_eq, ByteArray.toList_eq] at e; exact bys_inj e))
    have hb : Hid (∀ t' r', t :: r = t' :: r' → false = (decide (t'.kind = k) && decide (t'.text = x))) := by
      intro t' r' e
      injection e with e _
      subst e
      rw [decide_eq_false hT, Bool.and_false]
    have hA := Lib.hid h
    clear h hP ht a1 a3 hr hT hY hX
    go_enter Try.func33, Try.ntmps33
    go_wp2_with fail
    go_ret
    exact ⟨false, rfl, hb.out, hA.out, grown_self _ _⟩
theorem pMark_c (w : World) (g gt n c : Nat) (ts l : List Tok) (h : AtP w g gt n c ts l) (he : EndsT ts) (d : UInt8) :
    Calls Try.prog 35 #[.pointer (some ⟨g, 0, none⟩), .string (stg [d])] w fun e w' => e = .returned (.bool (atMark d l)) ∧
      AtP w' g gt n c ts (if atMark d l then l.drop 1 else l) ∧ w.grownBy w' (some g) := by
  have HT := Lib.hid (pTok_c w g gt n c ts l h he 4 (by decide) [d])
  obtain ⟨i, t, r, _, _, rfl, _⟩ := h.head
  have hm : Hid (atMark d (t :: r) = (decide (t.kind = 4) && decide (t.text = [d]))) := rfl
  obtain ⟨b, hb⟩ : ∃ b, Hid (atMark d (t :: r) = b) := ⟨_, rfl⟩
  rw [hb.out]
  obtain ⟨L, hL⟩ : ∃ L, Hid ((if b = true then (t :: r).drop 1 else t :: r) = L) := ⟨_, rfl⟩
  rw [hL.out]
  clear h
  go_enter Try.func35, Try.ntmps35
  go_wp2_with fail
  refine HT.out.mono ?_
  rintro e w1 ⟨b', rfl, h1, h2, h3⟩
  have e1 : b' = b := by rw [h1 t r rfl, ← hb.out, hm.out]
  subst e1
  rw [hL.out] at h2
  have h2 := Lib.hid h2
  have h3 := Lib.hid h3
  clear HT h1
  go_wp2_with fail
  go_ret
  exact ⟨rfl, h2.out, h3.out⟩
end Go.Proofs.Ytfknckbclddnmaa
