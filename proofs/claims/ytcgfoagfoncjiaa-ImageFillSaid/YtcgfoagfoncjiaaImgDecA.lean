/-
  The reference's Decode.
-/
import Derived.Test.YtcgfoagfoncjiaaImgEnc
import Derived.Test.YtcgfoagfoncjiaaImgPDec3
import Derived.Deep.OwnRows
import Derived.Deep.CutRange
namespace Go.Proofs.Ytcgfoagfoncjiaa
open Go.RowKit Im

set_option maxRecDepth 100000 in
theorem or_forms : ∀ x : Nat, x < 256 → ∀ r : Nat, r < 8 → bits BinOp.or IntKind.u8 (x : Int) (128 / 2 ^ min (IntKind.u64.wrap (r : Int)).toNat 8) = ((x ||| 128 >>> r : Nat) : Int) := by decide +kernel
set_option maxRecDepth 100000 in
theorem or_forms2 : ∀ x : Nat, x < 256 → ∀ r : Nat, r < 8 → bits BinOp.or IntKind.u8 (x : Int) (128 / 2 ^ r) = ((x ||| 128 >>> r : Nat) : Int) := by decide +kernel
namespace Im
theorem bitsD_none (D : List Bool) : upd (bitsD D) D.length false = bitsD D := by
  funext j
  unfold upd
  split
  · next h => subst h; unfold bitsD; rw [List.getElem?_eq_none (Nat.le_refl _)]; rfl
  · rfl
theorem packD_false (D : List Bool) (m : Nat) : packP (bitsD (D ++ [false])) m = packP (bitsD D) m := by rw [bitsD_snoc, bitsD_none]
theorem same_D {v u : Nat} {bs : List Int} {D : List Bool} (hO : OkI v u bs) (hb : ∀ x ∈ bs, 0 ≤ x ∧ x ≤ 255) (hD : D = bitsFrom (bitL bs) 0 (v * u)) : bs = packP (bitsD D) ((v * u + 7) / 8) := by
  rw [← pack_bits bs hb, hO.len]
  apply packP_congr
  intro n hn
  unfold bitsD
  rw [hD]
  by_cases h : n < v * u
  · rw [bitsFrom_get _ _ _ _ h, Nat.zero_add]
    rfl
  · rw [hO.rest n (by omega) (by rw [hO.len]; exact hn), List.getElem?_eq_none (by rw [bitsFrom_len]; omega)]
    rfl
/-- What an encoding begins with, and what its rest says. -/
theorem enc_parts {v u : Nat} {f : Nat → Bool} {b : List Nat} (hv : v ≤ 512) (hu : u ≤ 512) (h : encP v u f = b) : b.getD 0 0 * 256 + b.getD 1 0 = v ∧ b.getD 2 0 * 256 + b.getD 3 0 = u ∧ decR (b.drop 4) false = bitsFrom f 0 (v * u) ∧ 4 ≤ b.length := by
  obtain ⟨h1, h2, h3, h4⟩ := enc_head hv hu h
  refine ⟨h1, ?_, ?_, h4⟩
  · rw [← h2]
    unfold sideL
    rw [List.getD_eq_getElem?_getD, List.getD_eq_getElem?_getD, List.getD_eq_getElem?_getD, List.getD_eq_getElem?_getD, List.getElem?_drop, List.getElem?_drop]
  · rw [h3, dec_enc]
    rfl
theorem drop_getD {b : List Nat} {k : Nat} (h : k < b.length) : b.drop k = b.getD k 0 :: b.drop (k + 1) := by
  rw [List.drop_eq_getElem_cons h, List.getD_eq_getElem?_getD, List.getElem?_eq_getElem h]
  rfl
end Im
/-- The result's box, with its zeros stored again. -/
theorem zero_img {w : World} {g : Nat} (h : Arr w g 24 [.int .i64 0, .int .i64 0, .slice none 0 0]) : ∃ W, ((w.setCell ⟨g, 0, none⟩ (.int .i64 0)).setCell ⟨g, 1, none⟩ (.int .i64 0)).setCell ⟨g, 2, none⟩ (.slice none 0 0) = W ∧ Hid (Arr W g 24 [.int .i64 0, .int .i64 0, .slice none 0 0]) ∧
    w.cell? ⟨g, 0, none⟩ = some (.int .i64 0) ∧ w.frozen? ⟨g, 0, none⟩ = false ∧ (w.setCell ⟨g, 0, none⟩ (.int .i64 0)).cell? ⟨g, 1, none⟩ = some (.int .i64 0) ∧ (w.setCell ⟨g, 0, none⟩ (.int .i64 0)).frozen? ⟨g, 1, none⟩ = false ∧
    ((w.setCell ⟨g, 0, none⟩ (.int .i64 0)).setCell ⟨g, 1, none⟩ (.int .i64 0)).cell? ⟨g, 2, none⟩ = some (.slice none 0 0) ∧ ((w.setCell ⟨g, 0, none⟩ (.int .i64 0)).setCell ⟨g, 1, none⟩ (.int .i64 0)).frozen? ⟨g, 2, none⟩ = false ∧
    W.cell? ⟨g, 0, none⟩ = some (.int .i64 0) ∧ W.cell? ⟨g, 1, none⟩ = some (.int .i64 0) ∧ W.cell? ⟨g, 2, none⟩ = some (.slice none 0 0) ∧ Hid (∀ (B : Nat) (w0 : World), Below B w0 w → B ≤ g → Below B w0 W) := by
  have a1 := h.set 0 (.int .i64 0)
  have a2 := a1.set 1 (.int .i64 0)
  have a3 := a2.set 2 (.slice none 0 0)
  exact ⟨_, rfl, a3, h.cell 0, h.frozen 0, a1.cell 1, a1.frozen 1, a2.cell 2, a2.frozen 2, a3.cell 0, a3.cell 1, a3.cell 2, fun B w0 hb hg => ((hb.setCell (p := ⟨g, 0, none⟩) hg _).setCell (p := ⟨g, 1, none⟩) hg _).setCell (p := ⟨g, 2, none⟩) hg _⟩

/-- A new image box that is filled at once. -/
theorem new_putI (w : World) (x y s : Value) : ∃ V W, w.alloc (.cells #[.int .i64 0, .int .i64 0, .slice none 0 0] 24) = V ∧ ((V.setCell ⟨w.heap.size, 0, none⟩ x).setCell ⟨w.heap.size, 1, none⟩ y).setCell ⟨w.heap.size, 2, none⟩ s = W ∧ Arr W w.heap.size 24 [x, y, s] ∧ Below w.heap.size w W ∧ W.heap.size = w.heap.size + 1 ∧
    V.cell? ⟨w.heap.size, 0, none⟩ = some (.int .i64 0) ∧ V.frozen? ⟨w.heap.size, 0, none⟩ = false ∧ (V.setCell ⟨w.heap.size, 0, none⟩ x).cell? ⟨w.heap.size, 1, none⟩ = some (.int .i64 0) ∧ (V.setCell ⟨w.heap.size, 0, none⟩ x).frozen? ⟨w.heap.size, 1, none⟩ = false ∧
    ((V.setCell ⟨w.heap.size, 0, none⟩ x).setCell ⟨w.heap.size, 1, none⟩ y).cell? ⟨w.heap.size, 2, none⟩ = some (.slice none 0 0) ∧ ((V.setCell ⟨w.heap.size, 0, none⟩ x).setCell ⟨w.heap.size, 1, none⟩ y).frozen? ⟨w.heap.size, 2, none⟩ = false := by
  obtain ⟨V, e1, A, B, hz⟩ := new_img w 0 0 none 0 0
  have a1 := A.set 0 x
  have a2 := a1.set 1 y
  have a3 := a2.set 2 s
  refine ⟨V, _, e1, rfl, a3, ((B.setCell (p := ⟨_, 0, none⟩) (Nat.le_refl _) x).setCell (p := ⟨_, 1, none⟩) (Nat.le_refl _) y).setCell (p := ⟨_, 2, none⟩) (Nat.le_refl _) s, by simp [World.setCell, hz], A.cell 0, A.frozen 0, a1.cell 1, a1.frozen 1, a2.cell 2, a2.frozen 2⟩
/-- What the walk of the reference's Decode keeps. -/
def DecS (w : World) (gb bx m v u : Nat) (wr : World) (D : List Bool) : Prop :=
  Below w.heap.size w wr ∧ Own 5 .u8 gb wr (some ⟨gb, 0, none⟩) m m (packP (bitsD D) m) ∧ Arr wr bx 24 [.int .i64 (v : Int), .int .i64 (u : Int), .slice (some ⟨gb, 0, none⟩) m m] ∧ Arr wr w.heap.size 24 [.int .i64 0, .int .i64 0, .slice none 0 0]
theorem intsN_inj {a b : List Nat} (h : intsN a = intsN b) : a = b := by
  unfold intsN at h
  exact (List.map_inj_right (fun x y e => by omega)).1 h
/-- A bit of the colour is set: the facts of the store, and what is kept. -/
theorem dec_set {w v3 : World} {gb bx m v u N j K P : Nat} {D : List Bool} (HJ : DecS w gb bx m v u v3 (D ++ List.replicate j true)) (hDN : D.length = N) (hK : K = N + j) (hKP : K < P) (hPm : P ≤ 8 * m) (hmb : m ≤ 32768) (n1 : w.heap.size < gb) (n2 : gb < bx) :
    ∃ (q r z uu : Nat) (Z : World), (K : Int).tdiv 8 = (q : Int) ∧ (K : Int).tmod 8 = (r : Int) ∧ wrap64 (q : Int) = (q : Int) ∧ IntKind.i64.wrap (q : Int) = (q : Int) ∧ IntKind.i64.wrap (r : Int) = (r : Int) ∧
      (∀ W, (Instr.indexAt 22 (.slice (some ⟨gb, 0, none⟩) m m) (.int .i64 (q : Int))).run Try.prog W = .ok (.pointer (some (pt (some ⟨gb, 0, none⟩) q))) W) ∧
      v3.cell? (pt (some ⟨gb, 0, none⟩) q) = some (.int .u8 (z : Int)) ∧ v3.frozen? (pt (some ⟨gb, 0, none⟩) q) = false ∧ bits BinOp.or IntKind.u8 (z : Int) (128 / 2 ^ min (IntKind.u64.wrap (r : Int)).toNat 8) = (uu : Int) ∧ bits BinOp.or IntKind.u8 (z : Int) (128 / 2 ^ r) = (uu : Int) ∧
      v3.setCell (pt (some ⟨gb, 0, none⟩) q) (.int .u8 (uu : Int)) = Z ∧ v3.cell? ⟨bx, 2, none⟩ = some (.slice (some ⟨gb, 0, none⟩) m m) ∧ Hid (DecS w gb bx m v u Z (D ++ List.replicate (j + 1) true)) ∧ (r : Int) < 8 ∧ (0 : Int) ≤ (r : Int) ∧ (z : Int) ≤ 255 ∧ (q : Int) < (m : Int) := by
  obtain ⟨q, hq⟩ : ∃ q, K / 8 = q := ⟨_, rfl⟩
  obtain ⟨r, hr⟩ : ∃ r, K % 8 = r := ⟨_, rfl⟩
  have hqm : q < m := by omega
  have hr8 : r < 8 := by omega
  have hqb : q < 32768 := by omega
  have OJ := HJ.2.1
  obtain ⟨f, hf⟩ : ∃ f, bitsD (D ++ List.replicate j true) = f := ⟨_, rfl⟩
  rw [hf] at OJ
  obtain ⟨z, hz1⟩ : ∃ z, byteP f q = z := ⟨_, rfl⟩
  have hzl : z < 256 := by rw [← hz1]; exact byteP_lt f q
  obtain ⟨uu, huu⟩ : ∃ uu, z ||| 128 >>> r = uu := ⟨_, rfl⟩
  have hul : uu < 256 := by
    have h1 : setB true (byteP f (K / 8)) (K % 8) < 256 := setB_lt true f K
    rw [hq, hr, hz1] at h1
    unfold setB at h1
    rw [if_pos rfl, huu] at h1
    exact h1
  have hG : v3.grownBy (v3.setCell (pt (some ⟨gb, 0, none⟩) q) (.int .u8 (uu : Int))) (some gb) := OJ.setOnly hqm _
  have hO2 := OJ.set (i := q) hqm (wf_u8 (x := (uu : Int)) (by omega) (by omega))
  refine ⟨q, r, z, uu, _, ?_, ?_, ?_, ?_, ?_, ix8 OJ.lst q (q : Int) rfl hqm, ?_, OJ.frozen hqm, ?_, ?_, rfl, HJ.2.2.1.cell 2, ?_, by omega, by omega, by omega, by omega⟩
  · rw [Int.tdiv_eq_ediv_of_nonneg (by omega)]; omega
  · rw [Int.tmod_eq_emod_of_nonneg (by omega)]; omega
  · unfold wrap64; omega
  · rw [IntKind.wrap_i64]; omega
  · rw [IntKind.wrap_i64]; omega
  · rw [OJ.lst.cell q hqm, packP_get f m q hqm, hz1]
  · rw [or_forms z hzl r hr8, huu]
  · rw [or_forms2 z hzl r hr8, huu]
  · refine ⟨below_grown HJ.1 hG HJ.1.size (by omega), ?_, HJ.2.2.1.grownBy hG (by omega), HJ.2.2.2.grownBy hG (by omega)⟩
    rw [rep_snoc, bitsD_snoc, List.length_append, List.length_replicate, hDN, ← hK, hf, packP_upd f m K (by omega), hq, hr, hz1, huu]
    exact hO2
end Go.Proofs.Ytcgfoagfoncjiaa
