/-
  The reference's reader of tokens in memory; take, at.
-/
import Derived.Test.YtfknckbclddnmaaLexTokAt
import Derived.Test.YtfknckbclddnmaaSynRdMath
import Derived.Test.YtfknckbclddnmaaSynMem
import Derived.Deep.RegionHeld3
import Derived.Deep.QuietTactic
import Derived.BigQuiet
namespace Go.Proofs.Ytfknckbclddnmaa
open Go.RowKit Lx

/-- Block g is a reader over the tokens ts, at place i; bad: the line of the first token that cannot stand where it does, or 0. -/
structure Rd (w : World) (g : Nat) (ao : Option Addr) (n c : Nat) (ts : List Tok) (i bad : Nat) : Prop where
  arr : Arr w g 55 [.slice ao n c, .int .i64 (i : Int), .int .i64 (bad : Int)]
  tok : TokOwn 0 w ao n c ts
  ne : ∀ a, ao = some a → a.block ≠ g
section
variable {w w' : World} {g : Nat} {ao : Option Addr} {n c : Nat} {ts : List Tok} {i bad : Nat}
theorem TokOwn.grown {B : Nat} (h : TokOwn B w ao n c ts) (hg : w.grownBy w' (some g)) (hne : ∀ a, ao = some a → a.block ≠ g) : TokOwn B w' ao n c ts := by
  refine World.ownsRow.kept (row := some g) h hg ?_
  cases ao with
  | none => exact Or.inl rfl
  | some a => exact Or.inr (fun e => hne a rfl (by injection e))
theorem Rd.keep (h : Rd w g ao n c ts i bad) (hb : Below w.heap.size w w') : Rd w' g ao n c ts i bad := ⟨h.arr.kept hb, h.tok.keep hb, h.ne⟩
theorem Rd.setI (h : Rd w g ao n c ts i bad) (j : Nat) : Rd (w.setCell ⟨g, 1, none⟩ (.int .i64 (j : Int))) g ao n c ts j bad :=
  ⟨h.arr.set 1 _, h.tok.grown (g := g) ⟨rfl, rfl, rfl, by simp [World.setCell], fun k _ hk => Below.heap_setCell w _ _ k (fun e => hk (by rw [e]))⟩ h.ne, h.ne⟩
theorem Rd.setB (h : Rd w g ao n c ts i bad) (j : Nat) : Rd (w.setCell ⟨g, 2, none⟩ (.int .i64 (j : Int))) g ao n c ts i j :=
  ⟨h.arr.set 2 _, h.tok.grown (g := g) ⟨rfl, rfl, rfl, by simp [World.setCell], fun k _ hk => Below.heap_setCell w _ _ k (fun e => hk (by rw [e]))⟩ h.ne, h.ne⟩
end

set_option maxHeartbeats 3200000 in
set_option maxRecDepth 100000 in
theorem take_bad (w : World) (g : Nat) (ao : Option Addr) (n c : Nat) (ts : List Tok) (i b : Nat) (h : Rd w g ao n c ts i b) (t : Tok) (ht : ts[i]? = some t) (hb : 1 ≤ b) (k : Int) (x : ByteArray) :
    Calls Try.prog 19 #[.pointer (some ⟨g, 0, none⟩), .int .i64 k, .string x] w fun e w' => e = .returned (.string ⟨#[]⟩) ∧ Rd w' g ao n c ts i b ∧ w.grownBy w' (some g) := by
  have hn := h.tok.len
  have hi : i < n := by rw [← hn]; exact (List.getElem?_eq_some_iff.1 ht).1
  have y0 : w.cell? ⟨g, 0, none⟩ = some (.slice ao n c) := h.arr.cell 0
  have y1 : w.cell? ⟨g, 1, none⟩ = some (.int .i64 (i : Int)) := h.arr.cell 1
  obtain ⟨gt, hgt, _, a1, a2, a3⟩ := h.tok.at3 i hi t ht (i * 3) (i * 3 + 1) (i * 3 + 2) (by omega) (by omega) (by omega)
  obtain ⟨K, hK⟩ : ∃ K, Hid (t.kind = K) := ⟨_, rfl⟩
  obtain ⟨Tx, hTx⟩ : ∃ K, Hid (stg t.text = K) := ⟨_, rfl⟩
  obtain ⟨Ln, hLn⟩ : ∃ K, Hid (t.line = K) := ⟨_, rfl⟩
  rw [hK.out] at a1
  rw [hTx.out] at a2
  rw [hLn.out] at a3
  have hold : ∀ (o : Obj) (p : Addr) (v : Value), w.cell? p = some v → (w.alloc o).cell? p = some v := fun o p v hv => (World.cell?_of_block (Below.heap_alloc w o p.block (World.block_lt_of_cell? w _ hv))).trans hv
  have z0 := hold (.cells #[.int .i64 0, .string ⟨#[]⟩, .int .i64 0] 47) _ _ y0
  have z1 := hold (.cells #[.int .i64 0, .string ⟨#[]⟩, .int .i64 0] 47) _ _ y1
  have b1 := hold (.cells #[.int .i64 0, .string ⟨#[]⟩, .int .i64 0] 47) _ _ a1
  have b2 := hold (.cells #[.int .i64 0, .string ⟨#[]⟩, .int .i64 0] 47) _ _ a2
  have b3 := hold (.cells #[.int .i64 0, .string ⟨#[]⟩, .int .i64 0] 47) _ _ a3
  obtain ⟨V, hV⟩ : ∃ V, Hid (V = (w.alloc (.cells #[.int .i64 (K : Int), .string Tx, .int .i64 (Ln : Int)] 47)).drew) := ⟨_, rfl⟩
  have BV : Below w.heap.size w V := by rw [hV.out]; exact below_drewN ((Below.refl _ _).alloc (Nat.le_refl _) _) 1
  have AV : Arr V w.heap.size 47 [.int .i64 (K : Int), .string Tx, .int .i64 (Ln : Int)] := by rw [hV.out]; exact Arr.new w _ _
  have RV := h.keep BV
  have hgl := h.arr.lt
  have v0 : V.cell? ⟨w.heap.size, 0, none⟩ = some (.int .i64 (K : Int)) := AV.cell 0
  have v1 : V.cell? ⟨w.heap.size, 1, none⟩ = some (.string Tx) := AV.cell 1
  have v2 : V.cell? ⟨w.heap.size, 2, none⟩ = some (.int .i64 (Ln : Int)) := AV.cell 2
  have u1 : V.cell? ⟨g, 1, none⟩ = some (.int .i64 (i : Int)) := RV.arr.cell 1
  have u2 : V.cell? ⟨g, 2, none⟩ = some (.int .i64 (b : Int)) := RV.arr.cell 2
  have f1 : V.frozen? ⟨g, 1, none⟩ = false := RV.arr.frozen 1
  have f2 : V.frozen? ⟨g, 2, none⟩ = false := RV.arr.frozen 2
  have GV : Hid (w.grownBy V (some g)) := ⟨BV.os, BV.tape, BV.output, BV.size, fun k hk _ => BV.block k hk⟩
  have RV := Lib.hid RV
  have AV := Lib.hid AV
  have hne : w.heap.size ≠ g := by omega
  obtain ⟨gb, hgb⟩ : ∃ k, Hid (w.heap.size = k) := ⟨_, rfl⟩
  have hb0 : ((b : Int) == 0) = false := by rw [beq_eq_false_iff_ne]; omega
  have hb1 : ((b : Int) != 0) = true := by simp; omega
  subst hgt
  clear h hn hold BV
  go_enter Try.func19, Try.ntmps19
  go_wp2_with fail
  go_region
  rw [hgb.out] at v0 v1 v2 hne
  rw [← hV.out, hgb.out]
  clear hV y0 y1 a1 a2 a3 z0 z1 b1 b2 b3
  go_wp2_with fail
  go_ret
  exact ⟨rfl, RV.out, GV.out⟩

set_option maxHeartbeats 3200000 in
set_option maxRecDepth 100000 in
theorem take_any (w : World) (g : Nat) (ao : Option Addr) (n c : Nat) (ts : List Tok) (i : Nat) (h : Rd w g ao n c ts i 0) (t : Tok) (ht : ts[i]? = some t) (k : Nat) (hk : t.kind = k) (hk5 : k ≠ 5)  :
    Calls Try.prog 19 #[.pointer (some ⟨g, 0, none⟩), .int .i64 (k : Int), .string ⟨#[]⟩] w fun e w' => e = .returned (.string (stg t.text)) ∧ Rd w' g ao n c ts (i + 1) 0 ∧ w.grownBy w' (some g) := by
  have hn := h.tok.len
  have hi : i < n := by rw [← hn]; exact (List.getElem?_eq_some_iff.1 ht).1
  have y0 : w.cell? ⟨g, 0, none⟩ = some (.slice ao n c) := h.arr.cell 0
  have y1 : w.cell? ⟨g, 1, none⟩ = some (.int .i64 (i : Int)) := h.arr.cell 1
  obtain ⟨gt, hgt, _, a1, a2, a3⟩ := h.tok.at3 i hi t ht (i * 3) (i * 3 + 1) (i * 3 + 2) (by omega) (by omega) (by omega)
  obtain ⟨K, hK⟩ : ∃ K, Hid (t.kind = K) := ⟨_, rfl⟩
  obtain ⟨Tx, hTx⟩ : ∃ K, Hid (stg t.text = K) := ⟨_, rfl⟩
  obtain ⟨Ln, hLn⟩ : ∃ K, Hid (t.line = K) := ⟨_, rfl⟩
  rw [hK.out] at a1
  rw [hTx.out] at a2
  rw [hLn.out] at a3
  have hold : ∀ (o : Obj) (p : Addr) (v : Value), w.cell? p = some v → (w.alloc o).cell? p = some v := fun o p v hv => (World.cell?_of_block (Below.heap_alloc w o p.block (World.block_lt_of_cell? w _ hv))).trans hv
  have z0 := hold (.cells #[.int .i64 0, .string ⟨#[]⟩, .int .i64 0] 47) _ _ y0
  have z1 := hold (.cells #[.int .i64 0, .string ⟨#[]⟩, .int .i64 0] 47) _ _ y1
  have b1 := hold (.cells #[.int .i64 0, .string ⟨#[]⟩, .int .i64 0] 47) _ _ a1
  have b2 := hold (.cells #[.int .i64 0, .string ⟨#[]⟩, .int .i64 0] 47) _ _ a2
  have b3 := hold (.cells #[.int .i64 0, .string ⟨#[]⟩, .int .i64 0] 47) _ _ a3
  obtain ⟨V, hV⟩ : ∃ V, Hid (V = (w.alloc (.cells #[.int .i64 (K : Int), .string Tx, .int .i64 (Ln : Int)] 47)).drew) := ⟨_, rfl⟩
  have BV : Below w.heap.size w V := by rw [hV.out]; exact below_drewN ((Below.refl _ _).alloc (Nat.le_refl _) _) 1
  have AV : Arr V w.heap.size 47 [.int .i64 (K : Int), .string Tx, .int .i64 (Ln : Int)] := by rw [hV.out]; exact Arr.new w _ _
  have RV := h.keep BV
  have hgl := h.arr.lt
  have v0 : V.cell? ⟨w.heap.size, 0, none⟩ = some (.int .i64 (K : Int)) := AV.cell 0
  have v1 : V.cell? ⟨w.heap.size, 1, none⟩ = some (.string Tx) := AV.cell 1
  have v2 : V.cell? ⟨w.heap.size, 2, none⟩ = some (.int .i64 (Ln : Int)) := AV.cell 2
  have u1 : V.cell? ⟨g, 1, none⟩ = some (.int .i64 (i : Int)) := RV.arr.cell 1
  have u2 : V.cell? ⟨g, 2, none⟩ = some (.int .i64 0) := RV.arr.cell 2
  have f1 : V.frozen? ⟨g, 1, none⟩ = false := RV.arr.frozen 1
  have f2 : V.frozen? ⟨g, 2, none⟩ = false := RV.arr.frozen 2
  have GV : Hid (w.grownBy V (some g)) := ⟨BV.os, BV.tape, BV.output, BV.size, fun k hk _ => BV.block k hk⟩
  have RV := Lib.hid RV
  have AV := Lib.hid AV
  have hne : w.heap.size ≠ g := by omega
  obtain ⟨gb, hgb⟩ : ∃ k, Hid (w.heap.size = k) := ⟨_, rfl⟩
  have hkk : Hid (k = K) := by show _ = _; rw [← hK.out]; exact hk.symm
  have k1 : ((K : Int) != (k : Int)) = false := by rw [hkk.out]; simp
  have k5 : ((k : Int) != 5) = true := by simp; omega
  have w1 : IntKind.i64.wrap ((i : Int) + 1) = ((i + 1 : Nat) : Int) := by rw [IntWalk.i64_in _ (by have := h.tok.cases; unfold maxLen at this; omega)]; omega
  clear hk hk5
  subst hgt
  clear h hn hold BV
  go_enter Try.func19, Try.ntmps19
  go_wp2_with fail
  go_region
  rw [hgb.out] at v0 v1 v2 hne
  rw [← hV.out, hgb.out]
  clear hV y0 y1 a1 a2 a3 z0 z1 b1 b2 b3
  go_wp2_with fail
  go_ret
  exact ⟨by rw [hTx.out]; rfl, RV.out.setI (i + 1), grown_trans GV.out (set_grown _ _ _ _)⟩

set_option maxHeartbeats 3200000 in
set_option maxRecDepth 100000 in
theorem take_text (w : World) (g : Nat) (ao : Option Addr) (n c : Nat) (ts : List Tok) (i : Nat) (h : Rd w g ao n c ts i 0) (t : Tok) (ht : ts[i]? = some t) (k : Nat) (hk : t.kind = k) (hk5 : k ≠ 5) (x : ByteArray) (hx0 : x ≠ ⟨#[]⟩) (hx : stg t.text = x) :
    Calls Try.prog 19 #[.pointer (some ⟨g, 0, none⟩), .int .i64 (k : Int), .string x] w fun e w' => e = .returned (.string (stg t.text)) ∧ Rd w' g ao n c ts (i + 1) 0 ∧ w.grownBy w' (some g) := by
  have hn := h.tok.len
  have hi : i < n := by rw [← hn]; exact (List.getElem?_eq_some_iff.1 ht).1
  have y0 : w.cell? ⟨g, 0, none⟩ = some (.slice ao n c) := h.arr.cell 0
  have y1 : w.cell? ⟨g, 1, none⟩ = some (.int .i64 (i : Int)) := h.arr.cell 1
  obtain ⟨gt, hgt, _, a1, a2, a3⟩ := h.tok.at3 i hi t ht (i * 3) (i * 3 + 1) (i * 3 + 2) (by omega) (by omega) (by omega)
  obtain ⟨K, hK⟩ : ∃ K, Hid (t.kind = K) := ⟨_, rfl⟩
  obtain ⟨Tx, hTx⟩ : ∃ K, Hid (stg t.text = K) := ⟨_, rfl⟩
  obtain ⟨Ln, hLn⟩ : ∃ K, Hid (t.line = K) := ⟨_, rfl⟩
  rw [hK.out] at a1
  rw [hTx.out] at a2
  rw [hLn.out] at a3
  have hold : ∀ (o : Obj) (p : Addr) (v : Value), w.cell? p = some v → (w.alloc o).cell? p = some v := fun o p v hv => (World.cell?_of_block (Below.heap_alloc w o p.block (World.block_lt_of_cell? w _ hv))).trans hv
  have z0 := hold (.cells #[.int .i64 0, .string ⟨#[]⟩, .int .i64 0] 47) _ _ y0
  have z1 := hold (.cells #[.int .i64 0, .string ⟨#[]⟩, .int .i64 0] 47) _ _ y1
  have b1 := hold (.cells #[.int .i64 0, .string ⟨#[]⟩, .int .i64 0] 47) _ _ a1
  have b2 := hold (.cells #[.int .i64 0, .string ⟨#[]⟩, .int .i64 0] 47) _ _ a2
  have b3 := hold (.cells #[.int .i64 0, .string ⟨#[]⟩, .int .i64 0] 47) _ _ a3
  obtain ⟨V, hV⟩ : ∃ V, Hid (V = (w.alloc (.cells #[.int .i64 (K : Int), .string Tx, .int .i64 (Ln : Int)] 47)).drew) := ⟨_, rfl⟩
  have BV : Below w.heap.size w V := by rw [hV.out]; exact below_drewN ((Below.refl _ _).alloc (Nat.le_refl _) _) 1
  have AV : Arr V w.heap.size 47 [.int .i64 (K : Int), .string Tx, .int .i64 (Ln : Int)] := by rw [hV.out]; exact Arr.new w _ _
  have RV := h.keep BV
  have hgl := h.arr.lt
  have v0 : V.cell? ⟨w.heap.size, 0, none⟩ = some (.int .i64 (K : Int)) := AV.cell 0
  have v1 : V.cell? ⟨w.heap.size, 1, none⟩ = some (.string Tx) := AV.cell 1
  have v2 : V.cell? ⟨w.heap.size, 2, none⟩ = some (.int .i64 (Ln : Int)) := AV.cell 2
  have u1 : V.cell? ⟨g, 1, none⟩ = some (.int .i64 (i : Int)) := RV.arr.cell 1
  have u2 : V.cell? ⟨g, 2, none⟩ = some (.int .i64 0) := RV.arr.cell 2
  have f1 : V.frozen? ⟨g, 1, none⟩ = false := RV.arr.frozen 1
  have f2 : V.frozen? ⟨g, 2, none⟩ = false := RV.arr.frozen 2
  have GV : Hid (w.grownBy V (some g)) := ⟨BV.os, BV.tape, BV.output, BV.size, fun k hk _ => BV.block k hk⟩
  have RV := Lib.hid RV
  have AV := Lib.hid AV
  have hne : w.heap.size ≠ g := by omega
  obtain ⟨gb, hgb⟩ : ∃ k, Hid (w.heap.size = k) := ⟨_, rfl⟩
  have hkk : Hid (k = K) := by show _ = _; rw [← hK.out]; exact hk.symm
  have k1 : ((K : Int) != (k : Int)) = false := by rw [hkk.out]; simp
  have k5 : ((k : Int) != 5) = true := by simp; omega
  have w1 : IntKind.i64.wrap ((i : Int) + 1) = ((i + 1 : Nat) : Int) := by rw [IntWalk.i64_in _ (by have := h.tok.cases; unfold maxLen at this; omega)]; omega
  clear hk hk5
  have hxx : Hid (Tx = x) := by show _ = _; rw [← hTx.out]; exact hx
  have k2 : x.toList.isEmpty = false := by
    rw [List.isEmpty_eq_false_iff, toList_bys]
    intro e
    exact hx0 (size_zero (by rw [← bys_len, e]; rfl))
  have k3 : (Tx.toList == x.toList) = true := by rw [hxx.out]; simp
  have k4 : ¬ x.toList = [] := by intro e; rw [e] at k2; cases k2
  clear hx hx0
  subst hgt
  clear h hn hold BV
  go_enter Try.func19, Try.ntmps19
  go_wp2_with fail
  go_region
  rw [hgb.out] at v0 v1 v2 hne
  rw [← hV.out, hgb.out]
  clear hV y0 y1 a1 a2 a3 z0 z1 b1 b2 b3
  go_wp2_with fail
  go_ret
  exact ⟨by rw [hTx.out]; rfl, RV.out.setI (i + 1), grown_trans GV.out (set_grown _ _ _ _)⟩

set_option maxHeartbeats 3200000 in
set_option maxRecDepth 100000 in
theorem take_end (w : World) (g : Nat) (ao : Option Addr) (n c : Nat) (ts : List Tok) (i : Nat) (h : Rd w g ao n c ts i 0) (t : Tok) (ht : ts[i]? = some t) (hk : t.kind = 5)  :
    Calls Try.prog 19 #[.pointer (some ⟨g, 0, none⟩), .int .i64 5, .string ⟨#[]⟩] w fun e w' => e = .returned (.string (stg t.text)) ∧ Rd w' g ao n c ts i 0 ∧ w.grownBy w' (some g) := by
  have hn := h.tok.len
  have hi : i < n := by rw [← hn]; exact (List.getElem?_eq_some_iff.1 ht).1
  have y0 : w.cell? ⟨g, 0, none⟩ = some (.slice ao n c) := h.arr.cell 0
  have y1 : w.cell? ⟨g, 1, none⟩ = some (.int .i64 (i : Int)) := h.arr.cell 1
  obtain ⟨gt, hgt, _, a1, a2, a3⟩ := h.tok.at3 i hi t ht (i * 3) (i * 3 + 1) (i * 3 + 2) (by omega) (by omega) (by omega)
  obtain ⟨K, hK⟩ : ∃ K, Hid (t.kind = K) := ⟨_, rfl⟩
  obtain ⟨Tx, hTx⟩ : ∃ K, Hid (stg t.text = K) := ⟨_, rfl⟩
  obtain ⟨Ln, hLn⟩ : ∃ K, Hid (t.line = K) := ⟨_, rfl⟩
  rw [hK.out] at a1
  rw [hTx.out] at a2
  rw [hLn.out] at a3
  have hold : ∀ (o : Obj) (p : Addr) (v : Value), w.cell? p = some v → (w.alloc o).cell? p = some v := fun o p v hv => (World.cell?_of_block (Below.heap_alloc w o p.block (World.block_lt_of_cell? w _ hv))).trans hv
  have z0 := hold (.cells #[.int .i64 0, .string ⟨#[]⟩, .int .i64 0] 47) _ _ y0
  have z1 := hold (.cells #[.int .i64 0, .string ⟨#[]⟩, .int .i64 0] 47) _ _ y1
  have b1 := hold (.cells #[.int .i64 0, .string ⟨#[]⟩, .int .i64 0] 47) _ _ a1
  have b2 := hold (.cells #[.int .i64 0, .string ⟨#[]⟩, .int .i64 0] 47) _ _ a2
  have b3 := hold (.cells #[.int .i64 0, .string ⟨#[]⟩, .int .i64 0] 47) _ _ a3
  obtain ⟨V, hV⟩ : ∃ V, Hid (V = (w.alloc (.cells #[.int .i64 (K : Int), .string Tx, .int .i64 (Ln : Int)] 47)).drew) := ⟨_, rfl⟩
  have BV : Below w.heap.size w V := by rw [hV.out]; exact below_drewN ((Below.refl _ _).alloc (Nat.le_refl _) _) 1
  have AV : Arr V w.heap.size 47 [.int .i64 (K : Int), .string Tx, .int .i64 (Ln : Int)] := by rw [hV.out]; exact Arr.new w _ _
  have RV := h.keep BV
  have hgl := h.arr.lt
  have v0 : V.cell? ⟨w.heap.size, 0, none⟩ = some (.int .i64 (K : Int)) := AV.cell 0
  have v1 : V.cell? ⟨w.heap.size, 1, none⟩ = some (.string Tx) := AV.cell 1
  have v2 : V.cell? ⟨w.heap.size, 2, none⟩ = some (.int .i64 (Ln : Int)) := AV.cell 2
  have u1 : V.cell? ⟨g, 1, none⟩ = some (.int .i64 (i : Int)) := RV.arr.cell 1
  have u2 : V.cell? ⟨g, 2, none⟩ = some (.int .i64 0) := RV.arr.cell 2
  have f1 : V.frozen? ⟨g, 1, none⟩ = false := RV.arr.frozen 1
  have f2 : V.frozen? ⟨g, 2, none⟩ = false := RV.arr.frozen 2
  have GV : Hid (w.grownBy V (some g)) := ⟨BV.os, BV.tape, BV.output, BV.size, fun k hk _ => BV.block k hk⟩
  have RV := Lib.hid RV
  have AV := Lib.hid AV
  have hne : w.heap.size ≠ g := by omega
  obtain ⟨gb, hgb⟩ : ∃ k, Hid (w.heap.size = k) := ⟨_, rfl⟩
  have hkk : Hid (5 = K) := by show _ = _; rw [← hK.out]; exact hk.symm
  have k1 : ((K : Int) != 5) = false := by rw [← hkk.out]; rfl
  clear hk
  subst hgt
  clear h hn hold BV
  go_enter Try.func19, Try.ntmps19
  go_wp2_with fail
  go_region
  rw [hgb.out] at v0 v1 v2 hne
  rw [← hV.out, hgb.out]
  clear hV y0 y1 a1 a2 a3 z0 z1 b1 b2 b3
  go_wp2_with fail
  go_ret
  exact ⟨by rw [hTx.out]; rfl, RV.out, GV.out⟩

set_option maxHeartbeats 3200000 in
set_option maxRecDepth 100000 in
theorem take_kind (w : World) (g : Nat) (ao : Option Addr) (n c : Nat) (ts : List Tok) (i : Nat) (h : Rd w g ao n c ts i 0) (t : Tok) (ht : ts[i]? = some t) (k : Nat) (x : ByteArray) (hl : 1 ≤ t.line) (hk : t.kind ≠ k) :
    Calls Try.prog 19 #[.pointer (some ⟨g, 0, none⟩), .int .i64 (k : Int), .string x] w fun e w' => e = .returned (.string ⟨#[]⟩) ∧ Rd w' g ao n c ts i t.line ∧ w.grownBy w' (some g) := by
  have hn := h.tok.len
  have hi : i < n := by rw [← hn]; exact (List.getElem?_eq_some_iff.1 ht).1
  have y0 : w.cell? ⟨g, 0, none⟩ = some (.slice ao n c) := h.arr.cell 0
  have y1 : w.cell? ⟨g, 1, none⟩ = some (.int .i64 (i : Int)) := h.arr.cell 1
  obtain ⟨gt, hgt, _, a1, a2, a3⟩ := h.tok.at3 i hi t ht (i * 3) (i * 3 + 1) (i * 3 + 2) (by omega) (by omega) (by omega)
  obtain ⟨K, hK⟩ : ∃ K, Hid (t.kind = K) := ⟨_, rfl⟩
  obtain ⟨Tx, hTx⟩ : ∃ K, Hid (stg t.text = K) := ⟨_, rfl⟩
  obtain ⟨Ln, hLn⟩ : ∃ K, Hid (t.line = K) := ⟨_, rfl⟩
  rw [hK.out] at a1
  rw [hTx.out] at a2
  rw [hLn.out] at a3
  have hold : ∀ (o : Obj) (p : Addr) (v : Value), w.cell? p = some v → (w.alloc o).cell? p = some v := fun o p v hv => (World.cell?_of_block (Below.heap_alloc w o p.block (World.block_lt_of_cell? w _ hv))).trans hv
  have z0 := hold (.cells #[.int .i64 0, .string ⟨#[]⟩, .int .i64 0] 47) _ _ y0
  have z1 := hold (.cells #[.int .i64 0, .string ⟨#[]⟩, .int .i64 0] 47) _ _ y1
  have b1 := hold (.cells #[.int .i64 0, .string ⟨#[]⟩, .int .i64 0] 47) _ _ a1
  have b2 := hold (.cells #[.int .i64 0, .string ⟨#[]⟩, .int .i64 0] 47) _ _ a2
  have b3 := hold (.cells #[.int .i64 0, .string ⟨#[]⟩, .int .i64 0] 47) _ _ a3
  obtain ⟨V, hV⟩ : ∃ V, Hid (V = (w.alloc (.cells #[.int .i64 (K : Int), .string Tx, .int .i64 (Ln : Int)] 47)).drew) := ⟨_, rfl⟩
  have BV : Below w.heap.size w V := by rw [hV.out]; exact below_drewN ((Below.refl _ _).alloc (Nat.le_refl _) _) 1
  have AV : Arr V w.heap.size 47 [.int .i64 (K : Int), .string Tx, .int .i64 (Ln : Int)] := by rw [hV.out]; exact Arr.new w _ _
  have RV := h.keep BV
  have hgl := h.arr.lt
  have v0 : V.cell? ⟨w.heap.size, 0, none⟩ = some (.int .i64 (K : Int)) := AV.cell 0
  have v1 : V.cell? ⟨w.heap.size, 1, none⟩ = some (.string Tx) := AV.cell 1
  have v2 : V.cell? ⟨w.heap.size, 2, none⟩ = some (.int .i64 (Ln : Int)) := AV.cell 2
  have u1 : V.cell? ⟨g, 1, none⟩ = some (.int .i64 (i : Int)) := RV.arr.cell 1
  have u2 : V.cell? ⟨g, 2, none⟩ = some (.int .i64 0) := RV.arr.cell 2
  have f1 : V.frozen? ⟨g, 1, none⟩ = false := RV.arr.frozen 1
  have f2 : V.frozen? ⟨g, 2, none⟩ = false := RV.arr.frozen 2
  have GV : Hid (w.grownBy V (some g)) := ⟨BV.os, BV.tape, BV.output, BV.size, fun k hk _ => BV.block k hk⟩
  have RV := Lib.hid RV
  have AV := Lib.hid AV
  have hne : w.heap.size ≠ g := by omega
  obtain ⟨gb, hgb⟩ : ∃ k, Hid (w.heap.size = k) := ⟨_, rfl⟩
  have hLn1 : ((Ln : Int) != 0) = true := by have := hLn.out; simp; omega
  clear hl
  have k1 : ((K : Int) != (k : Int)) = true := by
    have h1 : K ≠ k := by rw [← hK.out]; exact hk
    simp
    omega
  clear hk
  subst hgt
  clear h hn hold BV
  go_enter Try.func19, Try.ntmps19
  go_wp2_with fail
  go_region
  rw [hgb.out] at v0 v1 v2 hne
  rw [← hV.out, hgb.out]
  clear hV y0 y1 a1 a2 a3 z0 z1 b1 b2 b3
  go_wp2_with fail
  go_ret
  exact ⟨rfl, by rw [hLn.out]; exact RV.out.setB Ln, grown_trans GV.out (set_grown _ _ _ _)⟩

set_option maxHeartbeats 3200000 in
set_option maxRecDepth 100000 in
theorem take_other (w : World) (g : Nat) (ao : Option Addr) (n c : Nat) (ts : List Tok) (i : Nat) (h : Rd w g ao n c ts i 0) (t : Tok) (ht : ts[i]? = some t) (k : Nat) (x : ByteArray) (hl : 1 ≤ t.line) (hk : t.kind = k) (hx0 : x ≠ ⟨#[]⟩) (hx : stg t.text ≠ x) :
    Calls Try.prog 19 #[.pointer (some ⟨g, 0, none⟩), .int .i64 (k : Int), .string x] w fun e w' => e = .returned (.string ⟨#[]⟩) ∧ Rd w' g ao n c ts i t.line ∧ w.grownBy w' (some g) := by
  have hn := h.tok.len
  have hi : i < n := by rw [← hn]; exact (List.getElem?_eq_some_iff.1 ht).1
  have y0 : w.cell? ⟨g, 0, none⟩ = some (.slice ao n c) := h.arr.cell 0
  have y1 : w.cell? ⟨g, 1, none⟩ = some (.int .i64 (i : Int)) := h.arr.cell 1
  obtain ⟨gt, hgt, _, a1, a2, a3⟩ := h.tok.at3 i hi t ht (i * 3) (i * 3 + 1) (i * 3 + 2) (by omega) (by omega) (by omega)
  obtain ⟨K, hK⟩ : ∃ K, Hid (t.kind = K) := ⟨_, rfl⟩
  obtain ⟨Tx, hTx⟩ : ∃ K, Hid (stg t.text = K) := ⟨_, rfl⟩
  obtain ⟨Ln, hLn⟩ : ∃ K, Hid (t.line = K) := ⟨_, rfl⟩
  rw [hK.out] at a1
  rw [hTx.out] at a2
  rw [hLn.out] at a3
  have hold : ∀ (o : Obj) (p : Addr) (v : Value), w.cell? p = some v → (w.alloc o).cell? p = some v := fun o p v hv => (World.cell?_of_block (Below.heap_alloc w o p.block (World.block_lt_of_cell? w _ hv))).trans hv
  have z0 := hold (.cells #[.int .i64 0, .string ⟨#[]⟩, .int .i64 0] 47) _ _ y0
  have z1 := hold (.cells #[.int .i64 0, .string ⟨#[]⟩, .int .i64 0] 47) _ _ y1
  have b1 := hold (.cells #[.int .i64 0, .string ⟨#[]⟩, .int .i64 0] 47) _ _ a1
  have b2 := hold (.cells #[.int .i64 0, .string ⟨#[]⟩, .int .i64 0] 47) _ _ a2
  have b3 := hold (.cells #[.int .i64 0, .string ⟨#[]⟩, .int .i64 0] 47) _ _ a3
  obtain ⟨V, hV⟩ : ∃ V, Hid (V = (w.alloc (.cells #[.int .i64 (K : Int), .string Tx, .int .i64 (Ln : Int)] 47)).drew) := ⟨_, rfl⟩
  have BV : Below w.heap.size w V := by rw [hV.out]; exact below_drewN ((Below.refl _ _).alloc (Nat.le_refl _) _) 1
  have AV : Arr V w.heap.size 47 [.int .i64 (K : Int), .string Tx, .int .i64 (Ln : Int)] := by rw [hV.out]; exact Arr.new w _ _
  have RV := h.keep BV
  have hgl := h.arr.lt
  have v0 : V.cell? ⟨w.heap.size, 0, none⟩ = some (.int .i64 (K : Int)) := AV.cell 0
  have v1 : V.cell? ⟨w.heap.size, 1, none⟩ = some (.string Tx) := AV.cell 1
  have v2 : V.cell? ⟨w.heap.size, 2, none⟩ = some (.int .i64 (Ln : Int)) := AV.cell 2
  have u1 : V.cell? ⟨g, 1, none⟩ = some (.int .i64 (i : Int)) := RV.arr.cell 1
  have u2 : V.cell? ⟨g, 2, none⟩ = some (.int .i64 0) := RV.arr.cell 2
  have f1 : V.frozen? ⟨g, 1, none⟩ = false := RV.arr.frozen 1
  have f2 : V.frozen? ⟨g, 2, none⟩ = false := RV.arr.frozen 2
  have GV : Hid (w.grownBy V (some g)) := ⟨BV.os, BV.tape, BV.output, BV.size, fun k hk _ => BV.block k hk⟩
  have RV := Lib.hid RV
  have AV := Lib.hid AV
  have hne : w.heap.size ≠ g := by omega
  obtain ⟨gb, hgb⟩ : ∃ k, Hid (w.heap.size = k) := ⟨_, rfl⟩
  have hLn1 : ((Ln : Int) != 0) = true := by have := hLn.out; simp; omega
  clear hl
  have hkk : Hid (k = K) := by show _ = _; rw [← hK.out]; exact hk.symm
  have k1 : ((K : Int) != (k : Int)) = false := by rw [hkk.out]; simp
  have k2 : x.toList.isEmpty = false := by
    rw [List.isEmpty_eq_false_iff, toList_bys]
    intro e
    exact hx0 (size_zero (by rw [← bys_len, e]; rfl))
  have k3 : (Tx.toList == x.toList) = false := by
    rw [beq_eq_false_iff_ne]
    intro e
    rw [toList_bys, toList_bys] at e
    exact hx (by rw [hTx.out]; exact bys_inj e)
  have k4 : ¬ x.toList = [] := by intro e; rw [e] at k2; cases k2
  clear hk hx hx0
  subst hgt
  clear h hn hold BV
  go_enter Try.func19, Try.ntmps19
  go_wp2_with fail
  go_region
  rw [hgb.out] at v0 v1 v2 hne
  rw [← hV.out, hgb.out]
  clear hV y0 y1 a1 a2 a3 z0 z1 b1 b2 b3
  go_wp2_with fail
  go_ret
  exact ⟨rfl, by rw [hLn.out]; exact RV.out.setB Ln, grown_trans GV.out (set_grown _ _ _ _)⟩

end Go.Proofs.Ytfknckbclddnmaa
