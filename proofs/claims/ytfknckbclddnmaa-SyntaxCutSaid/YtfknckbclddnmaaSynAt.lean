/-
  The reference's reader of tokens: at.
-/
import Derived.Test.YtfknckbclddnmaaSynRd
namespace Go.Proofs.Ytfknckbclddnmaa
open Go.RowKit Lx

set_option maxHeartbeats 3200000 in
set_option maxRecDepth 100000 in
theorem at_bad (w : World) (g : Nat) (ao : Option Addr) (n c : Nat) (ts : List Tok) (i b : Nat) (h : Rd w g ao n c ts i b) (hb : 1 ≤ b) (k : Int) (x : ByteArray) :
    Calls Try.prog 20 #[.pointer (some ⟨g, 0, none⟩), .int .i64 k, .string x] w fun e w' => e = .returned (.bool false) ∧ ∃ q, w.drewN q = w' := by
  have y2 : w.cell? ⟨g, 2, none⟩ = some (.int .i64 (b : Int)) := h.arr.cell 2
  have hb0 : ((b : Int) == 0) = false := by rw [beq_eq_false_iff_ne]; omega
  clear h hb
  go_enter Try.func20, Try.ntmps20
  go_wp2_with fail
  go_quiet (fail)
  go_wp2_with fail
  go_ret
  exact ⟨rfl, _, rfl⟩

set_option maxHeartbeats 3200000 in
set_option maxRecDepth 100000 in
theorem at_any (w : World) (g : Nat) (ao : Option Addr) (n c : Nat) (ts : List Tok) (i : Nat) (h : Rd w g ao n c ts i 0) (t : Tok) (ht : ts[i]? = some t) (k : Nat) :
    Calls Try.prog 20 #[.pointer (some ⟨g, 0, none⟩), .int .i64 (k : Int), .string ⟨#[]⟩] w fun e w' => e = .returned (.bool (decide (t.kind = k))) ∧ ∃ q, w.drewN q = w' := by
  have hn := h.tok.len
  have hi : i < n := by rw [← hn]; exact (List.getElem?_eq_some_iff.1 ht).1
  have y0 : w.cell? ⟨g, 0, none⟩ = some (.slice ao n c) := h.arr.cell 0
  have y1 : w.cell? ⟨g, 1, none⟩ = some (.int .i64 (i : Int)) := h.arr.cell 1
  have y2 : w.cell? ⟨g, 2, none⟩ = some (.int .i64 0) := h.arr.cell 2
  obtain ⟨gt, hgt, _, a1, a2, a3⟩ := h.tok.at3 i hi t ht (i * 3) (i * 3 + 1) (i * 3 + 2) (by omega) (by omega) (by omega)
  obtain ⟨K, hK⟩ : ∃ K, Hid (t.kind = K) := ⟨_, rfl⟩
  rw [hK.out] at a1 ⊢
  subst hgt
  clear h hn
  by_cases hk : K = k
  · have k1 : ((K : Int) == (k : Int)) = true := by simp; omega
    have hd : Hid (decide (K = k) = true) := decide_eq_true hk
    rw [hd.out]
    clear hk
    go_enter Try.func20, Try.ntmps20
    go_wp2_with fail
    go_quiet (fail)
    go_wp2_with fail
    go_ret
    exact ⟨rfl, _, rfl⟩
  · have k1 : ((K : Int) == (k : Int)) = false := by rw [beq_eq_false_iff_ne]; omega
    have hd : Hid (decide (K = k) = false) := decide_eq_false hk
    rw [hd.out]
    clear hk
    go_enter Try.func20, Try.ntmps20
    go_wp2_with fail
    go_quiet (fail)
    go_wp2_with fail
    go_ret
    exact ⟨rfl, _, rfl⟩

set_option maxHeartbeats 3200000 in
set_option maxRecDepth 100000 in
/-- A mark. -/
theorem at_mark (w : World) (g : Nat) (ao : Option Addr) (n c : Nat) (ts : List Tok) (i : Nat) (h : Rd w g ao n c ts i 0) (t : Tok) (ht : ts[i]? = some t) (d : UInt8) (x : ByteArray) (hx : x = stg [d]) :
    Calls Try.prog 20 #[.pointer (some ⟨g, 0, none⟩), .int .i64 4, .string x] w fun e w' => e = .returned (.bool (isMark d t)) ∧ ∃ q, w.drewN q = w' := by
  have hn := h.tok.len
  have hi : i < n := by rw [← hn]; exact (List.getElem?_eq_some_iff.1 ht).1
  have y0 : w.cell? ⟨g, 0, none⟩ = some (.slice ao n c) := h.arr.cell 0
  have y1 : w.cell? ⟨g, 1, none⟩ = some (.int .i64 (i : Int)) := h.arr.cell 1
  have y2 : w.cell? ⟨g, 2, none⟩ = some (.int .i64 0) := h.arr.cell 2
  obtain ⟨gt, hgt, _, a1, a2, a3⟩ := h.tok.at3 i hi t ht (i * 3) (i * 3 + 1) (i * 3 + 2) (by omega) (by omega) (by omega)
  obtain ⟨K, hK⟩ : ∃ K, Hid (t.kind = K) := ⟨_, rfl⟩
  obtain ⟨Tx, hTx⟩ : ∃ K, Hid (stg t.text = K) := ⟨_, rfl⟩
  obtain ⟨R, hR⟩ : ∃ b, Hid (isMark d t = b) := ⟨_, rfl⟩
  have hRe : Hid (R = (decide (K = 4) && decide (Tx = x))) := by
    show _ = _
    rw [← hR.out, ← hK.out, ← hTx.out, hx]
    unfold isMark
    congr 1
    by_cases e : t.text = [d]
    · rw [decide_eq_true e, e, decide_eq_true rfl]
    · rw [decide_eq_false e, decide_eq_false (fun e2 => e (by have := congrArg bys e2; rwa [bys_stg, bys_stg] at this))]
  have hxe : x.toList.isEmpty = false := by rw [List.isEmpty_eq_false_iff, toList_bys, hx, bys_stg]; simp
  have hxn : ¬ x.toList = [] := by intro e; rw [e] at hxe; cases hxe
  rw [hR.out]
  rw [hK.out] at a1
  rw [hTx.out] at a2
  subst hgt
  clear h hn hx
  by_cases hk : K = 4
  · have k1 : ((K : Int) == 4) = true := by simp; omega
    by_cases hT : Tx = x
    · have k2 : (Tx.toList == x.toList) = true := by rw [hT]; simp
      have hN : Hid (R = true) := by show _ = _; rw [hRe.out, decide_eq_true hk, decide_eq_true hT]; rfl
      clear hk hT
      go_enter Try.func20, Try.ntmps20
      go_wp2_with fail
      go_quiet (fail)
      go_wp2_with fail
      go_ret
      exact ⟨bool_ret hN.out.symm, _, rfl⟩
    · have k2 : (Tx.toList == x.toList) = false := by
        rw [beq_eq_false_iff_ne]
        intro e
        rw [toList_bys, toList_bys] at e
        exact hT (bys_inj e)
      have hN : Hid (R = false) := by show _ = _; rw [hRe.out, decide_eq_false hT, Bool.and_false]
      clear hk hT
      go_enter Try.func20, Try.ntmps20
      go_wp2_with fail
      go_quiet (fail)
      go_wp2_with fail
      go_ret
      exact ⟨bool_ret hN.out.symm, _, rfl⟩
  · have k1 : ((K : Int) == 4) = false := by rw [beq_eq_false_iff_ne]; omega
    have hN : Hid (R = false) := by show _ = _; rw [hRe.out, decide_eq_false hk, Bool.false_and]
    clear hk
    go_enter Try.func20, Try.ntmps20
    go_wp2_with fail
    go_quiet (fail)
    go_wp2_with fail
    go_ret
    exact ⟨bool_ret hN.out.symm, _, rfl⟩
end Go.Proofs.Ytfknckbclddnmaa
