/-
  All blocks of a message: digest.compress; digest.start, digest.output.
-/
import Derived.Test.YtgomconcfjllcaaDoorDigBlock
namespace Go.Proofs.YtgomconcfjllcaaDoor
open Go.RowKit Dig

namespace Dig
theorem h0_ok : h0.Ok := ⟨by decide, by decide, by decide, by decide, by decide, by decide, by decide, by decide⟩
theorem add_ok (s u : St) : (s.add u).Ok := ⟨mod_le _, mod_le _, mod_le _, mod_le _, mod_le _, mod_le _, mod_le _, mod_le _⟩
theorem blkS_ok (s : St) (xs : List Int) : (blkS s xs).Ok := add_ok _ _
theorem cmpS_ok {s : St} (hs : s.Ok) (xs : List Int) (k : Nat) : (cmpS s xs k).Ok := by
  cases k with
  | zero => exact hs
  | succ k => exact blkS_ok _ _
end Dig

def lenOf : Value → Nat
  | .slice _ n _ => n
  | _ => 0
/-- Where a cut from the front begins. -/
def cutA (ao : Option Addr) (c j : Nat) : Option Addr := if c = j then ao else ao.map (·.add j)
theorem Lst.cut {k : IntKind} {w : World} {ao : Option Addr} {n c : Nat} {xs : List Int} (h : Lst k w ao n c xs) {j : Nat} (hj : j ≤ n) : Lst k w (cutA ao c j) (n - j) (c - j) (xs.drop j) := by
  have hl := h.len
  have hc := h.cap
  refine ⟨by simp; omega, by omega, by have := h.room; omega, fun h0 => ?_, fun i hi => ?_, fun x hx => h.wf x (List.mem_of_mem_drop hx)⟩
  · obtain ⟨a, rfl⟩ := h.isSome (by omega)
    unfold cutA
    split
    · exact ⟨_, rfl⟩
    · exact ⟨_, rfl⟩
  · obtain ⟨a, rfl⟩ := h.isSome (by omega)
    have := h.cell (j + i) (by omega)
    have e : pt (cutA (some a) c j) i = pt (some a) (j + i) := by
      unfold cutA
      rw [if_neg (by omega)]
      simp only [pt, Option.map_some, Option.getD_some]
      unfold Addr.add
      by_cases h1 : j = 0 <;> by_cases h2 : i = 0 <;> simp [h1, h2, Nat.add_assoc]
    rw [e, this]
    simp [List.getD]

theorem cutA_eq (a : Option Addr) (d j : Nat) (hj : j ≠ 0) : (if d = j then a else Option.map (fun x : Addr => (⟨x.block, x.off + j, none⟩ : Addr)) a) = cutA a d j := by
  unfold cutA Addr.add
  simp [hj]
theorem cut_block {k : IntKind} {w : World} {ao : Option Addr} {n c j i : Nat} {xs : List Int} (h : Lst k w (cutA ao c j) n (c - j) xs) (hi : i < n) : (pt (cutA ao c j) i).block = (pt ao (j + i)).block := by
  obtain ⟨a, ha⟩ := h.isSome (by omega)
  have hc := h.cap
  cases ao with
  | none => unfold cutA at ha; split at ha <;> cases ha
  | some a0 =>
    unfold cutA
    rw [if_neg (by omega)]
    simp only [pt, Option.map_some, Option.getD_some]
    unfold Addr.add
    by_cases h1 : j = 0 <;> by_cases h2 : i = 0 <;> simp [h1, h2]

set_option maxRecDepth 100000 in
theorem start_c (w : World) :
    Calls Tryd.prog 30 #[] w fun e w' => e = .returned (.agg (stv h0).toArray) ∧ Below w.heap.size w w' := by
  go_enter Tryd.func30, Tryd.ntmps30
  go_wp2
  refine bodyPost_ret (results_arr arr43 rfl _ rfl (Arr.new _ _ _) rfl) rfl ⟨rfl, (Below.refl _ _).alloc (Nat.le_refl _) _⟩

set_option maxHeartbeats 1600000 in
set_option maxRecDepth 100000 in
theorem compress_c (g : Nat) (s : St) (hs : s.Ok) (ao : Option Addr) (n c : Nat) (xs : List Int) (w : World) (hA : Arr w g 59 (stv s)) (h : Lst .u8 w ao n c xs) (K : Nat) (hn : n = 64 * K) (hlow : ∀ i, i < n → (pt ao i).block ≠ g) (hK : KTab 1 w) (hKg : 1 ≠ g) :
    Calls Tryd.prog 31 #[.pointer (some ⟨g, 0, none⟩), .slice ao n c] w fun e w' => e = .returned (.tuple #[]) ∧ Arr w' g 59 (stv (cmpS s xs K)) ∧ w.grownBy w' (some g) := by
  have hroom := h.room
  have hcap := h.cap
  have HN := Lib.hid hn
  clear hn
  go_enter Tryd.func31, Tryd.ntmps31
  go_wp2_with fail
  go_loopw [1] (fun v wr => ∃ (k : Nat) (a : Option Addr) (m d : Nat), k ≤ K ∧ v = .slice a m d ∧ Hid (m = 64 * (K - k)) ∧ Lst .u8 wr a m d (xs.drop (64 * k)) ∧ (∀ i, i < m → (pt a i).block ≠ g) ∧ Arr wr g 59 (stv (cmpS s xs k)) ∧ KTab 1 wr ∧ w.grownBy wr (some g))
    (fun v _ => lenOf v)
  case atStart => exact ⟨0, ao, n, c, Nat.zero_le _, rfl, by rw [HN.out]; rfl, by simpa using h, hlow, hA, hK, World.grownBy.refl _ _⟩
  case round =>
    clear hlow hA hK h
    obtain ⟨k, a, m, d, hk, rfl, hm, L, hlow, A, KT, G⟩ := hrel
    have hcap' := L.cap
    have hroom' := L.room
    by_cases hlt : k < K
    · have hm0 : 0 < m := by rw [hm.out]; omega
      have hm64' : 64 ≤ m := by rw [hm.out]; omega
      have hm64 : (64 : Int) ≤ m := by omega
      have HC := Lib.hid (block_c g (cmpS s xs k) (cmpS_ok hs xs k) a m d _ wr A L (by omega) KT)
      have HL := Lib.hid (L.cut (show 64 ≤ m by omega))
      have HLow := Lib.hid hlow
      have HK := Lib.hid KT
      clear L A KT hlow
      go_wp2_with fail
      refine HC.out.mono ?_
      rintro e w2 ⟨rfl, A2, G2⟩
      go_wp2
      go_roundw
      case rel =>
        refine ⟨k + 1, cutA a d 64, m - 64, d - 64, by omega, by rw [cutA_eq _ _ _ (by omega)], by show _ = _; rw [hm.out]; omega, ?_, fun i hi => ?_, A2, HK.out.grown G2 hKg, grown_trans G G2⟩
        · have := HL.out.grownBy G2 (fun i hi => by rw [cut_block HL.out hi]; exact HLow.out (64 + i) (by omega))
          rw [List.drop_drop] at this
          exact this
        · rw [cut_block HL.out hi]
          exact HLow.out (64 + i) (by omega)
      case measure => simp [lenOf]; omega
    · obtain rfl : k = K := by omega
      have hm0 : m = 0 := by rw [hm.out]; omega
      subst hm0
      go_wp2
      go_end0
      exact ⟨rfl, A, G⟩

/-- The bytes of the state, each word's most significant one first. -/
theorem outL_len (s : St) : (outL s).length = 32 := rfl
end Go.Proofs.YtgomconcfjllcaaDoor
