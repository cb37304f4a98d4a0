/-
  nat.appendChunk.
-/
import Derived.Test.YtmojcnlddfijjaaGreatDoorNatNorm
import Derived.Test.YtmojcnlddfijjaaGreatDoorNatDigits
import Derived.Lib.OwnKind
import Derived.Lib.VarintMem
namespace Go.Proofs.YtmojcnlddfijjaaGreatDoor
open Go.RowKit NatMath

theorem info5 : (Tryz.prog.info? 5).map (fun i => (i.zero, i.size, i.bytes)) = some (some (.int .u8 0), 1, 1) := by kernel_rfl

/-- A slice of bytes that the call itself made. -/
def OwnB (B : Nat) (w : World) (v : Value) (l : List UInt8) : Prop := w.ownsRow B 5 1 v l.length (Lib.byteCells l)

theorem byteOf (d : Nat) (h : d < 256) : Value.int .u8 (d : Int) = Value.int .u8 ((UInt8.ofNat d).toNat : Int) := by
  rw [UInt8.toNat_ofNat_of_lt' (by simpa using h)]

set_option maxHeartbeats 1600000 in
theorem appendChunk_c (B : Nat) (v : Value) (l : List UInt8) (x : Nat) (w : World) (h : OwnB B w v l) (hB : B ≤ w.heap.size) (hl : l.length ≤ 1099511627776) (hx : x ≤ 4294967295) :
    Calls Tryz.prog 75 #[v, .int .u32 x] w fun e w' => ∃ v', e = .returned v' ∧ OwnB B w' v' (l ++ padTo x 9) ∧ Below B w w' ∧ Lib.OthersKept 5 none w w' := by
  obtain ⟨i0, hi, hz0, hz1, hz2⟩ := info_parts info5
  have hst : OwnB B w v (l ++ padTo x 0) := by simpa [padTo_zero] using h
  go_enter Tryz.func75, Tryz.ntmps75
  go_wp2_with fail
  go_loopw [0, 5] (fun s0 s5 wr => ∃ (k u : Nat) (v' : Value), k ≤ 9 ∧ s0 = v' ∧ s5 = .int .u32 u ∧ Hid (u = unit k) ∧ OwnB B wr v' (l ++ padTo x k) ∧ B ≤ wr.heap.size ∧ Below B w wr ∧ Lib.OthersKept 5 none w wr)
    (fun _ s5 _ => (intOf s5).toNat)
  case atStart => exact ⟨0, 100000000, v, by omega, rfl, rfl, unit_zero.symm, hst, hB, Below.refl _ _, Lib.OthersKept.refl _ _ _⟩
  case round =>
    obtain ⟨k, u, v', hk, rfl, rfl, hu, ho, hBw, hb, hok⟩ := hrel
    have hule : u ≤ 100000000 := by rw [hu.out]; exact unit_le k
    by_cases h0 : 0 < u
    · have hk8 : k ≤ 8 := by
        rcases Nat.lt_or_ge k 9 with h9 | h9
        · omega
        · obtain rfl : k = 9 := by omega
          have := hu.out
          rw [unit_nine] at this
          omega
      obtain ⟨d, hd⟩ : ∃ d, Hid (d = x / u % 10) := ⟨_, rfl⟩
      have hd9 : d ≤ 9 := by rw [hd.out]; omega
      have hde : (x : Int) / (u : Int) % 4294967296 % 10 = (d : Int) := by
        have h1 : x / u ≤ x := Nat.div_le_self _ _
        have h2 : (x : Int) / (u : Int) = ((x / u : Nat) : Int) := by simp
        rw [h2, hd.out]
        clear h2
        generalize x / u = q at h1 ⊢
        omega
      have hdd : Hid (digit x k = 48 + d) := by
        show digit x k = 48 + d
        rw [digit, hd.out, hu.out]
      have hus : Hid (u / 10 = unit (k + 1)) := by
        show u / 10 = unit (k + 1)
        rw [hu.out, unit_succ]
      have hlen : (l ++ padTo x k).length ≤ 1099511627785 := by simp [padTo_length]; omega
      have HO := Lib.hid (World.ownsRow.alloc ho (.cells #[Value.int .u8 (48 + (d : Int))] 5))
      clear hst h
      go_wp2_with (at_builtin; refine wpList_append_own _ rfl _ _ 91 rfl B 5 i0 (.int .u8 0) 1 1 Tryz.underlying91 hi hz0 hz1 hz2 rfl (by decide) _ _ _ rfl HO.out ⟨wr.heap.size, 0, none⟩ 1 1 [.int .u8 (48 + (d : Int))] rfl rfl ?c1 ?c2 ?c3 ?c4 ?c5 ?_)
      case c1 =>
        intro j u hj
        match j, hj with
        | 0, hj => simp at hj; subst hj; simp [Addr.add]
      case c2 => intro u hu; simp at hu; subst hu; rfl
      case c3 => unfold maxLen; omega
      case c4 => omega
      case c5 => simp; omega
      intro v2 w1 hown hgrow _
      have R1 : Hid (OwnB B w1 v2 (l ++ padTo x (k + 1))) := by
        show w1.ownsRow B 5 1 v2 _ _
        rw [padTo_succ, ← List.append_assoc, hdd.out, Lib.byteCells_append, List.length_append]
        have e : Lib.byteCells [UInt8.ofNat (48 + d)] = [Value.int .u8 (48 + (d : Int))] := by
          have := byteOf (48 + d) (by omega)
          simp only [Lib.byteCells, List.map_cons, List.map_nil]
          rw [← this]
          simp
        have e2 : (l ++ padTo x k).length + [UInt8.ofNat (48 + d)].length = l.length + (padTo x k).length + 1 := by simp
        rw [e, e2]
        exact hown
      have hrow : ∀ g, u0.ownBlock = some g → B ≤ g := fun g hg => (ho.lt g hg).1
      have R2 := Lib.hid ((hb.alloc hBw (.cells #[Value.int .u8 (48 + (d : Int))] 5)).grown hgrow (by simp; omega) hrow)
      have R3 := Lib.hid ((hok.alloc (.cells #[Value.int .u8 (48 + (d : Int))] 5)).grown hgrow (Lib.ownsRow_kind HO.out))
      have R4 : B ≤ w1.heap.size := by have := hgrow.size; simp at this; omega
      clear hown hgrow hrow
      go_wp2_with fail
      go_roundw
      case rel => exact ⟨k + 1, u / 10, v2, by omega, rfl, by go_num, hus.out, R1.out, R4, R2.out, R3.out⟩
      case measure => simp [intOf]; omega
    · obtain rfl : u = 0 := by omega
      have h9 : k = 9 := by
        rcases Nat.lt_or_ge k 9 with h9 | h9
        · have := unit_pos (show k ≤ 8 by omega)
          have := hu.out
          omega
        · omega
      subst h9
      go_wp2_with fail
      go_ret
      exact ⟨_, rfl, ho, hb, hok⟩
end Go.Proofs.YtmojcnlddfijjaaGreatDoor
