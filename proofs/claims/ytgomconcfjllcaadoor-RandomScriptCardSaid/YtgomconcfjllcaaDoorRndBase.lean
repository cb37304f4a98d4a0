/-
  A source in memory; a string's bytes as a slice; lists of ints; random.toBytes, random.fromBytes.
-/
import Derived.Test.YtgomconcfjllcaaDoorRndMath
import Derived.Laws.IdiomStrings
namespace Go.Proofs.YtgomconcfjllcaaDoor
open Go.RowKit Dig Rnd

/-- Block g is a source of type t: the seed, and how many words were drawn. -/
def Src (t : TypeId) (w : World) (g : Nat) (S : ByteArray) (k : Nat) : Prop := Arr w g t [.string S, .int .u64 (k : Int)]
section
variable {t t' : TypeId} {w w' : World} {g b : Nat} {S : ByteArray} {k : Nat} {cs : List Value}
theorem Src.arr (h : Src t w g S k) : Arr w g t [.string S, .int .u64 (k : Int)] := h
theorem Src.kept (h : Src t w g S k) (hb : Below w.heap.size w w') : Src t w' g S k := Arr.kept h hb
theorem Src.lt (h : Src t w g S k) : g < w.heap.size := Arr.lt h
theorem Arr.grownBy (h : Arr w g t cs) (hg : w.grownBy w' (some b)) (hne : g ≠ b) : Arr w' g t cs := (hg.block g h.lt (fun e => hne (by injection e))).trans h
theorem Src.grownBy (h : Src t w g S k) (hg : w.grownBy w' (some b)) (hne : g ≠ b) : Src t w' g S k := Arr.grownBy h hg hne
theorem Src.apart {G : Nat} (h : Src t w g S k) (hK : KTab G w) : G ≠ g := by
  rintro rfl
  have h1 := hK 0 (by omega)
  have h2 := h.arr.cell 0
  rw [h1] at h2
  cases h2
theorem below_grown {B : Nat} {w0 : World} (h : Below B w0 w) (hg : w.grownBy w' (some g)) (hB : B ≤ w.heap.size) (hb : B ≤ g) : Below B w0 w' :=
  h.grown hg hB (fun k hk => by injection hk with hk; omega)
theorem Own.grownBy {e : TypeId} {k : IntKind} {B : Nat} {ao : Option Addr} {n c : Nat} {xs : List Int} (h : Own e k B w ao n c xs) (hg : w.grownBy w' (some b)) (hlt : b < B) : Own e k B w' ao n c xs := by
  refine ⟨h.1.kept hg ?_, h.2⟩
  cases ao with
  | none => exact Or.inl rfl
  | some a => exact Or.inr (fun e => by
      have := (World.ownsRow.lt h.1 a.block rfl).1
      injection e with e
      omega)
end
/-- '[]byte(s)': where it lies, and what it reads as. -/
theorem str_lst (w : World) (S : ByteArray) (hS : S.size ≤ maxLen) :
    Lst .u8 (w.drew.alloc (.cells (bytesRow S (grownCap w S.size 0 5)) 5 ((bytesRow S (grownCap w S.size 0 5)).size, (bytesRow S (grownCap w S.size 0 5)).size + 1))) (some ⟨w.heap.size, 0, none⟩) S.size (grownCap w S.size 0 5) (bytesI S) := by
  have h1 := grownCap_ge w S.size 0 5
  have h2 := grownCap_le_maxLen w S.size 0 5 hS
  refine ⟨bytesI_len S, h1, by unfold maxLen at h2; omega, fun _ => ⟨_, rfl⟩, fun i hi => ?_, fun x hx => wf_u8 (bytesI_ok S x hx).1 (bytesI_ok S x hx).2⟩
  have e : w.heap.size = w.drew.heap.size := rfl
  rw [pt_own, e, World.cell?_alloc_mark]
  have hi' : i < (S.data.map (fun b => Value.int .u8 b.toNat)).size := by simpa using hi
  have hi2 : i < S.data.size := hi
  unfold bytesRow
  rw [Array.getElem?_append_left hi']
  simp [bytesI, List.getD]
  exact ⟨S.data[i], Array.getElem?_eq_getElem hi2, by rw [Array.getElem?_eq_getElem hi2]; rfl⟩

theorem infoI : (Tryd.prog.info? 3).map (fun i => (i.zero, i.size, i.bytes)) = some (some (.int .i64 0), 1, 8) := by kernel_rfl
theorem sizeI : (Tryd.prog.info? 3).map (·.size) = some 1 := by kernel_rfl
/-- The index of a slice of ints. -/
theorem ixI {w : World} {ao : Option Addr} {n c : Nat} {xs : List Int} (h : Lst .i64 w ao n c xs) (i : Nat) (z : Int) (hz : z = i) (hi : i < n) :
    ∀ W, (Instr.indexAt 35 (.slice ao n c) (.int .i64 z)).run Tryd.prog W = .ok (.pointer (some (pt ao i))) W := by
  subst hz
  exact run_index Tryd.underlying35 sizeI h i hi
theorem wf_i64 {x : Int} (h0 : -9223372036854775808 ≤ x) (h1 : x ≤ 9223372036854775807) : (Lit.int .i64 x).wf = true := by
  simp [Lit.wf, IntKind.min, IntKind.max, IntKind.signed, IntKind.bits, h0, h1]
theorem ret_u64 {a b : Int} (h : a = b) : Ending.returned (.int .u64 a) = .returned (.int .u64 b) := by rw [h]

set_option maxHeartbeats 1600000 in
set_option maxRecDepth 100000 in
theorem fromBytes_c (ao : Option Addr) (n c : Nat) (xs : List Int) (w : World) (h : Lst .u8 w ao n c xs) (hn : n ≤ 8) :
    Calls Tryd.prog 23 #[.slice ao n c] w fun e w' => e = .returned (.int .u64 (fromN xs n : Nat)) ∧ w = w' := by
  have hcap := h.cap
  have hroom := h.room
  have HB : Hid (∀ k, k ≤ 7 → fromN xs k < 72057594037927936) := fun k hk => Nat.lt_of_lt_of_le (fromN_lt xs (byte_of_lst h) k) (Nat.pow_le_pow_right (n := 256) (by omega) hk)
  have HH := Lib.hid h
  clear h
  go_enter Tryd.func23, Tryd.ntmps23
  go_wp2
  go_loop [3, 8] (fun v i => ∃ (k x : Nat), k ≤ n ∧ i = .int .i64 k ∧ v = .int .u64 (x : Int) ∧ Hid (x = fromN xs k)) (fun _ i => n - (intOf i).toNat)
  case atStart => exact ⟨0, 0, by omega, rfl, rfl, rfl⟩
  case round =>
    obtain ⟨k, x, hk, rfl, rfl, hx⟩ := hrel
    by_cases hlt : k < n
    · have hlt' : (k : Int) < (n : Int) := by omega
      have hix := ix8 HH.out k k rfl hlt
      obtain ⟨b, hb, hb1, hc⟩ := HH.out.at8 k hlt
      have hxl : x < 72057594037927936 := by rw [hx.out]; exact HB.out k (by omega)
      have hor := or_step x b hxl hb1
      have hw : IntKind.u64.wrap (b : Int) = (b : Int) := by rw [IntKind.wrap_u64]; omega
      have hnx : Hid (x * 256 + b = fromN xs (k + 1)) := by show _ = _; rw [fromN, hb.out, hx.out]
      go_wp2
      go_round
      case rel => exact ⟨k + 1, x * 256 + b, by omega, by go_num, by first | rfl | (rw [hor]) | go_num, hnx⟩
      case measure => simp [intOf]; omega
    · obtain rfl : k = n := by omega
      go_wp2
      go_ret
      exact ⟨ret_u64 (by rw [hx.out]), rfl⟩
end Go.Proofs.YtgomconcfjllcaaDoor
