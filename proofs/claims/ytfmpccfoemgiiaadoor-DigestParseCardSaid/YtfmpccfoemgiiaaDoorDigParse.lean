/-
  digest.Parse.
-/
import Derived.Test.YtfmpccfoemgiiaaDoorDigRefText
import Derived.Lib.Bytealg
namespace Go.Proofs.YtfmpccfoemgiiaaDoor
open Go.RowKit Dig

namespace Dig
/-- The value of a hexadecimal digit, -1 for any other byte. -/
def hx (c : Nat) : Int := if 48 ≤ c ∧ c ≤ 57 then (c : Int) - 48 else if 97 ≤ c ∧ c ≤ 102 then (c : Int) - 87 else -1
theorem hx_bd (c : Nat) : -1 ≤ hx c ∧ hx c ≤ 15 := by
  unfold hx
  split
  · omega
  · split <;> omega
theorem hexN_hx (c : Nat) (h : 0 ≤ hx c) : hexN (hx c).toNat = c := by
  unfold hx at h ⊢
  unfold hexN
  split at h
  · rename_i h1; rw [if_pos h1]; split <;> omega
  · rename_i h1
    rw [if_neg h1]
    split at h
    · rename_i h2; rw [if_pos h2]; split <;> omega
    · omega
theorem hx_hexN (x : Nat) (h : x < 16) : hx (hexN x) = x := by
  unfold hexN
  split
  · unfold hx; rw [if_pos (by omega)]; omega
  · unfold hx; rw [if_neg (by omega), if_pos (by omega)]; omega
theorem getD_lt (l : List UInt8) (i : Nat) (h : i < l.length) : l.getD i 0 = l[i] := by simp [List.getD, h]
/-- Byte i of a string. -/
def byt (s : ByteArray) (i : Nat) : Nat := (s.data.toList.getD i 0).toNat
theorem byt_lt (s : ByteArray) (i : Nat) : byt s i < 256 := UInt8.toNat_lt _
/-- The first i bytes that a text stands for. -/
def pd (s : ByteArray) : Nat → List Int
  | 0 => []
  | i + 1 => pd s i ++ [16 * hx (byt s (2 * i)) + hx (byt s (2 * i + 1))]
theorem pd_len (s : ByteArray) (i : Nat) : (pd s i).length = i := by
  induction i with
  | zero => rfl
  | succ i ih => rw [pd, List.length_append, ih]; rfl
/-- The first i bytes are hexadecimal digits. -/
def HexTo (s : ByteArray) (i : Nat) : Prop := ∀ j, j < i → 0 ≤ hx (byt s j)
theorem HexTo.next {s : ByteArray} {i : Nat} (h : HexTo s (2 * i)) (h1 : 0 ≤ hx (byt s (2 * i))) (h2 : 0 ≤ hx (byt s (2 * i + 1))) : HexTo s (2 * (i + 1)) := fun j hj => by
  rcases (show j < 2 * i ∨ j = 2 * i ∨ j = 2 * i + 1 by omega) with h0 | h0 | h0
  · exact h j h0
  · rw [h0]; exact h1
  · rw [h0]; exact h2
theorem pd_bytes {s : ByteArray} (i : Nat) (h : HexTo s (2 * i)) : ∀ x ∈ pd s i, 0 ≤ x ∧ x ≤ 255 := by
  induction i with
  | zero => intro x hx; cases hx
  | succ i ih =>
    intro x hx'
    have h1 := h (2 * i) (by omega)
    have h2 := h (2 * i + 1) (by omega)
    have b1 := hx_bd (byt s (2 * i))
    have b2 := hx_bd (byt s (2 * i + 1))
    rcases List.mem_append.1 hx' with hm | hm
    · exact ih (fun j hj => h j (by omega)) x hm
    · simp at hm; omega
theorem pd_hex {s : ByteArray} (i : Nat) (hs : 2 * i ≤ s.size) (h : HexTo s (2 * i)) : hexI (pd s i) = (s.data.toList.take (2 * i)).map fun b => ((b.toNat : Nat) : Int) := by
  induction i with
  | zero => rfl
  | succ i ih =>
    have h1 := h (2 * i) (by omega)
    have h2 := h (2 * i + 1) (by omega)
    have b1 := hx_bd (byt s (2 * i))
    have b2 := hx_bd (byt s (2 * i + 1))
    have hl : s.data.toList.length = s.size := by rw [Array.length_toList]; rfl
    have e : hexI (pd s (i + 1)) = hexI (pd s i) ++ [((hexN ((16 * hx (byt s (2 * i)) + hx (byt s (2 * i + 1))).toNat / 16) : Nat) : Int), ((hexN ((16 * hx (byt s (2 * i)) + hx (byt s (2 * i + 1))).toNat % 16) : Nat) : Int)] := by
      rw [pd, hexI, hexI, List.flatMap_append]; rfl
    rw [e, ih (by omega) (fun j hj => h j (by omega)), show (16 * hx (byt s (2 * i)) + hx (byt s (2 * i + 1))).toNat / 16 = (hx (byt s (2 * i))).toNat by omega, show (16 * hx (byt s (2 * i)) + hx (byt s (2 * i + 1))).toNat % 16 = (hx (byt s (2 * i + 1))).toNat by omega, hexN_hx _ h1, hexN_hx _ h2]
    rw [show 2 * (i + 1) = 2 * i + 1 + 1 by omega, List.take_succ_eq_append_getElem (by omega), List.take_succ_eq_append_getElem (by omega)]
    rw [List.map_append, List.map_append, byt, byt, getD_lt _ _ (show 2 * i < s.data.toList.length by omega), getD_lt _ _ (show 2 * i + 1 < s.data.toList.length by omega)]
    simp only [List.map_cons, List.map_nil, List.append_assoc, List.cons_append, List.nil_append]
/-- The text of what a good text stands for is that text. -/
theorem pd_text {s : ByteArray} (hs : s.size = 64) (h : HexTo s 64) : textS (pd s 32) = s := by
  have hl : s.data.toList.length = s.size := by rw [Array.length_toList]; rfl
  have e := pd_hex (s := s) 32 (by omega) h
  rw [List.take_of_length_le (by omega)] at e
  rw [textS, e]
  apply ByteArray.ext
  apply Array.ext'
  simp [strOf, List.map_map, Function.comp_def]
theorem pd_isD {s : ByteArray} (h : HexTo s 64) : IsD (pd s 32) := ⟨pd_len s 32, fun x hx' => (pd_bytes (s := s) 32 h x hx').1, fun x hx' => (pd_bytes (s := s) 32 h x hx').2⟩
end Dig

theorem ix_hex : ∀ c : Fin 256, Lib.indexByte [48, 49, 50, 51, 52, 53, 54, 55, 56, 57, 97, 98, 99, 100, 101, 102] (c.val.toUInt8) = hx c.val := by decide +kernel
set_option maxHeartbeats 1000000 in
set_option maxRecDepth 100000 in
theorem sliteIndex_c (c : Nat) (hc : c < 256) (w : World) :
    Calls Tryd.prog 31 #[.string ⟨#[48, 49, 50, 51, 52, 53, 54, 55, 56, 57, 97, 98, 99, 100, 101, 102]⟩, .int .u8 (c : Int)] w fun e w' => e = .returned (.int .i64 (hx c)) ∧ w = w' := by
  have hix := ix_hex ⟨c, hc⟩
  have e : ((c : Int)).toNat.toUInt8 = c.toUInt8 := by simp
  have HI : Hid (Lib.indexByte (⟨#[48, 49, 50, 51, 52, 53, 54, 55, 56, 57, 97, 98, 99, 100, 101, 102]⟩ : ByteArray).data.toList ((c : Int)).toNat.toUInt8 = hx c) := by
    show _ = _
    rw [e]
    exact hix
  clear hix e
  go_enter Tryd.func31, Tryd.ntmps31
  go_wp2
  rw [run_callFunc_extern Tryd.func34 (by kernel_rfl) (by kernel_rfl) (by kernel_rfl) (e := Extern.BytealgIndexByte.indexByte) (by kernel_rfl), Lib.run_indexByteString, HI.out]
  simp only [Result.andThen]
  rw [Oper.upon_value]
  go_wp2
  go_ret
  exact ⟨rfl, rfl⟩
set_option maxRecDepth 100000 in
theorem indexByte_c (c : Nat) (hc : c < 256) (w : World) :
    Calls Tryd.prog 27 #[.string ⟨#[48, 49, 50, 51, 52, 53, 54, 55, 56, 57, 97, 98, 99, 100, 101, 102]⟩, .int .u8 (c : Int)] w fun e w' => e = .returned (.int .i64 (hx c)) ∧ w = w' := by
  have HS := Lib.hid (sliteIndex_c c hc w)
  go_enter Tryd.func27, Tryd.ntmps27
  go_wp2_with fail
  refine HS.out.mono ?_
  rintro e w' ⟨rfl, rfl⟩
  go_wp2_with fail
  go_ret
  exact ⟨rfl, rfl⟩

/-- The byte of a string, as the walk asks for it. -/
theorem ix_str (s : ByteArray) (i : Nat) (z : Int) (hz : z = i) (hi : i < s.size) (W : World) : (Instr.index 9 (.string s) (.int .i64 z)).run Tryd.prog W = .ok (.int .u8 ((byt s i : Nat) : Int)) W := by
  subst hz
  have hl : s.data.toList.length = s.size := by rw [Array.length_toList]; rfl
  have e : s[i]? = some (s.data.toList.getD i 0) := by
    rw [getD_lt _ _ (by omega)]
    rw [getElem?_pos s i hi]
    rfl
  simp [Instr.index, run_underlying Tryd.underlying9, asIntOf, e, byt]

theorem results_arr_tmp {t e : TypeId} {n : Nat} (ht : ArrT t e n) {fn : Func} {p q : Tmp} (hf : fn.results = #[.cell p t, .tmp q]) (tmps : Array Value) {w : World} {g : Nat} {cs : List Value} (hp : tmps.getD p undef = .pointer (some ⟨g, 0, none⟩)) (hA : Arr w g t cs) (hn : cs.length = n) {v : Value} (hq : tmps.getD q undef = v) :
    (results fn tmps).run Tryd.prog w = .ok (.tuple #[.agg cs.toArray, v]) w := by
  have hp' : tmps[p]?.getD undef = .pointer (some ⟨g, 0, none⟩) := by simpa using hp
  have hq' : tmps[q]?.getD undef = v := by simpa using hq
  simp [results, hf, hp', hq', asAddr, run_loadVar_row w g t t cs.toArray (0, 0) _ hA ht.under rfl (by rw [ht.cells]; simp [hn])]
theorem or_hex : ∀ a b : Fin 16, bits .or .i64 ((a.val : Int) * 16) (b.val : Int) = ((16 * a.val + b.val : Nat) : Int) := by decide +kernel

/-- What Parse answers: the digest and true for a text of 64 digits, the zero digest and false for any other. -/
def ParseRes (s : ByteArray) (e : Ending) : Prop := (s.size = 64 ∧ HexTo s 64 ∧ e = .returned (.tuple #[.agg (bcells (pd s 32)).toArray, .bool true])) ∨ (¬ (s.size = 64 ∧ HexTo s 64) ∧ e = .returned (.tuple #[.agg (bcells []).toArray, .bool false]))

set_option maxHeartbeats 3200000 in
set_option maxRecDepth 100000 in
theorem parse_c (s : ByteArray) (w : World) (hs : s.size ≤ 1000) :
    Calls Tryd.prog 18 #[.string s] w fun e w' => ParseRes s e ∧ Below w.heap.size w w' := by
  by_cases h64 : s.size = 64
  · have e64 : ((s.size : Int) == 64) = true := by simp; omega
    have e64' : (s.size : Int) = 64 := by omega
    have H64 := Lib.hid h64
    clear h64
    have b1 : Below w.heap.size w (w.alloc (.cells (List.replicate 32 (Value.int .u8 0)).toArray 25)) := (Below.refl _ _).alloc (Nat.le_refl _) _
    have b2 : Below w.heap.size w ((w.alloc (.cells (List.replicate 32 (Value.int .u8 0)).toArray 25)).alloc (.cells (List.replicate 32 (Value.int .u8 0)).toArray 25)) := b1.alloc b1.size _
    have R1 := (Arr.new w 25 (List.replicate 32 (Value.int .u8 0))).alloc (.cells (List.replicate 32 (Value.int .u8 0)).toArray 25)
    have A1 := Arr.new (w.alloc (.cells (List.replicate 32 (Value.int .u8 0)).toArray 25)) 25 (List.replicate 32 (Value.int .u8 0))
    rw [show (w.alloc (.cells (List.replicate 32 (Value.int .u8 0)).toArray 25)).heap.size = w.heap.size + 1 by simp] at A1
    obtain ⟨V, hV⟩ : ∃ V, Hid (V = (w.alloc (.cells (List.replicate 32 (Value.int .u8 0)).toArray 25)).alloc (.cells (List.replicate 32 (Value.int .u8 0)).toArray 25)) := ⟨_, rfl⟩
    rw [← hV.out] at b2 R1 A1
    go_enter Tryd.func18, Tryd.ntmps18
    go_upto_region 4 with (fail)
    rw [show ((w.alloc (.cells #[.int .u8 0, .int .u8 0, .int .u8 0, .int .u8 0, .int .u8 0, .int .u8 0, .int .u8 0, .int .u8 0, .int .u8 0, .int .u8 0, .int .u8 0, .int .u8 0, .int .u8 0, .int .u8 0, .int .u8 0, .int .u8 0, .int .u8 0, .int .u8 0, .int .u8 0, .int .u8 0, .int .u8 0, .int .u8 0, .int .u8 0, .int .u8 0, .int .u8 0, .int .u8 0, .int .u8 0, .int .u8 0, .int .u8 0, .int .u8 0, .int .u8 0, .int .u8 0] 25)).alloc (.cells #[.int .u8 0, .int .u8 0, .int .u8 0, .int .u8 0, .int .u8 0, .int .u8 0, .int .u8 0, .int .u8 0, .int .u8 0, .int .u8 0, .int .u8 0, .int .u8 0, .int .u8 0, .int .u8 0, .int .u8 0, .int .u8 0, .int .u8 0, .int .u8 0, .int .u8 0, .int .u8 0, .int .u8 0, .int .u8 0, .int .u8 0, .int .u8 0, .int .u8 0, .int .u8 0, .int .u8 0, .int .u8 0, .int .u8 0, .int .u8 0, .int .u8 0, .int .u8 0] 25)) = V from hV.out.symm]
    clear hV b1
    go_wp2
    go_loopw [12] (fun v wr => ∃ i : Nat, i ≤ 32 ∧ v = .int .i64 i ∧ HexTo s (2 * i) ∧ Arr wr (w.heap.size + 1) 25 (bcells (pd s i)) ∧ Arr wr w.heap.size 25 (bcells []) ∧ Below w.heap.size w wr)
      (fun v _ => 32 - (intOf v).toNat)
    case atStart => exact ⟨0, by omega, rfl, fun j hj => absurd hj (by omega), A1, R1, b2⟩
    case round =>
      clear A1 R1 b2
      obtain ⟨i, hi32, rfl, hhex, A, R, B⟩ := hrel
      have HH := Lib.hid hhex
      clear hhex
      by_cases hlt : i < 32
      · obtain ⟨c1, hc1⟩ : ∃ c, Hid (byt s (2 * i) = c) := ⟨_, rfl⟩
        obtain ⟨c2, hc2⟩ : ∃ c, Hid (byt s (2 * i + 1) = c) := ⟨_, rfl⟩
        have x1 := ix_str s (2 * i) (2 * (i : Int)) (by omega) (by omega)
        have x2 := ix_str s (2 * i + 1) (2 * (i : Int) + 1) (by omega) (by omega)
        have l1 := byt_lt s (2 * i)
        have l2 := byt_lt s (2 * i + 1)
        rw [hc1.out] at x1 l1
        rw [hc2.out] at x2 l2
        have q32 : (i : Int) < 32 := by omega
        obtain ⟨hv, hhv⟩ : ∃ z, Hid (hx c1 = z) := ⟨_, rfl⟩
        obtain ⟨lv, hlv⟩ : ∃ z, Hid (hx c2 = z) := ⟨_, rfl⟩
        have HC1 := Lib.hid (fun W => indexByte_c c1 l1 W)
        have HC2 := Lib.hid (fun W => indexByte_c c2 l2 W)
        rw [hhv.out] at HC1
        rw [hlv.out] at HC2
        have bd1 := hx_bd c1
        have bd2 := hx_bd c2
        rw [hhv.out] at bd1
        rw [hlv.out] at bd2
        have hbad : (hv < 0 ∨ lv < 0) → ¬ (s.size = 64 ∧ HexTo s 64) := by
          rintro hh ⟨_, hall⟩
          have g1 := hall (2 * i) (by omega)
          have g2 := hall (2 * i + 1) (by omega)
          rw [hc1.out, hhv.out] at g1
          rw [hc2.out, hlv.out] at g2
          omega
        have HBAD := Lib.hid hbad
        have hsz := R.lt
        clear hbad
        by_cases n1 : hv < 0
        · have HR := Lib.hid R
          clear R A
          go_wp2_with (first
            | (go_at_call_of 27 (Value.int .u8 (c1 : Int)); (with_reducible refine (HC1.out _).mono ?_); rintro e w' ⟨rfl, rfl⟩)
            | (go_at_call_of 27 (Value.int .u8 (c2 : Int)); (with_reducible refine (HC2.out _).mono ?_); rintro e w' ⟨rfl, rfl⟩)
            | ((with_reducible refine wpList_store_arr (x := .tmp 2) (y := .tmp 32) (cs := bcells []) arr25 HR.out ?e1 ?e2 ?e3 ?e4 ?e5 ?_); (case e1 => rfl); (case e2 => rfl); (case e3 => exact bcells_len (Nat.zero_le _)); (case e4 => exact bcells_len (Nat.zero_le _)); (case e5 => exact bcells_one []); intro w9 hA9 hO9))
          refine bodyPost_ret (results_arr_tmp arr25 rfl _ rfl hA9 (bcells_len (Nat.zero_le _)) rfl) rfl ⟨Or.inr ⟨HBAD.out (Or.inl n1), rfl⟩, hO9.below B (by omega) (Nat.le_refl _)⟩
        · by_cases n2 : lv < 0
          · have HR := Lib.hid R
            have p1 : 0 ≤ hv := by omega
            clear R A
            go_wp2_with (first
              | (go_at_call_of 27 (Value.int .u8 (c1 : Int)); (with_reducible refine (HC1.out _).mono ?_); rintro e w' ⟨rfl, rfl⟩)
              | (go_at_call_of 27 (Value.int .u8 (c2 : Int)); (with_reducible refine (HC2.out _).mono ?_); rintro e w' ⟨rfl, rfl⟩)
              | ((with_reducible refine wpList_store_arr (x := .tmp 2) (y := .tmp 32) (cs := bcells []) arr25 HR.out ?e1 ?e2 ?e3 ?e4 ?e5 ?_); (case e1 => rfl); (case e2 => rfl); (case e3 => exact bcells_len (Nat.zero_le _)); (case e4 => exact bcells_len (Nat.zero_le _)); (case e5 => exact bcells_one []); intro w9 hA9 hO9))
            refine bodyPost_ret (results_arr_tmp arr25 rfl _ rfl hA9 (bcells_len (Nat.zero_le _)) rfl) rfl ⟨Or.inr ⟨HBAD.out (Or.inr n2), rfl⟩, hO9.below B (by omega) (Nat.le_refl _)⟩
          · obtain ⟨a, rfl⟩ := Int.eq_ofNat_of_zero_le (show 0 ≤ hv by omega)
            obtain ⟨b, rfl⟩ := Int.eq_ofNat_of_zero_le (show 0 ≤ lv by omega)
            have hor := or_hex ⟨a, by omega⟩ ⟨b, by omega⟩
            obtain ⟨Z, hZ⟩ : ∃ Z : Nat, Hid (Z = 16 * a + b) := ⟨_, rfl⟩
            rw [← hZ.out] at hor
            have hor' : bits .or .i64 ((a : Int) * 16) (b : Int) = (Z : Int) := hor
            clear hor
            have lZ : Z ≤ 255 := by rw [hZ.out]; omega
            have hZ8 : (Z : Int) % 256 = (Z : Int) := by omega
            have hnext : Hid (HexTo s (2 * (i + 1))) := HH.out.next (by rw [hc1.out, hhv.out]; omega) (by rw [hc2.out, hlv.out]; omega)
            have hpd : pd s (i + 1) = pd s i ++ [(Z : Int)] := by
              rw [pd, hc1.out, hc2.out, hhv.out, hlv.out, hZ.out]
              congr 2
            have hA : Hid (Arr (wr.setCell ⟨w.heap.size + 1, i, none⟩ (.int .u8 (Z : Int))) (w.heap.size + 1) 25 (bcells (pd s (i + 1)))) := by
              have := A.set i (.int .u8 (Z : Int))
              rw [bcells_set (pd_len s i) (by omega)] at this
              rw [hpd]
              exact this
            have hR := Lib.hid (R.far (p := ⟨w.heap.size + 1, i, none⟩) (by simp) (.int .u8 (Z : Int)))
            have hB := Lib.hid (B.setCell (p := ⟨w.heap.size + 1, i, none⟩) (by simp) (.int .u8 (Z : Int)))
            have hf := A.frozen i
            have hc : wr.cell? ⟨w.heap.size + 1, i, none⟩ = some (.int .u8 0) := by rw [A.cell]; exact bcells_new (pd_len s i) (by omega)
            have m1 : ¬ ((a : Int) < 0) := by omega
            have m2 : ¬ ((b : Int) < 0) := by omega
            clear A R B hpd n1 n2
            go_wp2_with (first
              | (go_at_call_of 27 (Value.int .u8 (c1 : Int)); (with_reducible refine (HC1.out _).mono ?_); rintro e w' ⟨rfl, rfl⟩)
              | (go_at_call_of 27 (Value.int .u8 (c2 : Int)); (with_reducible refine (HC2.out _).mono ?_); rintro e w' ⟨rfl, rfl⟩))
            go_roundw
            case rel => exact ⟨i + 1, by omega, by go_num, hnext.out, hA.out, hR.out, hB.out⟩
            case measure => simp [intOf]; omega
      · obtain rfl : i = 32 := by omega
        have HA := Lib.hid A
        have HR := Lib.hid R
        have hsz := R.lt
        have hl32 : Hid ((pd s 32).length = 32) := pd_len s 32
        have hyes : Hid (s.size = 64 ∧ HexTo s 64) := ⟨H64.out, HH.out⟩
        obtain ⟨F, hF⟩ : ∃ F, Hid (F = pd s 32) := ⟨_, rfl⟩
        rw [← hF.out] at HA hl32
        rw [show ((32 : Nat) : Int) = 32 from rfl]
        clear A R
        go_wp2_with (first
          | ((with_reducible refine wpList_load_arr (d := some 41) arr25 HA.out ?e1 ?e2 ?_); (case e1 => rfl); (case e2 => exact bcells_len (Nat.le_of_eq hl32.out)))
          | ((with_reducible refine wpList_store_arr (x := .tmp 2) (y := .tmp 41) (cs := bcells F) arr25 HR.out ?e1 ?e2 ?e3 ?e4 ?e5 ?_); (case e1 => rfl); (case e2 => rfl); (case e3 => exact bcells_len (Nat.zero_le _)); (case e4 => exact bcells_len (Nat.le_of_eq hl32.out)); (case e5 => exact bcells_one F); intro w9 hA9 hO9))
        refine bodyPost_ret (results_arr_tmp arr25 rfl _ rfl hA9 (bcells_len (Nat.le_of_eq hl32.out)) rfl) rfl ⟨Or.inl ⟨hyes.out.1, hyes.out.2, by rw [hF.out]; rfl⟩, hO9.below B (by omega) (Nat.le_refl _)⟩
  · have hne : ¬ ((s.size : Int) = 64) := by omega
    have hneb : ((s.size : Int) == 64) = false := by simp; omega
    have b1 : Below w.heap.size w (w.alloc (.cells (List.replicate 32 (Value.int .u8 0)).toArray 25)) := (Below.refl _ _).alloc (Nat.le_refl _) _
    have R1 := Arr.new w 25 (List.replicate 32 (Value.int .u8 0))
    obtain ⟨V, hV⟩ : ∃ V, Hid (V = w.alloc (.cells (List.replicate 32 (Value.int .u8 0)).toArray 25)) := ⟨_, rfl⟩
    rw [← hV.out] at b1 R1
    have HR : Hid (Arr V w.heap.size 25 (bcells [])) := R1
    have HB := Lib.hid b1
    have hsz := R1.lt
    have HN : Hid (¬ (s.size = 64 ∧ HexTo s 64)) := fun h => h64 h.1
    clear R1 b1 h64
    go_enter Tryd.func18, Tryd.ntmps18
    go_upto_region 1 with (fail)
    rw [show (w.alloc (.cells #[.int .u8 0, .int .u8 0, .int .u8 0, .int .u8 0, .int .u8 0, .int .u8 0, .int .u8 0, .int .u8 0, .int .u8 0, .int .u8 0, .int .u8 0, .int .u8 0, .int .u8 0, .int .u8 0, .int .u8 0, .int .u8 0, .int .u8 0, .int .u8 0, .int .u8 0, .int .u8 0, .int .u8 0, .int .u8 0, .int .u8 0, .int .u8 0, .int .u8 0, .int .u8 0, .int .u8 0, .int .u8 0, .int .u8 0, .int .u8 0, .int .u8 0, .int .u8 0] 25)) = V from hV.out.symm]
    go_wp2_with (first
      | ((with_reducible refine wpList_store_arr (x := .tmp 2) (y := .tmp 11) (cs := bcells []) arr25 HR.out ?e1 ?e2 ?e3 ?e4 ?e5 ?_); (case e1 => rfl); (case e2 => rfl); (case e3 => exact bcells_len (Nat.zero_le _)); (case e4 => exact bcells_len (Nat.zero_le _)); (case e5 => exact bcells_one []); intro w9 hA9 hO9))
    refine bodyPost_ret (results_arr_tmp arr25 rfl _ rfl hA9 (bcells_len (Nat.zero_le _)) rfl) rfl ⟨Or.inr ⟨HN.out, rfl⟩, hO9.below HB.out (by omega) (Nat.le_refl _)⟩
end Go.Proofs.YtfmpccfoemgiiaaDoor

