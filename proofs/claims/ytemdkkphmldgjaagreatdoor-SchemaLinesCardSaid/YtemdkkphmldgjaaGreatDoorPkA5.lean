/-
  Texts of the proof, put together: SynBld LexQuo SynShown LexQuoP SynPr SynLs SynPrF SynPrB SchMath SchMem.
-/
import Derived.Lib.Builder
import Derived.Lib.AppendStr
import Derived.Lib.UnsafeStr
import Derived.Laws.Externs
import Derived.Test.YtemdkkphmldgjaaGreatDoorPkA3
import Derived.Test.YtemdkkphmldgjaaGreatDoorPkA4
set_option maxRecDepth 100000
set_option maxHeartbeats 3200000
namespace Go.Proofs.YtemdkkphmldgjaaGreatDoor
open Go.RowKit Lx
namespace Lx
def escL (c : UInt8) : List UInt8 := if escB c then [92, c] else [c]
def escAll (l : List UInt8) : List UInt8 := l.flatMap escL
theorem escAll_snoc (l : List UInt8) (c : UInt8) : escAll (l ++ [c]) = escAll l ++ escL c := by simp [escAll]
theorem escL_yes {c : UInt8} (h : escB c = true) : escL c = [92, c] := by unfold escL; rw [if_pos h]
theorem escL_no {c : UInt8} (h : escB c = false) : escL c = [c] := by unfold escL; rw [h]; rfl
def quoV (l : List UInt8) : ByteArray × Bool := if l.all plainB then (stg (34 :: escAll l ++ [34]), true) else (⟨#[]⟩, false)
theorem quoV_yes {l : List UInt8} (h : l.all plainB = true) : quoV l = (stg (34 :: escAll l ++ [34]), true) := if_pos h
theorem quoV_no {l : List UInt8} (h : l.all plainB = false) : quoV l = (⟨#[]⟩, false) := if_neg (by rw [h]; decide)
theorem take_next_b {l : List UInt8} {j : Nat} {c : UInt8} (h : l.drop j = c :: l.drop (j + 1)) : l.take (j + 1) = l.take j ++ [c] := by
 rw [List.take_add, h]; rfl
theorem all_split {l : List UInt8} {j : Nat} {c : UInt8} (h : l.drop j = c :: l.drop (j + 1)) (hc : plainB c = false) : l.all plainB = false := by
 rw [<- List.take_append_drop j l, List.all_append, h, List.all_cons, hc]; simp
end Lx
theorem quo_ret {p : ByteArray × Bool} {t : ByteArray} {b : Bool} (h : p = (t, b)) : Ending.returned (.tuple #[.string t, .bool b]) = .returned (.tuple #[.string p.1, .bool p.2]) := by rw [h]
end Go.Proofs.YtemdkkphmldgjaaGreatDoor
namespace Go.Proofs.YtemdkkphmldgjaaGreatDoor
open Go.RowKit Lx
namespace Lx
theorem intsB_const (l : List UInt8) (c : UInt8) {z : Int} (h : z = ((c.toNat : Nat) : Int)) : intsB l ++ [z] = intsB (l ++ [c]) := by simp [intsB, h]
end Lx
theorem quote_c (s : ByteArray) (w : World) (hs : s.size <= 1000000) :
    Calls Tryz.prog 110 #[.string s] w fun e w' => e = .returned (.tuple #[.string (quoV (bys s)).1, .bool (quoV (bys s)).2]) /\ Below w.heap.size w w' := by
 obtain ⟨i0, hi, hz0, hz1, hz2⟩ := info_parts info5
 obtain ⟨R, hR⟩ : ∃ R, Hid (quoV (bys s) = R) := ⟨_, rfl⟩
 rw [hR.out]
 go_enter Tryz.func110, Tryz.ntmps110
 go_wp2_with (at_make; refine wpList_make_own _ rfl _ _ 97 rfl w.heap.size 5 i0 (.int .u8 0) 1 Tryz.underlying97 hi hz0 hz1 _ _ _ (s.size + 2) rfl rfl rfl ?b2 ?b3 (Nat.le_refl _) ?_)
 case b2 => rw [hz2]; omega
 case b3 => unfold maxLen; omega
 intro w1 hown hgr
 have O1 : Own 5 .u8 w.heap.size w1 (some ⟨w.heap.size, 0, none⟩) 0 (s.size + 2) (intsB []) := ⟨by simpa [intsB] using hown, fun x hx => by cases hx⟩
 have b1 : Below w.heap.size w w1 := (Below.refl _ _).grown hgr (Nat.le_refl _) (fun k hk => by cases hk)
 have z1 := b1.size
 have O1 := Lib.hid O1
 have B1 := Lib.hid b1
 clear hown hgr b1
 go_wp2_with (at_builtin; refine wpList_app1 (B := w.heap.size) O1.out z1 (by omega) (by omega) (by omega) rfl rfl ?_)
 intro a2 c2 w2 O2 b2
 rw [intsB_const (z := 34) [] 34 rfl] at O2
 have O2 := Lib.hid O2
 have B2 := Lib.hid (B1.out.trans b2)
 clear O1 B1 z1 b2
 go_wp2_with fail
 go_loopw [4, 15] (fun v i wr => ∃ (j : Nat) (T : List UInt8) (a : Option Addr) (c : Nat), j <= s.size /\ i = .int .i64 j /\ v = .slice a T.length c /\ T.length <= 2 * j + 1 /\ Own 5 .u8 w.heap.size wr a T.length c (intsB T) /\ Hid (T = 34 :: escAll ((bys s).take j) /\ ((bys s).take j).all plainB = true) /\ Below w.heap.size w wr) (fun _ i _ => s.size - (intOf i).toNat)
 case atStart => exact ⟨0, [34], a2, c2, Nat.zero_le _, rfl, rfl, Nat.le_refl _, O2.out, ⟨rfl, rfl⟩, B2.out⟩
 case round =>
  clear O2 B2
  obtain ⟨j, T, a, c, hj, rfl, rfl, hT, O, hI, B⟩ := hrel
  have zB := B.size
  have O := Lib.hid O
  have B := Lib.hid B
  by_cases hlt : j < s.size
  . have hlt' : (j : Int) < (s.size : Int) := by omega
    obtain ⟨d, hd, x1⟩ := at_s s j hlt
    have HP := isPrintable_c d wr
    have HE := isSpecial_c d wr
    obtain ⟨n, hn⟩ : ∃ n : Nat, Hid (d.toNat = n) := ⟨_, rfl⟩
    obtain ⟨p, hp⟩ : ∃ p, Hid (plainB d = p) := ⟨_, rfl⟩
    obtain ⟨b, hb⟩ : ∃ p, Hid (escB d = p) := ⟨_, rfl⟩
    rw [hn.out] at x1
    rw [hn.out, hp.out] at HP
    rw [hn.out, hb.out] at HE
    have HP := Lib.hid HP
    have HE := Lib.hid HE
    have hlt256 : n < 256 := by rw [<- hn.out]; exact UInt8.toNat_lt d
    have g0 : (0 : Int) <= (n : Int) := by omega
    have g1 : (n : Int) <= 255 := by omega
    clear hlt256
    cases p with
    | false =>
     have hN : Hid (R = (⟨#[]⟩, false)) := by show _ = _; rw [<- hR.out, quoV_no (all_split hd.out hp.out)]
     go_wp2_with fail
     refine HP.out.mono ?_
     rintro e w' ⟨rfl, rfl⟩
     go_wp2_with fail
     go_ret2
     exact ⟨quo_ret hN.out, B.out⟩
    | true =>
     have hpl : Hid (((bys s).take (j + 1)).all plainB = true) := by
      show _ = _
      rw [take_next_b hd.out, List.all_append, hI.out.2]; simp [hp.out]
     have hnx : Hid (34 :: escAll ((bys s).take (j + 1)) = (34 :: escAll ((bys s).take j)) ++ escL d) := by
      show _ = _
      rw [take_next_b hd.out, escAll_snoc]; rfl
     cases b with
     | true =>
      have hM : Hid ((T ++ [92]) ++ [d] = 34 :: escAll ((bys s).take (j + 1))) := by
       show _ = _
       rw [hnx.out, hI.out.1, escL_yes hb.out, List.append_assoc]; rfl
      clear hI hnx
      go_wp2_with fail
      refine HP.out.mono ?_
      rintro e w' ⟨rfl, rfl⟩
      go_wp2_with fail
      refine HE.out.mono ?_
      rintro e w' ⟨rfl, rfl⟩
      go_wp2_with (at_builtin; refine wpList_app1 (B := w.heap.size) O.out zB (by omega) (by omega) (by omega) rfl rfl ?_)
      intro a2 c2 w2 O2 b2
      rw [intsB_const (z := 92) T 92 rfl] at O2
      have O2 := Lib.hid O2
      have B2 := Lib.hid (B.out.trans b2)
      have z2 := B2.out.size
      clear b2
      go_wp2_with (at_builtin; refine wpList_app1 (B := w.heap.size) O2.out z2 (by omega) g0 g1 rfl rfl ?_)
      intro a3 c3 w3 O3 b3
      rw [intsB_next (T ++ [92]) hn.out] at O3
      have B3 := Lib.hid (B2.out.trans b3)
      have O3 := Lib.hid O3
      clear b3
      obtain ⟨N, hN⟩ : ∃ N, Hid (T.length + 1 + 1 = N) := ⟨_, rfl⟩
      have hl3 : Hid (N = (T ++ [92] ++ [d]).length) := by show _ = _; rw [<- hN.out]; simp
      have hN2 : N <= 2 * (j + 1) + 1 := by rw [<- hN.out]; omega
      rw [hN.out] at O3 |-
      go_wp2_with fail
      go_roundw
      case rel => exact ⟨j + 1, T ++ [92] ++ [d], a3, c3, by omega, by go_num, by rw [<- hl3.out], by rw [<- hl3.out]; exact hN2, by rw [<- hl3.out]; exact O3.out, ⟨hM.out, hpl.out⟩, B3.out⟩
      case measure => simp [intOf]; omega
     | false =>
      have hM : Hid (T ++ [d] = 34 :: escAll ((bys s).take (j + 1))) := by
       show _ = _
       rw [hnx.out, hI.out.1, escL_no hb.out]
      clear hI hnx
      go_wp2_with fail
      refine HP.out.mono ?_
      rintro e w' ⟨rfl, rfl⟩
      go_wp2_with fail
      refine HE.out.mono ?_
      rintro e w' ⟨rfl, rfl⟩
      go_wp2_with (at_builtin; refine wpList_app1 (B := w.heap.size) O.out zB (by omega) g0 g1 rfl rfl ?_)
      intro a3 c3 w3 O3 b3
      rw [intsB_next T hn.out] at O3
      have B3 := Lib.hid (B.out.trans b3)
      have O3 := Lib.hid O3
      clear b3
      obtain ⟨N, hN⟩ : ∃ N, Hid (T.length + 1 = N) := ⟨_, rfl⟩
      have hl3 : Hid (N = (T ++ [d]).length) := by show _ = _; rw [<- hN.out]; simp
      have hN2 : N <= 2 * (j + 1) + 1 := by rw [<- hN.out]; omega
      rw [hN.out] at O3 |-
      go_wp2_with fail
      go_roundw
      case rel => exact ⟨j + 1, T ++ [d], a3, c3, by omega, by go_num, by rw [<- hl3.out], by rw [<- hl3.out]; exact hN2, by rw [<- hl3.out]; exact O3.out, ⟨hM.out, hpl.out⟩, B3.out⟩
      case measure => simp [intOf]; omega
  . obtain rfl : j = s.size := by omega
    have hfull : (bys s).take s.size = bys s := List.take_of_length_le (by rw [bys_len]; exact Nat.le_refl _)
    have hN : Hid (R = (stg (T ++ [34]), true)) := by
     show _ = _
     have h1 := hI.out.1
     have h2 := hI.out.2
     rw [hfull] at h1 h2
     rw [<- hR.out, quoV_yes h2, h1]
    clear hI hfull
    go_wp2_with (at_builtin; refine wpList_app1 (B := w.heap.size) O.out zB (by omega) (by omega) (by omega) rfl rfl ?_)
    intro a3 c3 w3 O3 b3
    rw [intsB_const (z := 34) T 34 rfl] at O3
    have hcv := own_string O3
    rw [show strOf (intsB (T ++ [34])) = stg (T ++ [34]) from strOf_ints _] at hcv
    have B3 := Lib.hid (B.out.trans b3)
    clear O3 b3
    go_wp2_with fail
    go_ret2
    exact ⟨quo_ret hN.out, B3.out⟩
end Go.Proofs.YtemdkkphmldgjaaGreatDoor
namespace Go.Proofs.YtemdkkphmldgjaaGreatDoor
open Go.RowKit Lx
structure LSt (E T : TypeId) (s : Nat) (w wr : World) (g bb : Nat) (pre post zs : List Value) (ao : Option Addr) (n c : Nat) (us : List Value) : Prop where
 own : wr.ownsRow w.heap.size E s (.slice ao n c) n us
 box : Arr wr bb T (pre ++ .slice ao n c :: post)
 res : Arr wr w.heap.size T zs
 grown : w.grownBy wr (some g)
 new : w.heap.size < bb
 old : g < w.heap.size
section
variable {E T : TypeId} {s : Nat} {w wr w' : World} {g bb n c : Nat} {pre post zs us vs : List Value} {ao : Option Addr}
theorem LSt.call (h : LSt E T s w wr g bb pre post zs ao n c us) (hg : wr.grownBy w' (some g)) : LSt E T s w w' g bb pre post zs ao n c us :=
 ⟨ownsRow_older h.own hg h.old, h.box.grown hg (by have := h.new; have := h.old; omega), h.res.grown hg (by have := h.old; omega), grown_on h.grown hg, h.new, h.old⟩
theorem LSt.size (h : LSt E T s w wr g bb pre post zs ao n c us) : w.heap.size <= wr.heap.size := by have := h.res.lt; omega
theorem LSt.push (h : LSt E T s w wr g bb pre post zs ao n c us) {Es : List TypeId} (hTE : T ≠ E) (hT : T ∉ Es) (hE : E ∉ Es) {ao' : Option Addr} {c' : Nat} (ho : w'.ownsRow w.heap.size E s (.slice ao' (n + 1) c') (n + 1) (us ++ vs)) (hg : wr.grownBy w' (Value.slice ao n c).ownBlock) (hb : Below w.heap.size wr w') :
    ∃ W, w'.setCell ⟨bb, pre.length, none⟩ (.slice ao' (n + 1) c') = W /\ LSt E T s w W g bb pre post zs ao' (n + 1) c' (us ++ vs) /\ Hid (W = w'.setCell ⟨bb, pre.length, none⟩ (.slice ao' (n + 1) c')) /\ w'.cell? ⟨bb, pre.length, none⟩ = some (.slice ao n c) /\ w'.frozen? ⟨bb, pre.length, none⟩ = false /\ Keeps (ownF w.heap.size Es) wr W := by
 have A1 := h.box.row h.own hTE hg
 have R1 := h.res.row h.own hTE hg
 have hf := h.new
 have hset := A1.set pre.length (.slice ao' (n + 1) c')
 have e : (pre ++ .slice ao n c :: post).set pre.length (.slice ao' (n + 1) c') = pre ++ .slice ao' (n + 1) c' :: post := by simp
 rw [e] at hset
 refine ⟨_, rfl, ⟨ownsRow_set ho (row_ne_box ho A1 hTE) _, hset, R1.far (by show w.heap.size ≠ bb; omega) _, grown_set (grown_then h.grown hb) (by omega) _ _, h.new, h.old⟩, rfl, ?_, A1.frozen _, ?_⟩
 . rw [A1.cell]; simp
 . exact (keeps_row h.own hg hE).trans (stable_own _ _) hb.size (keeps_set_kind A1 hT _)
theorem LSt.row (h : LSt E T s w wr g bb pre post zs ao n c us) (hs : 0 < s) : Row (ownF w.heap.size [E]) s wr ao n c us := Row.own h.own hs
end
theorem keeps_put2 {lo g : Nat} {Es : List TypeId} {w : World} {T : TypeId} {v0 v1 : Value} (h : Arr w g T [v0, v1]) (hT : T ∉ Es) (u0 u1 : Value) : Keeps (ownF lo Es) w (put2 w g u0 u1) :=
 (keeps_set_kind (i := 0) h hT u0).trans (stable_own _ _) (by simp [World.setCell]) (keeps_set_kind (i := 1) (h.set 0 u0) hT u1)
theorem keeps_put3 {lo g : Nat} {Es : List TypeId} {w : World} {T : TypeId} {v0 v1 v2 : Value} (h : Arr w g T [v0, v1, v2]) (hT : T ∉ Es) (u0 u1 u2 : Value) : Keeps (ownF lo Es) w (put3 w g u0 u1 u2) :=
 ((keeps_set_kind (i := 0) h hT u0).trans (stable_own _ _) (by simp [World.setCell]) (keeps_set_kind (i := 1) (h.set 0 u0) hT u1)).trans (stable_own _ _) (by simp [World.setCell]) (keeps_set_kind (i := 2) ((h.set 0 u0).set 1 u1) hT u2)
theorem keeps_put4 {lo g : Nat} {Es : List TypeId} {w : World} {T : TypeId} {v0 v1 v2 v3 : Value} (h : Arr w g T [v0, v1, v2, v3]) (hT : T ∉ Es) (u0 u1 u2 u3 : Value) : Keeps (ownF lo Es) w (put4 w g u0 u1 u2 u3) :=
 (((keeps_set_kind (i := 0) h hT u0).trans (stable_own _ _) (by simp [World.setCell]) (keeps_set_kind (i := 1) (h.set 0 u0) hT u1)).trans (stable_own _ _) (by simp [World.setCell]) (keeps_set_kind (i := 2) ((h.set 0 u0).set 1 u1) hT u2)).trans (stable_own _ _) (by simp [World.setCell]) (keeps_set_kind (i := 3) (((h.set 0 u0).set 1 u1).set 2 u2) hT u3)
theorem own_mono {lo lo' : Nat} {Es Es' : List TypeId} (hl : lo' <= lo) (hE : ∀ E ∈ Es, E ∈ Es') {w : World} : ∀ k, ownF lo Es w k -> ownF lo' Es' w k := fun _ ⟨h1, E, h2, r⟩ => ⟨Nat.le_trans hl h1, E, hE E h2, r⟩
theorem infoF : (Tryz.prog.info? 63).map (fun i => (i.zero, i.size, i.bytes)) = some (some (.agg #[.string ⟨#[]⟩, .slice none 0 0, .int .i64 0]), 3, 48) := by kernel_rfl
theorem infoB : (Tryz.prog.info? 55).map (fun i => (i.zero, i.size, i.bytes)) = some (some (.agg #[.string ⟨#[]⟩, .string ⟨#[]⟩, .slice none 0 0, .int .i64 0]), 4, 64) := by kernel_rfl
def BSt (w wr : World) (g bb : Nat) (kind name ln : Value) (ao : Option Addr) (n c : Nat) (fs : List Fld) : Prop :=
 ∃ us, LSt 63 55 3 w wr g bb [kind, name] [ln] [.string ⟨#[]⟩, .string ⟨#[]⟩, .slice none 0 0, .int .i64 0] ao n c us /\ FCells true (ownF w.heap.size [9]) wr fs us
section
variable {w wr w' : World} {g bb n c : Nat} {kind name ln : Value} {ao : Option Addr} {fs : List Fld}
theorem BSt.call (h : BSt w wr g bb kind name ln ao n c fs) (hg : wr.grownBy w' (some g)) : BSt w w' g bb kind name ln ao n c fs := by
 obtain ⟨us, h1, h2⟩ := h
 exact ⟨us, h1.call hg, h2.keep (stable_own _ _) (keeps_older hg h1.old)⟩
theorem BSt.keep (h : BSt w wr g bb kind name ln ao n c fs) (hb : Below wr.heap.size wr w') : BSt w w' g bb kind name ln ao n c fs := h.call (grown_below hb _)
theorem BSt.box (h : BSt w wr g bb kind name ln ao n c fs) : Arr wr bb 55 [kind, name, .slice ao n c, ln] := by
 obtain ⟨us, h1, _⟩ := h
 exact h1.box
theorem BSt.res (h : BSt w wr g bb kind name ln ao n c fs) : Arr wr w.heap.size 55 [.string ⟨#[]⟩, .string ⟨#[]⟩, .slice none 0 0, .int .i64 0] := by
 obtain ⟨us, h1, _⟩ := h
 exact h1.res
theorem BSt.grown (h : BSt w wr g bb kind name ln ao n c fs) : w.grownBy wr (some g) := by
 obtain ⟨us, h1, _⟩ := h
 exact h1.grown
theorem BSt.flds (h : BSt w wr g bb kind name ln ao n c fs) : FldL true (ownF w.heap.size [9, 63]) wr ao n c fs := by
 obtain ⟨us, h1, h2⟩ := h
 exact ⟨us, (h1.row (by decide)).mono (own_mono (Nat.le_refl _) (by simp)), h2.mono (own_mono (Nat.le_refl _) (by simp))⟩
end
def SSt (w wr : World) (g sb : Nat) (title : Value) (ao : Option Addr) (n c : Nat) (bs : List Blc) : Prop :=
 ∃ us, LSt 55 24 4 w wr g sb [title] [] [.string ⟨#[]⟩, .slice none 0 0] ao n c us /\ BCells true (ownF w.heap.size [9, 63]) wr bs us
section
variable {w wr w' : World} {g sb n c : Nat} {title : Value} {ao : Option Addr} {bs : List Blc}
theorem SSt.call (h : SSt w wr g sb title ao n c bs) (hg : wr.grownBy w' (some g)) : SSt w w' g sb title ao n c bs := by
 obtain ⟨us, h1, h2⟩ := h
 exact ⟨us, h1.call hg, h2.keep (stable_own _ _) (keeps_older hg h1.old)⟩
theorem SSt.keep (h : SSt w wr g sb title ao n c bs) (hb : Below wr.heap.size wr w') : SSt w w' g sb title ao n c bs := h.call (grown_below hb _)
theorem SSt.box (h : SSt w wr g sb title ao n c bs) : Arr wr sb 24 [title, .slice ao n c] := by
 obtain ⟨us, h1, _⟩ := h
 exact h1.box
theorem SSt.res (h : SSt w wr g sb title ao n c bs) : Arr wr w.heap.size 24 [.string ⟨#[]⟩, .slice none 0 0] := by
 obtain ⟨us, h1, _⟩ := h
 exact h1.res
theorem SSt.grown (h : SSt w wr g sb title ao n c bs) : w.grownBy wr (some g) := by
 obtain ⟨us, h1, _⟩ := h
 exact h1.grown
theorem SSt.new (h : SSt w wr g sb title ao n c bs) : w.heap.size < sb := by
 obtain ⟨us, h1, _⟩ := h
 exact h1.new
theorem SSt.blks (h : SSt w wr g sb title ao n c bs) : BlkL true (ownF w.heap.size [9, 63, 55]) wr ao n c bs := by
 obtain ⟨us, h1, h2⟩ := h
 exact ⟨us, (h1.row (by decide)).mono (own_mono (Nat.le_refl _) (by simp)), h2.mono (own_mono (Nat.le_refl _) (by simp))⟩
end
end Go.Proofs.YtemdkkphmldgjaaGreatDoor
namespace Go.Proofs.YtemdkkphmldgjaaGreatDoor
open Go.RowKit Lx
namespace Lx
end Lx
def lowF (B : Nat) : World -> Nat -> Prop := fun _ k => k < B
theorem stable_low (B : Nat) : Stable (lowF B) := fun _ _ _ _ _ h => h
theorem keeps_low {B : Nat} {w w' : World} (h : Below B w w') : Keeps (lowF B) w w' := fun k _ hk => h.block k hk
end Go.Proofs.YtemdkkphmldgjaaGreatDoor
namespace Go.Proofs.YtemdkkphmldgjaaGreatDoor
open Go.RowKit Lx
theorem pt_nx (ao : Option Addr) (i k : Nat) : (⟨(pt ao i).block, (pt ao i).off + (k + 1), none⟩ : Addr) = pt ao (i + (k + 1)) := by
 have h : (pt ao i).add (k + 1) = pt ao (i + (k + 1)) := Addr.add_add _ _ _
 rw [<- h]
 rfl
namespace Lx
end Lx
end Go.Proofs.YtemdkkphmldgjaaGreatDoor
namespace Go.Proofs.YtemdkkphmldgjaaGreatDoor.Lx
structure SFld where
 key : List UInt8
 vals : List (List UInt8)
 line : Int
structure SBlc where
 kind : List UInt8
 name : List UInt8
 flds : List SFld
 line : Int
structure SSrc where
 title : List UInt8
 blks : List SBlc
structure Cst where
 name : List UInt8
 cands : List (List UInt8)
 method : Int
 seats : Int
 ranks : Int
 digits : Int
 ties : Int
 over : Int
 skip : Int
structure Sty where
 name : List UInt8
 precs : List Int
 conts : List Int
structure Elc where
 title : List UInt8
 dots : Int
 blank : Int
 marked : Int
 precs : List (List UInt8)
 conts : List Cst
 stys : List Sty
 scanners : Int
 batch : Int
 rneg : Bool
 rnum : List Int
 rden : List Int
 cell : Int
 seed : List UInt8
def kScan : List UInt8 := [115, 99, 97, 110]
def kScanners : List UInt8 := [115, 99, 97, 110, 110, 101, 114, 115]
def kPrecincts : List UInt8 := [112, 114, 101, 99, 105, 110, 99, 116, 115]
def kContest : List UInt8 := [99, 111, 110, 116, 101, 115, 116]
def kStyle : List UInt8 := [115, 116, 121, 108, 101]
def kAudit : List UInt8 := [97, 117, 100, 105, 116]
def kPrivacy : List UInt8 := [112, 114, 105, 118, 97, 99, 121]
def wDots : List UInt8 := [100, 111, 116, 115]
def wBlank : List UInt8 := [98, 108, 97, 110, 107]
def wMarked : List UInt8 := [109, 97, 114, 107, 101, 100]
def wCount : List UInt8 := [99, 111, 117, 110, 116]
def wBatch : List UInt8 := [98, 97, 116, 99, 104]
def wNames : List UInt8 := [110, 97, 109, 101, 115]
def wMethod : List UInt8 := [109, 101, 116, 104, 111, 100]
def wSeats : List UInt8 := [115, 101, 97, 116, 115]
def wRanks : List UInt8 := [114, 97, 110, 107, 115]
def wDigits : List UInt8 := [100, 105, 103, 105, 116, 115]
def wTies : List UInt8 := [116, 105, 101, 115]
def wOvervote : List UInt8 := [111, 118, 101, 114, 118, 111, 116, 101]
def wSkip : List UInt8 := [115, 107, 105, 112]
def wCandidates : List UInt8 := [99, 97, 110, 100, 105, 100, 97, 116, 101, 115]
def wContests : List UInt8 := [99, 111, 110, 116, 101, 115, 116, 115]
def wRisk : List UInt8 := [114, 105, 115, 107]
def wSeed : List UInt8 := [115, 101, 101, 100]
def wCell : List UInt8 := [99, 101, 108, 108]
def vIrv : List UInt8 := [105, 114, 118]
def vMeek : List UInt8 := [109, 101, 101, 107]
def vGregory : List UInt8 := [103, 114, 101, 103, 111, 114, 121]
def vBackwards : List UInt8 := [98, 97, 99, 107, 119, 97, 114, 100, 115]
def vForwards : List UInt8 := [102, 111, 114, 119, 97, 114, 100, 115]
def vLot : List UInt8 := [108, 111, 116]
def vStop : List UInt8 := [115, 116, 111, 112]
def vClose : List UInt8 := [99, 108, 111, 115, 101]
def vTwo : List UInt8 := [116, 119, 111]
structure BRule where
 kind : List UInt8
 most : Nat
 named : Bool
def blkRules : List BRule := [⟨kScan, 1, false⟩, ⟨kScanners, 1, false⟩, ⟨kPrecincts, 1, false⟩, ⟨kContest, 4, true⟩, ⟨kStyle, 6, true⟩, ⟨kAudit, 1, false⟩, ⟨kPrivacy, 1, false⟩]
structure FRule where
 kind : List UInt8
 key : List UInt8
 form : Nat
 least : Nat
 most : Nat
def fldRules : List FRule := [⟨kScan, wDots, 0, 2, 7⟩, ⟨kScan, wBlank, 0, 1, 100⟩, ⟨kScan, wMarked, 0, 1, 100⟩, ⟨kScanners, wCount, 0, 1, 6⟩, ⟨kScanners, wBatch, 0, 1, 16⟩, ⟨kPrecincts, wNames, 2, 1, 12⟩,
  ⟨kContest, wMethod, 1, 0, 0⟩, ⟨kContest, wSeats, 0, 1, 5⟩, ⟨kContest, wRanks, 0, 1, 7⟩, ⟨kContest, wDigits, 0, 1, 6⟩, ⟨kContest, wTies, 1, 0, 0⟩, ⟨kContest, wOvervote, 1, 0, 0⟩, ⟨kContest, wSkip, 1, 0, 0⟩, ⟨kContest, wCandidates, 2, 1, 7⟩,
  ⟨kStyle, kPrecincts, 2, 1, 12⟩, ⟨kStyle, wContests, 2, 1, 4⟩, ⟨kAudit, wRisk, 3, 0, 0⟩, ⟨kAudit, wSeed, 4, 0, 0⟩, ⟨kPrivacy, wCell, 0, 1, 400⟩]
def blkRule (kind : List UInt8) : Option BRule := blkRules.find? fun r => decide (r.kind = kind)
def fldRule (kind key : List UInt8) : Option FRule := fldRules.find? fun r => decide (r.kind = kind) && decide (r.key = key)
def wordsOf (key : List UInt8) : List (List UInt8) :=
 if key = wMethod then [[], vIrv, vMeek, vGregory] else if key = wTies then [[], vBackwards, vForwards, vLot] else if key = wOvervote then [[], vStop, wSkip] else if key = wSkip then [[], vClose, vStop, vTwo] else []
def idxS (v : List UInt8) : List (List UInt8) -> Option Nat
  | [] => none
  | u :: r => if u = v then some 0 else (idxS v r).map (· + 1)
def codeOf (key v : List UInt8) : Nat := (idxS v (wordsOf key)).getD 0
def textB (v : List UInt8) (most : Nat) : Bool := decide (v.length <= most) && v.all plainB
def nameB (v : List UInt8) : Bool := !v.isEmpty && textB v 24
def slashB (v : List UInt8) : Bool := v.any fun c => decide (c.toNat = 47)
def fracB (v : List UInt8) : Bool := bareB v && slashB v
def numV (v : List UInt8) : Nat := v.foldl (fun n c => 10 * n + (c.toNat - 48)) 0
def fracA (v : List UInt8) : List UInt8 := v.takeWhile fun c => !decide (c.toNat = 47)
def fracD (v : List UInt8) : List UInt8 := (v.dropWhile fun c => !decide (c.toNat = 47)).drop 1
def fieldOf (b : SBlc) (k : List UInt8) : Option SFld := b.flds.find? fun f => decide (f.key = k)
def hasF (b : SBlc) (k : List UInt8) : Bool := (fieldOf b k).isSome
def valuesOf (b : SBlc) (k : List UInt8) : List (List UInt8) := match fieldOf b k with
 | some f => f.vals
 | none => []
def lineF (b : SBlc) (k : List UInt8) : Int := match fieldOf b k with
 | some f => f.line
 | none => 0
def valueOf (b : SBlc) (k : List UInt8) : List UInt8 := ((valuesOf b k)[0]?).getD []
def numberOf (b : SBlc) (k : List UInt8) : Nat := numV (valueOf b k)
def codeB (b : SBlc) (k : List UInt8) : Nat := codeOf k (valueOf b k)
def ofKind (k : List UInt8) (bs : List SBlc) : List SBlc := bs.filter fun b => decide (b.kind = k)
def namesOf (bs : List SBlc) : List (List UInt8) := bs.map SBlc.name
def contNames (bs : List SBlc) : List (List UInt8) := namesOf (ofKind kContest bs)
def precNames (bs : List SBlc) : List (List UInt8) := (ofKind kPrecincts bs).flatMap fun b => valuesOf b wNames
def lastK (k : List UInt8) (bs : List SBlc) : SBlc := ((ofKind k bs).getLast?).getD ⟨[], [], [], 0⟩
def headE (earlier : List SBlc) (b : SBlc) : Nat := match blkRule b.kind with
 | none => 2
 | some r =>
  if r.named then
   if b.name = [] then 6 else if 24 < b.name.length || !wordB b.name then 8 else if (namesOf (ofKind b.kind earlier)).contains b.name then 3 else if r.most <= (ofKind b.kind earlier).length then 7 else 0
  else if b.name ≠ [] then 2 else if r.most <= (ofKind b.kind earlier).length then 3 else 0
def namesGo (most : Nat) : List (List UInt8) -> List (List UInt8) -> Nat
  | _, [] => 0
  | seen, n :: r => if most <= seen.length then 7 else if !nameB n then 8 else if seen.contains n then 3 else namesGo most (seen ++ [n]) r
def namesE (r : FRule) (vs : List (List UInt8)) : Nat := if vs.length < r.least then 7 else namesGo r.most [] vs
def numE (r : FRule) (v : List UInt8) : Nat := if !numB v then 5 else if numV v < r.least || r.most < numV v then 4 else 0
def riskE (v : List UInt8) : Nat := if !fracB v then 5 else if numV (fracD v) = 0 || 1000 * numV (fracA v) < numV (fracD v) || numV (fracD v) < 2 * numV (fracA v) then 4 else 0
def valueE (r : FRule) (v : List UInt8) : Nat :=
 if r.form = 0 then numE r v else if r.form = 1 then (if codeOf r.key v = 0 then 2 else 0) else if r.form = 3 then riskE v else if r.form = 4 then (if !textB v 24 then 8 else 0) else 0
def fieldE (kind : List UInt8) (earlier : List SFld) (f : SFld) : Nat := match fldRule kind f.key with
 | none => 2
 | some r => if earlier.any (fun g => decide (g.key = f.key)) then 3 else if r.form = 2 then namesE r f.vals else if f.vals.length ≠ 1 then 7 else valueE r ((f.vals[0]?).getD [])
def fldsGo (kind : List UInt8) : List SFld -> List SFld -> Nat × Int
  | _, [] => (0, 0)
  | e, f :: r => if fieldE kind e f ≠ 0 then (fieldE kind e f, f.line) else fldsGo kind (e ++ [f]) r
def lacksF (b : SBlc) : Bool := fldRules.any fun r => decide (r.kind = b.kind) && !(decide (r.key = wDigits) && !decide (codeB b wMethod = 2)) && !hasF b r.key
def togE (b : SBlc) : Nat × Int :=
 if b.kind = kContest then
  if hasF b wDigits && !decide (codeB b wMethod = 2) then (5, lineF b wDigits) else if decide (codeB b wMethod = 1) && decide (1 < numberOf b wSeats) then (4, lineF b wSeats) else (0, 0)
 else if b.kind = kScan then (if numberOf b wMarked < numberOf b wBlank then (4, b.line) else (0, 0)) else (0, 0)
def blockE (earlier : List SBlc) (b : SBlc) : Nat × Int :=
 if headE earlier b ≠ 0 then (headE earlier b, b.line)
 else if (fldsGo b.kind [] b.flds).1 ≠ 0 then fldsGo b.kind [] b.flds
 else if lacksF b then (6, b.line) else togE b
def blksGo : List SBlc -> List SBlc -> Nat × Int
  | _, [] => (0, 0)
  | e, b :: r => if (blockE e b).1 ≠ 0 then blockE e b else blksGo (e ++ [b]) r
def precGo (precs : List (List UInt8)) (ln : Int) : List (List UInt8) -> List (List UInt8) -> (Nat × Int) × List (List UInt8)
  | used, [] => ((0, 0), used)
  | used, v :: r => if !precs.contains v then ((2, ln), used) else if used.contains v then ((3, ln), used) else precGo precs ln (used ++ [v]) r
def contE (conts : List (List UInt8)) (ln : Int) (vs : List (List UInt8)) : Nat × Int := if vs.all (fun v => conts.contains v) then (0, 0) else (2, ln)
def stylesGo (precs conts : List (List UInt8)) : List (List UInt8) -> List SBlc -> Nat × Int
  | used, [] => if used.length < precs.length then (6, 0) else (0, 0)
  | used, b :: r =>
   if (precGo precs (lineF b kPrecincts) used (valuesOf b kPrecincts)).1.1 ≠ 0 then (precGo precs (lineF b kPrecincts) used (valuesOf b kPrecincts)).1
   else if (contE conts (lineF b wContests) (valuesOf b wContests)).1 ≠ 0 then contE conts (lineF b wContests) (valuesOf b wContests)
   else stylesGo precs conts (precGo precs (lineF b kPrecincts) used (valuesOf b kPrecincts)).2 r
def missK (bs : List SBlc) : Bool := blkRules.any fun r => (ofKind r.kind bs).isEmpty
def checkS (s : SSrc) : Nat × Int :=
 if !textB s.title 60 then (8, 0)
 else if (blksGo [] s.blks).1 ≠ 0 then blksGo [] s.blks
 else if missK s.blks then (6, 0)
 else stylesGo (precNames s.blks) (contNames s.blks) [] (ofKind kStyle s.blks)
def idxI (l : List (List UInt8)) (v : List UInt8) : Int := match idxS v l with
 | some i => i
 | none => -1
def mkCst (b : SBlc) : Cst := ⟨b.name, valuesOf b wCandidates, codeB b wMethod, numberOf b wSeats, numberOf b wRanks, numberOf b wDigits, codeB b wTies, codeB b wOvervote, codeB b wSkip⟩
def mkSty (precs conts : List (List UInt8)) (b : SBlc) : Sty := ⟨b.name, (valuesOf b kPrecincts).map (idxI precs), (valuesOf b wContests).map (idxI conts)⟩
def lowT (a d : Nat) : Nat × Nat := (a / Nat.gcd a d, d / Nat.gcd a d)
def riskN (v : List UInt8) : List Int := [(((lowT (numV (fracA v)) (numV (fracD v))).1 : Nat) : Int)]
def riskD (v : List UInt8) : List Int := [(((lowT (numV (fracA v)) (numV (fracD v))).2 : Nat) : Int)]
def buildS (s : SSrc) : Elc where
 title := s.title
 dots := numberOf (lastK kScan s.blks) wDots
 blank := numberOf (lastK kScan s.blks) wBlank
 marked := numberOf (lastK kScan s.blks) wMarked
 precs := precNames s.blks
 conts := (ofKind kContest s.blks).map mkCst
 stys := (ofKind kStyle s.blks).map (mkSty (precNames s.blks) (contNames s.blks))
 scanners := numberOf (lastK kScanners s.blks) wCount
 batch := numberOf (lastK kScanners s.blks) wBatch
 rneg := false
 rnum := riskN (valueOf (lastK kAudit s.blks) wRisk)
 rden := riskD (valueOf (lastK kAudit s.blks) wRisk)
 cell := numberOf (lastK kPrivacy s.blks) wCell
 seed := valueOf (lastK kAudit s.blks) wSeed
def zeroE : Elc := ⟨[], 0, 0, 0, [], [], [], 0, 0, false, [], [], 0, []⟩
def compS (s : SSrc) : (Nat × Int) × Elc := if (checkS s).1 ≠ 0 then (checkS s, zeroE) else ((0, 0), buildS s)
end Go.Proofs.YtemdkkphmldgjaaGreatDoor.Lx
namespace Go.Proofs.YtemdkkphmldgjaaGreatDoor
open Go.RowKit Lx
def FC (S : World -> Nat -> Prop) (w : World) : List SFld -> List Value -> Prop
  | [], us => us = []
  | f :: fs, us => ∃ vo vn vc r, us = .string (stg f.key) :: .slice vo vn vc :: .int .i64 f.line :: r /\ StrL S w vo vn vc f.vals /\ FC S w fs r
def FldS (S : World -> Nat -> Prop) (w : World) (ao : Option Addr) (n c : Nat) (fs : List SFld) : Prop := ∃ us, Row S 3 w ao n c us /\ FC S w fs us
def BC (S : World -> Nat -> Prop) (w : World) : List SBlc -> List Value -> Prop
  | [], us => us = []
  | b :: bs, us => ∃ fo fn fc r, us = .string (stg b.kind) :: .string (stg b.name) :: .slice fo fn fc :: .int .i64 b.line :: r /\ FldS S w fo fn fc b.flds /\ BC S w bs r
def BlkS (S : World -> Nat -> Prop) (w : World) (ao : Option Addr) (n c : Nat) (bs : List SBlc) : Prop := ∃ us, Row S 4 w ao n c us /\ BC S w bs us
section
variable {S T : World -> Nat -> Prop} {n c : Nat} {w w' : World} {ao : Option Addr} {us : List Value}
theorem Row.nilS (s : Nat) (w : World) : Row S s w none 0 0 [] := Row.nil S s w
theorem FC.keep (hS : Stable S) (hk : Keeps S w w') : ∀ {fs : List SFld} {us : List Value}, FC S w fs us -> FC S w' fs us
  | [], _, h => h
  | _ :: _, _, ⟨vo, vn, vc, r, h1, h2, h4⟩ => ⟨vo, vn, vc, r, h1, Row.keep h2 hS hk, FC.keep hS hk h4⟩
theorem FC.mono (hm : ∀ k, S w k -> T w k) : ∀ {fs : List SFld} {us : List Value}, FC S w fs us -> FC T w fs us
  | [], _, h => h
  | _ :: _, _, ⟨vo, vn, vc, r, h1, h2, h4⟩ => ⟨vo, vn, vc, r, h1, Row.mono h2 hm, FC.mono hm h4⟩
theorem FC.append : ∀ {fs : List SFld} {us : List Value} {gs : List SFld} {vs : List Value}, FC S w fs us -> FC S w gs vs -> FC S w (fs ++ gs) (us ++ vs)
  | [], _, _, _, h, k => by
   have : _ = [] := h
   subst this
   exact k
  | _ :: _, _, _, _, ⟨vo, vn, vc, r, h1, h2, h4⟩, k => by
   subst h1
   exact ⟨vo, vn, vc, _, rfl, h2, FC.append h4 k⟩
theorem FC.len : ∀ {fs : List SFld} {us : List Value}, FC S w fs us -> us.length = fs.length * 3
  | [], _, h => by
   have : _ = [] := h
   subst this
   rfl
  | _ :: fs, _, ⟨vo, vn, vc, r, h1, _, h4⟩ => by
   subst h1
   have := FC.len h4
   simp only [List.length_cons]
   omega
theorem FC.at : ∀ {fs : List SFld} {us : List Value}, FC S w fs us -> ∀ (i : Nat) (f : SFld), fs[i]? = some f -> us[i * 3]? = some (.string (stg f.key)) /\ (∃ vo vn vc, us[i * 3 + 1]? = some (.slice vo vn vc) /\ StrL S w vo vn vc f.vals) /\ us[i * 3 + 2]? = some (.int .i64 f.line)
  | [], _, _, i, f, hf => by simp at hf
  | g :: fs, _, ⟨vo, vn, vc, r, h1, h2, h4⟩, 0, f, hf => by
   have : g = f := by simpa using hf
   subst this
   subst h1
   exact ⟨rfl, ⟨vo, vn, vc, rfl, h2⟩, rfl⟩
  | g :: fs, _, ⟨vo, vn, vc, r, h1, h2, h4⟩, i + 1, f, hf => by
   subst h1
   have := FC.at h4 i f (by simpa using hf)
   rw [show (i + 1) * 3 = i * 3 + 3 by omega]
   exact this
theorem FC.take : ∀ {fs : List SFld} {us : List Value}, FC S w fs us -> ∀ i, FC S w (fs.take i) (us.take (i * 3))
  | [], us, h, i => by
   have : us = [] := h
   subst this
   rw [List.take_nil, List.take_nil]
   exact rfl
  | g :: fs, _, h, 0 => by
   rw [Nat.zero_mul, List.take_zero, List.take_zero]
   exact rfl
  | g :: fs, _, ⟨vo, vn, vc, r, h1, h2, h4⟩, i + 1 => by
   subst h1
   rw [show (i + 1) * 3 = i * 3 + 1 + 1 + 1 by omega, List.take_succ_cons, List.take_succ_cons, List.take_succ_cons, List.take_succ_cons]
   exact ⟨vo, vn, vc, _, rfl, h2, FC.take h4 i⟩
theorem Row.take {s : Nat} (h : Row S s w ao n c us) {i : Nat} (hi : i <= n) : Row S s w ao i c (us.take (i * s)) := by
 have hl := h.len
 have hc := h.cap
 have hm : i * s <= n * s := Nat.mul_le_mul hi (Nat.le_refl _)
 refine ⟨by rw [List.length_take]; omega, by omega, h.room, fun h0 => h.isSome (by omega), fun k u hu => h.cell k u ?_, h.nil0⟩
 rw [List.getElem?_take] at hu
 split at hu
 . exact hu
 . cases hu
theorem FldS.keep {fs : List SFld} (h : FldS S w ao n c fs) (hS : Stable S) (hk : Keeps S w w') : FldS S w' ao n c fs := by
 obtain ⟨us, h1, h2⟩ := h
 exact ⟨us, h1.keep hS hk, h2.keep hS hk⟩
theorem FldS.mono {fs : List SFld} (h : FldS S w ao n c fs) (hm : ∀ k, S w k -> T w k) : FldS T w ao n c fs := by
 obtain ⟨us, h1, h2⟩ := h
 exact ⟨us, h1.mono hm, h2.mono hm⟩
theorem FldS.len {fs : List SFld} (h : FldS S w ao n c fs) : fs.length = n := by
 obtain ⟨us, h1, h2⟩ := h
 have a := h1.len
 have b := h2.len
 omega
theorem FldS.take {fs : List SFld} (h : FldS S w ao n c fs) {i : Nat} (hi : i <= n) : FldS S w ao i c (fs.take i) := by
 obtain ⟨us, h1, h2⟩ := h
 exact ⟨_, h1.take hi, h2.take i⟩
theorem FldS.caps {fs : List SFld} (h : FldS S w ao n c fs) : n <= c /\ c <= 9223372036854775807 := by
 obtain ⟨us, hr, _⟩ := h
 exact ⟨hr.cap, hr.room⟩
theorem BC.keep (hS : Stable S) (hk : Keeps S w w') : ∀ {bs : List SBlc} {us : List Value}, BC S w bs us -> BC S w' bs us
  | [], _, h => h
  | _ :: _, _, ⟨vo, vn, vc, r, h1, h2, h4⟩ => ⟨vo, vn, vc, r, h1, FldS.keep h2 hS hk, BC.keep hS hk h4⟩
theorem BC.mono (hm : ∀ k, S w k -> T w k) : ∀ {bs : List SBlc} {us : List Value}, BC S w bs us -> BC T w bs us
  | [], _, h => h
  | _ :: _, _, ⟨vo, vn, vc, r, h1, h2, h4⟩ => ⟨vo, vn, vc, r, h1, FldS.mono h2 hm, BC.mono hm h4⟩
theorem BC.append : ∀ {bs : List SBlc} {us : List Value} {gs : List SBlc} {vs : List Value}, BC S w bs us -> BC S w gs vs -> BC S w (bs ++ gs) (us ++ vs)
  | [], _, _, _, h, k => by
   have : _ = [] := h
   subst this
   exact k
  | _ :: _, _, _, _, ⟨vo, vn, vc, r, h1, h2, h4⟩, k => by
   subst h1
   exact ⟨vo, vn, vc, _, rfl, h2, BC.append h4 k⟩
theorem BC.len : ∀ {bs : List SBlc} {us : List Value}, BC S w bs us -> us.length = bs.length * 4
  | [], _, h => by
   have : _ = [] := h
   subst this
   rfl
  | _ :: bs, _, ⟨vo, vn, vc, r, h1, _, h4⟩ => by
   subst h1
   have := BC.len h4
   simp only [List.length_cons]
   omega
theorem BC.at : ∀ {bs : List SBlc} {us : List Value}, BC S w bs us -> ∀ (i : Nat) (b : SBlc), bs[i]? = some b -> us[i * 4]? = some (.string (stg b.kind)) /\ us[i * 4 + 1]? = some (.string (stg b.name)) /\ (∃ fo fn fc, us[i * 4 + 2]? = some (.slice fo fn fc) /\ FldS S w fo fn fc b.flds) /\ us[i * 4 + 3]? = some (.int .i64 b.line)
  | [], _, _, i, f, hf => by simp at hf
  | g :: fs, _, ⟨vo, vn, vc, r, h1, h2, h4⟩, 0, f, hf => by
   have : g = f := by simpa using hf
   subst this
   subst h1
   exact ⟨rfl, rfl, ⟨vo, vn, vc, rfl, h2⟩, rfl⟩
  | g :: fs, _, ⟨vo, vn, vc, r, h1, h2, h4⟩, i + 1, f, hf => by
   subst h1
   have := BC.at h4 i f (by simpa using hf)
   rw [show (i + 1) * 4 = i * 4 + 4 by omega]
   exact this
theorem BC.take : ∀ {fs : List SBlc} {us : List Value}, BC S w fs us -> ∀ i, BC S w (fs.take i) (us.take (i * 4))
  | [], us, h, i => by
   have : us = [] := h
   subst this
   rw [List.take_nil, List.take_nil]
   exact rfl
  | g :: fs, _, h, 0 => by
   rw [Nat.zero_mul, List.take_zero, List.take_zero]
   exact rfl
  | g :: fs, _, ⟨vo, vn, vc, r, h1, h2, h4⟩, i + 1 => by
   subst h1
   rw [show (i + 1) * 4 = i * 4 + 1 + 1 + 1 + 1 by omega, List.take_succ_cons, List.take_succ_cons, List.take_succ_cons, List.take_succ_cons, List.take_succ_cons]
   exact ⟨vo, vn, vc, _, rfl, h2, BC.take h4 i⟩
theorem BlkS.keep {bs : List SBlc} (h : BlkS S w ao n c bs) (hS : Stable S) (hk : Keeps S w w') : BlkS S w' ao n c bs := by
 obtain ⟨us, h1, h2⟩ := h
 exact ⟨us, h1.keep hS hk, h2.keep hS hk⟩
theorem BlkS.mono {bs : List SBlc} (h : BlkS S w ao n c bs) (hm : ∀ k, S w k -> T w k) : BlkS T w ao n c bs := by
 obtain ⟨us, h1, h2⟩ := h
 exact ⟨us, h1.mono hm, h2.mono hm⟩
theorem BlkS.len {bs : List SBlc} (h : BlkS S w ao n c bs) : bs.length = n := by
 obtain ⟨us, h1, h2⟩ := h
 have a := h1.len
 have b := h2.len
 omega
theorem BlkS.take {bs : List SBlc} (h : BlkS S w ao n c bs) {i : Nat} (hi : i <= n) : BlkS S w ao i c (bs.take i) := by
 obtain ⟨us, h1, h2⟩ := h
 exact ⟨_, h1.take hi, h2.take i⟩
theorem BlkS.caps {bs : List SBlc} (h : BlkS S w ao n c bs) : n <= c /\ c <= 9223372036854775807 := by
 obtain ⟨us, hr, _⟩ := h
 exact ⟨hr.cap, hr.room⟩
theorem StrL.take {vs : List (List UInt8)} (h : StrL S w ao n c vs) {i : Nat} (hi : i <= n) : StrL S w ao i c (vs.take i) := by
 have := Row.take h hi
 unfold StrL
 rw [List.map_take]
 rwa [Nat.mul_one] at this
theorem StrL.get {vs : List (List UInt8)} (h : StrL S w ao n c vs) (i : Nat) (hi : i < n) : ∃ (v : List UInt8) (a : Addr), vs[i]? = some v /\
    (∀ W, (Instr.indexAt 26 (.slice ao n c) (.int .i64 (i : Int))).run Tryz.prog W = .ok (.pointer (some a)) W) /\ w.cell? a = some (.string (stg v)) := by
 obtain ⟨v, hv⟩ : ∃ v, vs[i]? = some v := ⟨_, List.getElem?_eq_getElem (by rw [h.len]; exact hi)⟩
 have hx := run_ix Tryz.underlying26 (show (Tryz.prog.info? 9).map (·.size) = some 1 by kernel_rfl) h i hi
 rw [Nat.mul_one] at hx
 exact ⟨v, pt ao i, hv, hx, h.at i v hv⟩
end
section
variable {S : World -> Nat -> Prop} {n c : Nat} {w : World} {ao : Option Addr}
theorem FldS.at {fs : List SFld} (h : FldS S w ao n c fs) (i : Nat) (f : SFld) (hf : fs[i]? = some f) : w.cell? (pt ao (i * 3)) = some (.string (stg f.key)) /\ (∃ vo vn vc, w.cell? (pt ao (i * 3 + 1)) = some (.slice vo vn vc) /\ StrL S w vo vn vc f.vals) /\ w.cell? (pt ao (i * 3 + 2)) = some (.int .i64 f.line) := by
 obtain ⟨us, h1, h2⟩ := h
 obtain ⟨a, ⟨vo, vn, vc, b1, b2⟩, d1⟩ := h2.at i f hf
 exact ⟨(h1.cell _ _ a).1, ⟨vo, vn, vc, (h1.cell _ _ b1).1, b2⟩, (h1.cell _ _ d1).1⟩
theorem BlkS.at {bs : List SBlc} (h : BlkS S w ao n c bs) (i : Nat) (b : SBlc) (hb : bs[i]? = some b) : w.cell? (pt ao (i * 4)) = some (.string (stg b.kind)) /\ w.cell? (pt ao (i * 4 + 1)) = some (.string (stg b.name)) /\ (∃ fo fn fc, w.cell? (pt ao (i * 4 + 2)) = some (.slice fo fn fc) /\ FldS S w fo fn fc b.flds) /\ w.cell? (pt ao (i * 4 + 3)) = some (.int .i64 b.line) := by
 obtain ⟨us, h1, h2⟩ := h
 obtain ⟨a, a2, ⟨vo, vn, vc, b1, b2⟩, d1⟩ := h2.at i b hb
 exact ⟨(h1.cell _ _ a).1, (h1.cell _ _ a2).1, ⟨vo, vn, vc, (h1.cell _ _ b1).1, b2⟩, (h1.cell _ _ d1).1⟩
theorem FldS.get {fs : List SFld} (h : FldS S w ao n c fs) (i : Nat) (hi : i < n) : ∃ (f : SFld) (a : Addr) (vo : Option Addr) (vn vc : Nat), fs[i]? = some f /\
    (∀ W, (Instr.indexAt 53 (.slice ao n c) (.int .i64 (i : Int))).run Tryz.prog W = .ok (.pointer (some a)) W) /\
    w.cell? a = some (.string (stg f.key)) /\ w.cell? ⟨a.block, a.off + 1, none⟩ = some (.slice vo vn vc) /\ w.cell? ⟨a.block, a.off + 2, none⟩ = some (.int .i64 f.line) /\ StrL S w vo vn vc f.vals := by
 obtain ⟨f, hf⟩ : ∃ f, fs[i]? = some f := ⟨_, List.getElem?_eq_getElem (by rw [h.len]; exact hi)⟩
 obtain ⟨h1, ⟨vo, vn, vc, h2, h3⟩, h4⟩ := h.at i f hf
 obtain ⟨us, hr, _⟩ := h
 exact ⟨f, pt ao (i * 3), vo, vn, vc, hf, run_ix Tryz.underlying53 (show (Tryz.prog.info? 63).map (·.size) = some 3 by kernel_rfl) hr i hi, h1, by rw [pt_nx ao (i * 3) 0]; exact h2, by rw [pt_nx ao (i * 3) 1]; exact h4, h3⟩
theorem BlkS.get {bs : List SBlc} (h : BlkS S w ao n c bs) (i : Nat) (hi : i < n) : ∃ (b : SBlc) (a : Addr) (fo : Option Addr) (fn fc : Nat), bs[i]? = some b /\
    (∀ W, (Instr.indexAt 22 (.slice ao n c) (.int .i64 (i : Int))).run Tryz.prog W = .ok (.pointer (some a)) W) /\
    w.cell? a = some (.string (stg b.kind)) /\ w.cell? ⟨a.block, a.off + 1, none⟩ = some (.string (stg b.name)) /\ w.cell? ⟨a.block, a.off + 2, none⟩ = some (.slice fo fn fc) /\ w.cell? ⟨a.block, a.off + 3, none⟩ = some (.int .i64 b.line) /\ FldS S w fo fn fc b.flds := by
 obtain ⟨b, hb⟩ : ∃ f, bs[i]? = some f := ⟨_, List.getElem?_eq_getElem (by rw [h.len]; exact hi)⟩
 obtain ⟨h1, h2, ⟨fo, fn, fc, h3, h4⟩, h5⟩ := h.at i b hb
 obtain ⟨us, hr, _⟩ := h
 exact ⟨b, pt ao (i * 4), fo, fn, fc, hb, run_ix Tryz.underlying22 (show (Tryz.prog.info? 55).map (·.size) = some 4 by kernel_rfl) hr i hi, h1, by rw [pt_nx ao (i * 4) 0]; exact h2, by rw [pt_nx ao (i * 4) 1]; exact h3, by rw [pt_nx ao (i * 4) 2]; exact h5, h4⟩
end
namespace Lx
def toSF (f : Fld) : SFld := ⟨f.key, f.vals, f.line⟩
def toSB (b : Blc) : SBlc := ⟨b.kind, b.name, b.flds.map toSF, b.line⟩
def toSS (s : Src) : SSrc := ⟨s.title, s.blks.map toSB⟩
end Lx
section
variable {S : World -> Nat -> Prop} {n c : Nat} {w : World} {ao : Option Addr}
theorem FCells.toS : ∀ {fs : List Fld} {us : List Value}, FCells true S w fs us -> FC S w (fs.map toSF) us
  | [], _, h => h
  | _ :: _, _, ⟨vo, vn, vc, z, r, h1, h2, h3, h4⟩ => by
   have := h3 rfl
   subst this
   exact ⟨vo, vn, vc, r, h1, h2, FCells.toS h4⟩
theorem FldL.toS {fs : List Fld} (h : FldL true S w ao n c fs) : FldS S w ao n c (fs.map toSF) := by
 obtain ⟨us, h1, h2⟩ := h
 exact ⟨us, h1, h2.toS⟩
theorem BCells.toS : ∀ {fs : List Blc} {us : List Value}, BCells true S w fs us -> BC S w (fs.map toSB) us
  | [], _, h => h
  | _ :: _, _, ⟨vo, vn, vc, z, r, h1, h2, h3, h4⟩ => by
   have := h3 rfl
   subst this
   exact ⟨vo, vn, vc, r, h1, h2.toS, BCells.toS h4⟩
theorem BlkL.toS {fs : List Blc} (h : BlkL true S w ao n c fs) : BlkS S w ao n c (fs.map toSB) := by
 obtain ⟨us, h1, h2⟩ := h
 exact ⟨us, h1, h2.toS⟩
end
theorem str_eq (u v : List UInt8) : ((stg u).toList == (stg v).toList) = decide (u = v) := by
 rw [ByteArray.toList_eq, ByteArray.toList_eq]
 show (u == v) = decide (u = v)
 by_cases h : u = v
 . subst h; simp
 . rw [decide_eq_false h]; simp [h]
end Go.Proofs.YtemdkkphmldgjaaGreatDoor
