/-
  Texts of the proof, put together: NatChunk NatText SchVal.
-/
import Derived.Lib.OwnKind
import Derived.Lib.VarintMem
import Derived.Maps.AppendAt
import Derived.Lib.BufferRead
import Derived.Lib.SmallJoins
import Derived.Test.YtemdkkphmldgjaaGreatDoorPkA6
import Derived.Test.YtemdkkphmldgjaaGreatDoorPkA7
import Derived.Test.YtemdkkphmldgjaaGreatDoorPkA9
set_option maxRecDepth 100000
set_option maxHeartbeats 3200000
namespace Go.Proofs.YtemdkkphmldgjaaGreatDoor.Q
open Go.RowKit NatMath
theorem info5 : (Tryz.prog.info? 5).map (fun i => (i.zero, i.size, i.bytes)) = some (some (.int .u8 0), 1, 1) := by kernel_rfl
def OwnB (B : Nat) (w : World) (v : Value) (l : List UInt8) : Prop := w.ownsRow B 5 1 v l.length (Lib.byteCells l)
theorem byteOf (d : Nat) (h : d < 256) : Value.int .u8 (d : Int) = Value.int .u8 ((UInt8.ofNat d).toNat : Int) := by
 rw [UInt8.toNat_ofNat_of_lt' (by simpa using h)]
theorem appendChunk_c (B : Nat) (v : Value) (l : List UInt8) (x : Nat) (w : World) (h : OwnB B w v l) (hB : B <= w.heap.size) (hl : l.length <= 1099511627776) (hx : x <= 4294967295) :
    Calls Tryz.prog 202 #[v, .int .u32 x] w fun e w' => ∃ v', e = .returned v' /\ OwnB B w' v' (l ++ padTo x 9) /\ Below B w w' /\ Lib.OthersKept 5 none w w' := by
 obtain ⟨i0, hi, hz0, hz1, hz2⟩ := info_parts info5
 have hst : OwnB B w v (l ++ padTo x 0) := by simpa [padTo_zero] using h
 go_enter Tryz.func202, Tryz.ntmps202
 go_wp2_with fail
 go_loopw [0, 5] (fun s0 s5 wr => ∃ (k u : Nat) (v' : Value), k <= 9 /\ s0 = v' /\ s5 = .int .u32 u /\ Hid (u = unit k) /\ OwnB B wr v' (l ++ padTo x k) /\ B <= wr.heap.size /\ Below B w wr /\ Lib.OthersKept 5 none w wr)
   (fun _ s5 _ => (intOf s5).toNat)
 case atStart => exact ⟨0, 100000000, v, by omega, rfl, rfl, unit_zero.symm, hst, hB, Below.refl _ _, Lib.OthersKept.refl _ _ _⟩
 case round =>
  obtain ⟨k, u, v', hk, rfl, rfl, hu, ho, hBw, hb, hok⟩ := hrel
  have hule : u <= 100000000 := by rw [hu.out]; exact unit_le k
  by_cases h0 : 0 < u
  . have hk8 : k <= 8 := by
     rcases Nat.lt_or_ge k 9 with h9 | h9
     . omega
     . obtain rfl : k = 9 := by omega
       have := hu.out
       rw [unit_nine] at this
       omega
    obtain ⟨d, hd⟩ : ∃ d, Hid (d = x / u % 10) := ⟨_, rfl⟩
    have hd9 : d <= 9 := by rw [hd.out]; omega
    have hde : (x : Int) / (u : Int) % 4294967296 % 10 = (d : Int) := by
     have h1 : x / u <= x := Nat.div_le_self _ _
     have h2 : (x : Int) / (u : Int) = ((x / u : Nat) : Int) := by simp
     rw [h2, hd.out]
     clear h2
     generalize x / u = q at h1 |-
     omega
    have hdd : Hid (digit x k = 48 + d) := by
     show digit x k = 48 + d
     rw [digit, hd.out, hu.out]
    have hus : Hid (u / 10 = unit (k + 1)) := by
     show u / 10 = unit (k + 1)
     rw [hu.out, unit_succ]
    have hlen : (l ++ padTo x k).length <= 1099511627785 := by simp [padTo_length]; omega
    have HO := Lib.hid (World.ownsRow.alloc ho (.cells #[Value.int .u8 (48 + (d : Int))] 5))
    clear hst h
    go_wp2_with (at_builtin; refine wpList_append_own _ rfl _ _ 97 rfl B 5 i0 (.int .u8 0) 1 1 Tryz.underlying97 hi hz0 hz1 hz2 rfl (by decide) _ _ _ rfl HO.out ⟨wr.heap.size, 0, none⟩ 1 1 [.int .u8 (48 + (d : Int))] rfl rfl ?c1 ?c2 ?c3 ?c4 ?c5 ?_)
    case c1 =>
     intro j u hj
     match j, hj with
     | 0, hj => simp at hj; subst hj; simp [Addr.add]
    case c2 => intro u hu; simp at hu; subst hu; rfl
    case c3 => unfold maxLen; omega
    case c4 => omega
    case c5 => simp; omega
    intro v2 w1 hown hgrow _
    have R1 : Hid (OwnB B w1 v2 (l ++ padTo x (k + 1))) := by
     show w1.ownsRow B 5 1 v2 _ _
     rw [padTo_succ, <- List.append_assoc, hdd.out, Lib.byteCells_append, List.length_append]
     have e : Lib.byteCells [UInt8.ofNat (48 + d)] = [Value.int .u8 (48 + (d : Int))] := by
      have := byteOf (48 + d) (by omega)
      simp only [Lib.byteCells, List.map_cons, List.map_nil]
      rw [<- this]
      simp
     have e2 : (l ++ padTo x k).length + [UInt8.ofNat (48 + d)].length = l.length + (padTo x k).length + 1 := by simp
     rw [e, e2]
     exact hown
    have hrow : ∀ g, u0.ownBlock = some g -> B <= g := fun g hg => (ho.lt g hg).1
    have R2 := Lib.hid ((hb.alloc hBw (.cells #[Value.int .u8 (48 + (d : Int))] 5)).grown hgrow (by simp; omega) hrow)
    have R3 := Lib.hid ((hok.alloc (.cells #[Value.int .u8 (48 + (d : Int))] 5)).grown hgrow (Lib.ownsRow_kind HO.out))
    have R4 : B <= w1.heap.size := by have := hgrow.size; simp at this; omega
    clear hown hgrow hrow
    go_wp2_with fail
    go_roundw
    case rel => exact ⟨k + 1, u / 10, v2, by omega, rfl, by go_num, hus.out, R1.out, R4, R2.out, R3.out⟩
    case measure => simp [intOf]; omega
  . obtain rfl : u = 0 := by omega
    have h9 : k = 9 := by
     rcases Nat.lt_or_ge k 9 with h9 | h9
     . have := unit_pos (show k <= 8 by omega)
       have := hu.out
       omega
     . omega
    subst h9
    go_wp2_with fail
    go_ret
    exact ⟨_, rfl, ho, hb, hok⟩
end Go.Proofs.YtemdkkphmldgjaaGreatDoor.Q
namespace Go.Proofs.YtemdkkphmldgjaaGreatDoor.Q
open Go.RowKit NatMath
def Tab (w : World) : Prop := Lib.TabIs Tryz.prog w "internal/strconv.uint64pow10" .u64 Lib.pow10Tab
theorem Tab.below {w w' : World} (h : Tab w) (hb : Below w.heap.size w w') : Tab w' := Lib.tabBelow_of_tabIs h w' hb
theorem appendUint_c (B : Nat) (v : Value) (l : List UInt8) (x : Nat) (w : World) (h : OwnB B w v l) (hB : B <= w.heap.size) (hl : l.length <= 1099511627776) (hx : x < 18446744073709551616) (ht : Tab w) :
    Calls Tryz.prog 201 #[v, .int .u64 x, .int .i64 10] w fun e w' => ∃ v', e = .returned v' /\ OwnB B w' v' (l ++ Lib.decDigits x) /\ Below B w w' /\ Lib.OthersKept 5 none w w' := by
 have hc : Calls Tryz.prog 236 #[v, .int .u64 x, .int .i64 10] w fun e w' => ∃ v', e = .returned v' /\ w'.ownsRow B 5 1 v' (l.length + (Lib.decDigits x).length) (Lib.byteCells l ++ Lib.byteCells (Lib.decDigits x)) /\ Below B w w' /\ Lib.OthersKept 5 none w w' := by
  rcases Nat.lt_or_ge x 100 with h1 | h1
  . exact Tryz.internal_strconv_AppendUint_10_small B l.length x h1 v (Lib.byteCells l) w h hB (by omega)
  . exact Tryz.internal_strconv_AppendUint_10_big B l.length x h1 hx v (Lib.byteCells l) w h hB (by omega) ht
 have HC := Lib.hid hc; clear hc
 go_enter Tryz.func201, Tryz.ntmps201
 go_wp2_with fail
 refine HC.out.mono ?_
 rintro e w' ⟨v', rfl, hown, hb, hok⟩
 go_wp2_with fail
 go_ret
 refine ⟨_, rfl, ?_, hb, hok⟩
 show w'.ownsRow B 5 1 v' _ _
 rw [Lib.byteCells_append, List.length_append]
 exact hown
theorem OwnB.string {B : Nat} {w : World} {v : Value} {l : List UInt8} (h : OwnB B w v l) : (convert 97 9 v).run Tryz.prog w = .ok (.string ⟨l.toArray⟩) w := by
 rcases h.2 with ⟨rfl, h0⟩ | ⟨g, cap, cur, rfl, hg, hh, hn, hc, hs, ht⟩
 . obtain rfl : l = [] := List.eq_nil_of_length_eq_zero h0
   exact Lib.run_convert_nil_bytes w _ _ 5 0 Tryz.underlying97 Tryz.underlying5 Tryz.underlying9
 . exact run_convert_bytes_back w _ _ 5 ⟨g, 0, none⟩ cap l Tryz.underlying97 Tryz.underlying5 Tryz.underlying9 (Lib.bytes_of_row hh (by simpa using ht))
def lenOf : Value -> Nat | .slice _ n _ => n | _ => 0
def Apart (v u : Value) : Prop := ∀ g, v.ownBlock = some g -> u.ownBlock ≠ some g
theorem ix22 {ao : Option Addr} {n c : Nat} {xs : List Int} {w : World} (h : Lst .u32 w ao n c xs) (i : Nat) (hi : i < n) :
    ∀ W, (Instr.indexAt 29 (.slice ao n c) (.int .i64 (i : Int))).run Tryz.prog W = .ok (.pointer (some (pt ao i))) W :=
 fun W => run_index (P := Tryz.prog) Tryz.underlying29 size60 h i hi W
theorem limbs_len_pos {m : Nat} : (limbs m).length = 0 ↔ m = 0 := by
 constructor
 . intro h
   rcases Nat.eq_zero_or_pos m with h0 | h0
   . exact h0
   . rw [limbs_pos (by omega)] at h; simp at h
 . rintro rfl; rw [limbs_zero]; rfl
theorem Own.apartKept {e : TypeId} {k : IntKind} {B : Nat} {w w' : World} {ao bo : Option Addr} {n c m d : Nat} {xs : List Int} (h : Own e k B w ao n c xs) (hg : w.grownBy w' (Value.slice bo m d).ownBlock) (ha : Apart (.slice bo m d) (.slice ao n c)) : Own e k B w' ao n c xs := by
 refine ⟨h.1.kept hg ?_, h.2⟩
 cases hb : (Value.slice bo m d).ownBlock with
 | none =>
  cases hv : (Value.slice ao n c).ownBlock with
  | none => exact Or.inl rfl
  | some g => exact Or.inr (by simp)
 | some g => exact Or.inr (ha g hb)
theorem Own.others {k : IntKind} {B : Nat} {w w' : World} {ao : Option Addr} {n c : Nat} {xs : List Int} (h : Own 144 k B w ao n c xs) (ho : Lib.OthersKept 5 none w w') : Own 144 k B w' ao n c xs := by
 refine ⟨⟨h.1.1, ?_⟩, h.2⟩
 rcases h.1.2 with h1 | ⟨g, cap, cur, hv, hg, hh, rest⟩
 . exact Or.inl h1
 . exact Or.inr ⟨g, cap, cur, hv, hg, ho g _ hh (by simp) (fun c fz e => by injection e with _ e2; exact absurd e2 (by decide)), rest⟩
theorem Own.lt {e : TypeId} {k : IntKind} {B : Nat} {w : World} {ao : Option Addr} {n c : Nat} {xs : List Int} (h : Own e k B w ao n c xs) : ∀ g, (Value.slice ao n c).ownBlock = some g -> B <= g /\ g < w.heap.size := h.1.lt
theorem Head.block {ao ao' : Option Addr} {c n' c' : Nat} (n : Nat) (h : Head ao c ao' n' c') : ∀ g, (Value.slice ao' n' c').ownBlock = some g -> (Value.slice ao n c).ownBlock = some g := by
 intro g hg
 rcases h with ⟨rfl, rfl, rfl⟩ | ⟨rfl, rfl⟩
 . simp [Value.ownBlock] at hg
 . cases ao' with
   | none => simp [Value.ownBlock] at hg
   | some a => simpa [Value.ownBlock] using hg
theorem text_c (ao : Option Addr) (n c : Nat) (xs : List Int) (w : World) (h : Lst .u32 w ao n c xs) (hn : n <= 1073741824) (htab : Tab w) :
    Calls Tryz.prog 147 #[.slice ao n c] w fun e w' => e = .returned (.string ⟨(Lib.decDigits (val xs)).toArray⟩) /\ Below w.heap.size w w' := by
 obtain ⟨i0, hi, hz0, hz1, hz2⟩ := info_parts info60
 obtain ⟨N, HN⟩ : ∃ N, Hid (N = val xs) := ⟨_, rfl⟩
 rw [<- HN.out]
 have hNlt : N < 4294967296 ^ n := by
  have := val_lt h.ok
  rwa [h.len, <- HN.out] at this
 have HNlt := Lib.hid hNlt; clear hNlt
 have hnc := norm_c ao n c xs w h hn
 rw [<- HN.out] at hnc
 have HNC := Lib.hid hnc; clear hnc
 go_enter Tryz.func147, Tryz.ntmps147
 go_wp2_with fail
 refine HNC.out.mono ?_
 rintro e w1 ⟨a1, n1, c1, hn1, rfl, o1, hb1⟩
 have hl1 := o1.len
 have hpos := limbs_len_pos (m := N)
 rw [hl1] at hpos
 clear hl1
 by_cases hN0 : N = 0
 . have hn0 : n1 = 0 := hpos.2 hN0
   subst hN0
   subst hn0
   clear hpos
   go_wp2_with fail
   go_ret
   refine ⟨?_, hb1⟩
   have e : Lib.decDigits 0 = [48] := by rw [Lib.decDigits_one (by omega)]; rfl
   rw [e]; rfl
 . have hn0 : 0 < n1 := by
    rcases Nat.eq_zero_or_pos n1 with h0 | h0
    . exact absurd (hpos.1 h0) hN0
    . exact h0
   clear hpos
   have hnb : ((n1 : Int) == 0) = false := by simp; omega
   have HN0 := Lib.hid hN0; clear hN0
   have hst : Own 144 .u32 w.heap.size w1 a1 n1 c1 (limbs (partN N 0)) := by rw [partN_zero]; exact o1
   have hcs : Own 144 .u32 w.heap.size w1 none 0 0 (chL N 0) := by
    have e0 : chL N 0 = [] := rfl
    rw [e0]
    exact ⟨World.ownsRow_nil _ _ _ _, fun _ hx => by cases hx⟩
   go_wp2_with fail
   go_loopw [3, 4] (fun s3 s4 wr => ∃ (k : Nat) (a : Option Addr) (m d : Nat) (ac : Option Addr) (cc : Nat), s3 = .slice a m d /\ s4 = .slice ac k cc /\ k <= 2 * n + 1 /\ m <= n /\ Own 144 .u32 w.heap.size wr a m d (limbs (partN N k)) /\ Own 144 .u32 w.heap.size wr ac k cc (chL N k) /\ Apart (.slice a m d) (.slice ac k cc) /\ (k = 0 \/ partN N (k - 1) ≠ 0) /\ Below w.heap.size w wr)
     (fun _ s4 _ => 2 * n + 1 - lenOf s4)
   case atStart => exact ⟨0, a1, n1, c1, none, 0, rfl, rfl, by omega, hn1, hst, hcs, fun g _ hg => (by cases hg), Or.inl rfl, hb1⟩
   case round =>
    obtain ⟨k, a, m, d, ac, cc, rfl, rfl, hk, hm, ho, hc, hap, hk0, hb⟩ := hrel
    have hml := ho.len
    have hpos := limbs_len_pos (m := partN N k)
    rw [hml] at hpos
    clear hml
    have hmd := ho.lst.cap
    have hdr := ho.lst.room
    by_cases hq : partN N k = 0
    . -- all chunks are there
      have hm0 : m = 0 := hpos.2 hq
      subst hm0
      clear hpos
      have hkpos : 0 < k := by
       rcases Nat.eq_zero_or_pos k with h0 | h0
       . subst h0; rw [partN_zero] at hq; exact absurd hq HN0.out
       . exact h0
      have hk1 : partN N (k - 1) ≠ 0 := by
       rcases hk0 with h0 | h0
       . omega
       . exact h0
      have hcr := hc.lst.room
      have hccap := hc.lst.cap
      have hia := ix22 hc.lst (k - 1) (by omega)
      rw [show ((k - 1 : Nat) : Int) = (k : Int) - 1 from by omega] at hia
      have htop : chunkN N (k - 1) = partN N (k - 1) := by
       have := partN_div N (k - 1)
       rw [show k - 1 + 1 = k by omega, hq] at this
       unfold chunkN
       omega
      have hcl := hc.lst.cell (k - 1) (by omega)
      rw [chL_getD N k (k - 1) (by omega)] at hcl
      obtain ⟨x, hx⟩ : ∃ x, Hid (x = chunkN N (k - 1)) := ⟨_, rfl⟩
      have hx9 := chunkN_lt N (k - 1)
      rw [<- hx.out] at hcl hx9
      have HTOP := Lib.hid htop; have HQ := Lib.hid hq; have HK1 := Lib.hid hk1
      clear htop hq hk1 hk0 hap ho hst hcs
      have hnil : OwnB w.heap.size wr (.slice none 0 0) [] := World.ownsRow_nil _ _ _ _
      have HAU := Lib.hid (appendUint_c w.heap.size (.slice none 0 0) [] x wr hnil hb.size (by simp) (by omega) (htab.below hb))
      clear hnil
      go_wp2_with fail
      refine HAU.out.mono ?_
      rintro e w2 ⟨v2, rfl, ho2, hb2, hok2⟩
      have hc2 : Own 144 .u32 w.heap.size w2 ac k cc (chL N k) := hc.others hok2
      have ho2' : OwnB w.heap.size w2 v2 (Lib.decDigits (partN N (k - 1))) := by
       rw [<- HTOP.out, <- hx.out]; simpa using ho2
      have hbb := hb.trans hb2
      clear ho2 hb2 hok2 hc hcl hia HAU
      go_wp2_with fail
      go_loopw [6, 7] (fun s6 i wr => ∃ (j : Nat) (v : Value), s6 = v /\ i = .int .i64 ((j : Int) - 1) /\ j < k /\ OwnB w.heap.size wr v (Lib.decDigits (partN N j)) /\ Own 144 .u32 w.heap.size wr ac k cc (chL N k) /\ Below w.heap.size w wr)
        (fun _ i _ => (intOf i + 1).toNat)
      case atStart => exact ⟨k - 1, v2, rfl, by go_num, by omega, ho2', hc2, hbb⟩
      case round =>
       obtain ⟨j, v, rfl, rfl, hj, hov, hcv, hbv⟩ := hrel
       by_cases hj0 : 0 < j
       . have hib := ix22 hcv.lst (j - 1) (by omega)
         rw [show ((j - 1 : Nat) : Int) = (j : Int) - 1 from by omega] at hib
         have hcl2 := hcv.lst.cell (j - 1) (by omega)
         rw [chL_getD N k (j - 1) (by omega)] at hcl2
         obtain ⟨y, hy⟩ : ∃ y, Hid (y = chunkN N (j - 1)) := ⟨_, rfl⟩
         have hy9 := chunkN_lt N (j - 1)
         rw [<- hy.out] at hcl2 hy9
         have hne : partN N (j - 1 + 1) ≠ 0 := by
          rw [show j - 1 + 1 = j by omega]
          intro h0
          exact HK1.out (partN_mono h0 (by omega))
         have hstep : Lib.decDigits (partN N (j - 1)) = Lib.decDigits (partN N j) ++ padTo y 9 := by
          have := decDigits_step hne
          rwa [show j - 1 + 1 = j by omega, <- hy.out] at this
         have hlen : (Lib.decDigits (partN N j)).length <= 1099511627776 := by
          have := digits_le (Nat.lt_of_le_of_lt (partN_le N j) HNlt.out)
          omega
         have HSTEP := Lib.hid hstep
         have HAC := Lib.hid (appendChunk_c w.heap.size u6 (Lib.decDigits (partN N j)) y wr hov hbv.size hlen (by omega))
         clear hstep hne hlen
         go_wp2_with fail
         refine HAC.out.mono ?_
         rintro e w3 ⟨v3, rfl, ho3, hb3, hok3⟩
         have hc3 := hcv.others hok3
         have hbb3 := hbv.trans hb3
         rw [<- HSTEP.out] at ho3
         clear hok3 hb3 hcl2 hib HAC
         go_wp2_with fail
         go_roundw
         case rel => exact ⟨j - 1, v3, rfl, by go_num, by omega, ho3, hc3, hbb3⟩
         case measure => simp [intOf]; omega
       . obtain rfl : j = 0 := by omega
         rw [partN_zero] at hov
         have hconv := hov.string
         go_wp2_with fail
         go_ret
         exact ⟨rfl, hbv⟩
    . -- one chunk more
      have hk2 := partN_chunks HNlt.out hq
      have hm0 : 0 < m := by
       rcases Nat.eq_zero_or_pos m with h0 | h0
       . exact absurd (hpos.1 h0) hq
       . exact h0
      have hw := Lib.hid (ho.lt)
      have hdw := divideByWord_c w.heap.size a m d (limbs (partN N k)) 1000000000 wr ho (by omega) (by omega)
      rw [val_limbs] at hdw
      obtain ⟨x, hx⟩ : ∃ x, Hid (x = chunkN N k) := ⟨_, rfl⟩
      have hx9 := chunkN_lt N k
      rw [show partN N k % 1000000000 = x from hx.out.symm, partN_div, show ((1000000000 : Nat) : Int) = 1000000000 from rfl] at hdw
      rw [<- hx.out] at hx9
      have HDW := Lib.hid hdw
      have HQ := Lib.hid hq
      clear hdw hq hpos hk0 hst hcs
      go_wp2_with fail
      refine HDW.out.mono ?_
      rintro e w2 ⟨ys, rfl, oy, hval, hgr⟩
      have hc2 := hc.apartKept hgr hap
      have hb2 : Below w.heap.size w w2 := hb.grown hgr hb.size (fun g hg => (hw.out g hg).1)
      have hlt2 : ∀ g, (Value.slice a m d).ownBlock = some g -> g < w2.heap.size := fun g hg => (oy.lt g hg).2
      have hcl2 : ∀ g, (Value.slice ac k cc).ownBlock = some g -> w.heap.size <= g := fun g hg => (hc2.lt g hg).1
      have HLT := Lib.hid hlt2; have HCL := Lib.hid hcl2; have HAP := Lib.hid hap; have HVAL := Lib.hid hval
      have HC := Lib.hid (World.ownsRow.alloc hc2.1 (.cells #[Value.int .u32 x] 144))
      have HW := Lib.hid hc2.2
      have HOY := Lib.hid oy
      have HB2 := Lib.hid hb2
      have hsz2 := hb2.size
      clear hgr hlt2 hcl2 hap hval hc2 oy hc ho hw hb hb2 HDW
      go_wp2_with (at_builtin; refine wpList_append_own_at _ rfl _ _ 29 rfl w.heap.size 144 i0 (.int .u32 0) 1 4 Tryz.underlying29 hi hz0 hz1 hz2 rfl (by decide) _ _ _ rfl HC.out ⟨w2.heap.size, 0, none⟩ 1 1 [.int .u32 x] rfl rfl ?c1 ?c2 ?c3 ?c4 ?c5 ?_)
      case c1 =>
       intro j u hj
       match j, hj with
       | 0, hj => simp at hj; subst hj; simp [Addr.add]
      case c2 => intro u hu; simp at hu; subst hu; rfl
      case c3 => unfold maxLen; omega
      case c4 => omega
      case c5 => simp; omega
      intro v2 w3 hown hgr3 _ hblk
      have hv2 : ∃ ac' cc', v2 = .slice ac' (k + 1) cc' := by
       rcases hown.2 with ⟨_, h0⟩ | ⟨g, cap, _, hv, _⟩
       . omega
       . exact ⟨_, cap, hv⟩
      obtain ⟨ac', cc', rfl⟩ := hv2
      have oc3 : Own 144 .u32 w.heap.size w3 ac' (k + 1) cc' (chL N (k + 1)) := by
       refine ⟨?_, fun y hy => ?_⟩
       . rw [chL_succ, List.map_append, <- hx.out]
         exact hown
       . have := chL_bound N (k + 1) y hy
         exact wf_u32 this.1 (by omega)
      have hap3 : Apart (.slice a m d) (.slice ac' (k + 1) cc') := by
       intro g hg hg2
       rcases hblk with hb3 | hb3
       . rw [hb3] at hg2
         exact HAP.out g hg hg2
       . rw [hb3] at hg2
         have := HLT.out g hg
         simp at hg2
         omega
      have oy3 : Own 144 .u32 w.heap.size w3 a m d ys := by
       have hal : Own 144 .u32 w.heap.size (w2.alloc (.cells #[Value.int .u32 x] 144)) a m d ys := ⟨World.ownsRow.alloc HOY.out.1 _, HOY.out.2⟩
       exact hal.apartKept hgr3 (fun g hg hg2 => HAP.out g hg2 hg)
      have hb3 : Below w.heap.size w w3 := (HB2.out.alloc hsz2 _).grown hgr3 (by simp; omega) HCL.out
      have hlim : limbs (val ys) = limbs (partN N (k + 1)) := by rw [HVAL.out]
      have HLIM := Lib.hid hlim
      clear hown hgr3 hblk HC HOY hlim
      go_wp2_with fail
      refine (trim_c _ _ _ ys _ oy3.lst).mono ?_
      rintro e w' ⟨rfl, a4, m4, d4, rfl, t4, hh4⟩
      have hlen4 := t4.len
      have hle4 := limbs_val_length oy3.lst.ok
      rw [hlen4, oy3.len] at hle4
      have o4 : Own 144 .u32 w.heap.size w3 a4 m4 d4 (limbs (partN N (k + 1))) := by
       rw [<- HLIM.out, limbs_take oy3.lst.ok, hlen4]
       exact oy3.head hh4 hle4
      have hap4 : Apart (.slice a4 m4 d4) (.slice ac' (k + 1) cc') := fun g hg => hap3 g (hh4.block m g hg)
      clear hlen4 t4 hh4 hap3 oy3
      go_wp2_with fail
      go_roundw
      case rel => exact ⟨k + 1, a4, m4, d4, ac', cc', rfl, rfl, by omega, by omega, o4, oc3, hap4, Or.inr HQ.out, hb3⟩
      case measure => simp [lenOf]; omega
end Go.Proofs.YtemdkkphmldgjaaGreatDoor.Q
namespace Go.Proofs.YtemdkkphmldgjaaGreatDoor
open Go.RowKit Lx
def bCells : List Value := blkRules.flatMap fun r => [.string (stg r.kind), .int .i64 r.most, .bool r.named]
def fCells : List Value := fldRules.flatMap fun r => [.string (stg r.kind), .string (stg r.key), .int .i64 r.form, .int .i64 r.least, .int .i64 r.most]
structure Tabs (w : World) : Prop where
 pow : Q.Tab w
 err : ∃ tp p, w.var? Tryz.prog "strconv.ErrSyntax" = some #[.iface tp p]
 blk : ∃ t fr, w.heap[0]? = some (.cells bCells.toArray t fr)
 fld : ∃ t fr, w.heap[1]? = some (.cells fCells.toArray t fr)
theorem Tabs.below {w w' : World} (h : Tabs w) (hb : Below w.heap.size w w') : Tabs w' := by
 have hl : ∀ {g : Nat} {o : Obj}, w.heap[g]? = some o -> g < w.heap.size := fun h => (Array.getElem?_eq_some_iff.1 h).1
 refine ⟨Q.Tab.below h.pow hb, ?_, ?_, ?_⟩
 . obtain ⟨tp, p, he⟩ := h.err
   refine ⟨tp, p, ?_⟩
   unfold World.var? at he |-
   cases hg : Tryz.prog.globalNamed "strconv.ErrSyntax" with
   | none => rw [hg] at he; cases he
   | some g =>
    rw [hg] at he
    simp only [Option.bind_some] at he |-
    have hlt : g < w.heap.size := by
     rcases Nat.lt_or_ge g w.heap.size with h1 | h1
     . exact h1
     . rw [Array.getElem?_eq_none h1] at he; cases he
    rw [hb.block g hlt]
    exact he
 . obtain ⟨t, fr, he⟩ := h.blk
   exact ⟨t, fr, (hb.block _ (hl he)).trans he⟩
 . obtain ⟨t, fr, he⟩ := h.fld
   exact ⟨t, fr, (hb.block _ (hl he)).trans he⟩
theorem new_strs (w : World) (vs : List (List UInt8)) (h0 : 0 < vs.length) (h1 : vs.length <= 100) : ∃ V, w.alloc (.cells (vs.map fun v => Value.string (stg v)).toArray 9) = V /\ StrL (ownF w.heap.size [9]) V (some ⟨w.heap.size, 0, none⟩) vs.length vs.length vs /\ Below w.heap.size w V := by
 refine ⟨_, rfl, ?_, (Below.refl _ _).alloc (Nat.le_refl _) _⟩
 have ho := World.ownsRow_lit (e := 9) (base := w.heap.size) (size := 1) w (vs.map fun v => Value.string (stg v)).toArray vs.length (Nat.le_refl _) (by unfold maxLen; omega) (by simp)
 have := Row.own ho (by decide)
 simpa [StrL] using this
theorem words_c (k : List UInt8) (w : World) :
    Calls Tryz.prog 197 #[.string (stg k)] w fun e w' => ∃ ao n c, e = .returned (.slice ao n c) /\ StrL anyF w' ao n c (wordsOf k) /\ Below w.heap.size w w' := by
 by_cases h1 : k = wMethod
 . subst h1
   obtain ⟨V, e1, SL, BV⟩ := new_strs w [[], vIrv, vMeek, vGregory] (by decide) (by decide)
   have e2 : w.alloc (.cells #[.string ⟨#[]⟩, .string ⟨#[105, 114, 118]⟩, .string ⟨#[109, 101, 101, 107]⟩, .string ⟨#[103, 114, 101, 103, 111, 114, 121]⟩] 9) = V := e1
   have HS := Lib.hid (Row.mono SL (T := anyF) (fun _ _ => trivial))
   have HB := Lib.hid BV
   clear SL BV e1
   have b1 : ((stg wMethod).toList == [109, 101, 116, 104, 111, 100]) = true := lit_yes wMethod
   go_enter Tryz.func197, Tryz.ntmps197
   go_wp2_with fail
   go_ret
   exact ⟨_, _, _, rfl, HS.out, HB.out⟩
 have b1 : ((stg k).toList == [109, 101, 116, 104, 111, 100]) = false := lit_no h1
 by_cases h2 : k = wTies
 . subst h2
   obtain ⟨V, e1, SL, BV⟩ := new_strs w [[], vBackwards, vForwards, vLot] (by decide) (by decide)
   have e2 : w.alloc (.cells #[.string ⟨#[]⟩, .string ⟨#[98, 97, 99, 107, 119, 97, 114, 100, 115]⟩, .string ⟨#[102, 111, 114, 119, 97, 114, 100, 115]⟩, .string ⟨#[108, 111, 116]⟩] 9) = V := e1
   have HS := Lib.hid (Row.mono SL (T := anyF) (fun _ _ => trivial))
   have HB := Lib.hid BV
   clear SL BV e1
   have b2 : ((stg wTies).toList == [116, 105, 101, 115]) = true := lit_yes wTies
   go_enter Tryz.func197, Tryz.ntmps197
   go_wp2_with fail
   go_ret
   exact ⟨_, _, _, rfl, HS.out, HB.out⟩
 have b2 : ((stg k).toList == [116, 105, 101, 115]) = false := lit_no h2
 by_cases h3 : k = wOvervote
 . subst h3
   obtain ⟨V, e1, SL, BV⟩ := new_strs w [[], vStop, wSkip] (by decide) (by decide)
   have e2 : w.alloc (.cells #[.string ⟨#[]⟩, .string ⟨#[115, 116, 111, 112]⟩, .string ⟨#[115, 107, 105, 112]⟩] 9) = V := e1
   have HS := Lib.hid (Row.mono SL (T := anyF) (fun _ _ => trivial))
   have HB := Lib.hid BV
   clear SL BV e1
   have b3 : ((stg wOvervote).toList == [111, 118, 101, 114, 118, 111, 116, 101]) = true := lit_yes wOvervote
   go_enter Tryz.func197, Tryz.ntmps197
   go_wp2_with fail
   go_ret
   exact ⟨_, _, _, rfl, HS.out, HB.out⟩
 have b3 : ((stg k).toList == [111, 118, 101, 114, 118, 111, 116, 101]) = false := lit_no h3
 by_cases h4 : k = wSkip
 . subst h4
   obtain ⟨V, e1, SL, BV⟩ := new_strs w [[], vClose, vStop, vTwo] (by decide) (by decide)
   have e2 : w.alloc (.cells #[.string ⟨#[]⟩, .string ⟨#[99, 108, 111, 115, 101]⟩, .string ⟨#[115, 116, 111, 112]⟩, .string ⟨#[116, 119, 111]⟩] 9) = V := e1
   have HS := Lib.hid (Row.mono SL (T := anyF) (fun _ _ => trivial))
   have HB := Lib.hid BV
   clear SL BV e1
   have b4 : ((stg wSkip).toList == [115, 107, 105, 112]) = true := lit_yes wSkip
   go_enter Tryz.func197, Tryz.ntmps197
   go_wp2_with fail
   go_ret
   exact ⟨_, _, _, rfl, HS.out, HB.out⟩
 have b4 : ((stg k).toList == [115, 107, 105, 112]) = false := lit_no h4
 have hw : Hid (wordsOf k = []) := by show _ = _; unfold wordsOf; rw [if_neg h1, if_neg h2, if_neg h3, if_neg h4]
 obtain ⟨K, hK⟩ : ∃ K, Hid (stg k = K) := ⟨_, rfl⟩
 rw [hK.out] at b1 b2 b3 b4 |-
 clear h1 h2 h3 h4
 go_enter Tryz.func197, Tryz.ntmps197
 go_wp2_with fail
 go_ret
 exact ⟨none, 0, 0, rfl, by rw [hw.out]; exact Row.nil _ _ _, Below.refl _ _⟩
theorem codeOf_c (k v : List UInt8) (w : World) :
    Calls Tryz.prog 177 #[.string (stg k), .string (stg v)] w fun e w' => e = .returned (.int .i64 (codeOf k v)) /\ Below w.heap.size w w' := by
 have HW := Lib.hid (words_c k w)
 have hlo := idxI_lo (wordsOf k) v
 have hmx := Lib.hid (idxI_max (wordsOf k) v)
 have hle := codeOf_le k v
 obtain ⟨K, hK⟩ : ∃ K, Hid (stg k = K) := ⟨_, rfl⟩
 obtain ⟨V, hV⟩ : ∃ K, Hid (stg v = K) := ⟨_, rfl⟩
 rw [hK.out] at HW
 rw [hK.out, hV.out]
 obtain ⟨R, hR⟩ : ∃ R, Hid (idxI (wordsOf k) v = R) := ⟨_, rfl⟩
 rw [hR.out] at hlo hmx
 obtain ⟨C, hC⟩ : ∃ C, Hid (codeOf k v = C) := ⟨_, rfl⟩
 rw [hC.out] at hle |-
 have hm : Hid (max 0 R = (C : Int)) := by show _ = _; rw [hmx.out, <- hC.out]; rfl
 have hmr : R <= 3 := by have := hm.out; omega
 clear hmx
 go_enter Tryz.func177, Tryz.ntmps177
 go_wp2_with fail
 refine HW.out.mono ?_
 rintro e w1 ⟨ao, n, c, rfl, SL, B1⟩
 have HI := sIndex_c (wordsOf k) v ao n c w1 SL
 rw [hV.out, hR.out] at HI
 replace HI := Lib.hid HI
 replace B1 := Lib.hid B1
 clear SL HW
 go_wp2_with fail
 refine HI.out.mono ?_
 rintro e w2 ⟨rfl, rfl⟩
 clear HI
 go_wp2_with fail
 go_ret
 exact ⟨by rw [<- hm.out]; rfl, B1.out⟩
theorem scText_c (v : List UInt8) (m : Nat) (w : World) (hm : m <= 1000) :
    Calls Tryz.prog 59 #[.string (stg v), .int .i64 (m : Int)] w fun e w' => e = .returned (.bool (textB v m)) /\ Below w.heap.size w w' := by
 have hl : (stg v).size = v.length := by rw [<- bys_len, bys_stg]
 by_cases h : v.length <= m
 . have HQ := quote_c (stg v) w (by omega)
   rw [bys_stg] at HQ
   have hR : textB v m = (quoV v).2 := by
    unfold textB quoV
    rw [decide_eq_true h, Bool.true_and]
    cases hv : v.all plainB <;> simp
   rw [hR]
   obtain ⟨R, hRR⟩ : ∃ R, Hid ((quoV v).2 = R) := ⟨_, rfl⟩
   obtain ⟨T, hT⟩ : ∃ R, Hid ((quoV v).1 = R) := ⟨_, rfl⟩
   rw [hRR.out, hT.out] at HQ
   rw [hRR.out]
   obtain ⟨K, hK⟩ : ∃ K, Hid (stg v = K) := ⟨_, rfl⟩
   rw [hK.out] at HQ hl |-
   have hkm : K.size <= m := by omega
   have b1 : decide (m < K.size) = false := decide_eq_false (by omega)
   have b2 : decide ((m : Int) < (K.size : Int)) = false := decide_eq_false (by omega)
   replace HQ := Lib.hid HQ
   clear h hR hl
   go_enter Tryz.func59, Tryz.ntmps59
   go_wp2_with fail
   refine HQ.out.mono ?_
   rintro e w1 ⟨rfl, B1⟩
   replace B1 := Lib.hid B1
   clear HQ
   go_wp2_with fail
   go_ret
   exact ⟨rfl, B1.out⟩
 . have hR : textB v m = false := by
    unfold textB
    rw [decide_eq_false h, Bool.false_and]
   rw [hR]
   obtain ⟨K, hK⟩ : ∃ K, Hid (stg v = K) := ⟨_, rfl⟩
   rw [hK.out] at hl |-
   have b1 : decide (m < K.size) = true := decide_eq_true (by omega)
   have b2 : decide ((m : Int) < (K.size : Int)) = true := decide_eq_true (by omega)
   have hkm : m < K.size := by omega
   clear h hR hl
   go_enter Tryz.func59, Tryz.ntmps59
   go_wp2_with fail
   go_ret
   exact ⟨rfl, Below.refl _ _⟩
theorem scName_c (v : List UInt8) (w : World) :
    Calls Tryz.prog 217 #[.string (stg v)] w fun e w' => e = .returned (.bool (nameB v)) /\ Below w.heap.size w w' := by
 have HT := Lib.hid (scText_c v 24 w (by omega))
 by_cases h : v = []
 . subst h
   clear HT
   have t0 : (stg []).toList = [] := by rw [ByteArray.toList_eq]; rfl
   have t1 : (stg []).toList.isEmpty = true := by rw [t0]; rfl
   go_enter Tryz.func217, Tryz.ntmps217
   go_wp2_with fail
   go_ret
   exact ⟨rfl, Below.refl _ _⟩
 . have hne : (stg v).toList ≠ [] := by rw [ByteArray.toList_eq]; exact h
   have hie : (stg v).toList.isEmpty = false := by rw [List.isEmpty_eq_false_iff]; exact hne
   have hR : nameB v = textB v 24 := by
    unfold nameB
    rw [List.isEmpty_eq_false_iff.2 h]
    rfl
   rw [hR]
   obtain ⟨R, hRR⟩ : ∃ R, Hid (textB v 24 = R) := ⟨_, rfl⟩
   obtain ⟨K, hK⟩ : ∃ K, Hid (stg v = K) := ⟨_, rfl⟩
   rw [hRR.out, hK.out] at HT
   rw [hRR.out]
   rw [hK.out] at hne hie |-
   clear h hR
   go_enter Tryz.func217, Tryz.ntmps217
   go_wp2_with fail
   refine HT.out.mono ?_
   rintro e w1 ⟨rfl, B1⟩
   replace B1 := Lib.hid B1
   clear HT
   go_wp2_with fail
   go_ret
   exact ⟨rfl, B1.out⟩
theorem first_at {c : UInt8} {r : List UInt8} : ∀ W, (Instr.index 9 (.string (stg (c :: r))) (.int .i64 0)).run Tryz.prog W = .ok (.int .u8 (c.toNat : Int)) W := fun W => by
 obtain ⟨d, hd, x, _⟩ := at_0 (stg (c :: r)) (by rw [<- bys_len, bys_stg]; simp)
 have hd := hd.out
 rw [bys_stg] at hd
 injection hd with hd _
 subst hd
 exact x W
theorem scWord_c (v : List UInt8) (w : World) (hv : v.length <= 1000000) :
    Calls Tryz.prog 215 #[.string (stg v)] w fun e w' => e = .returned (.bool (wordB v)) /\ Below w.heap.size w w' := by
 have HB := bare_c (stg v) w (by rw [<- bys_len, bys_stg]; exact hv)
 rw [bys_stg] at HB
 have hW := word_of v
 cases hb : bareB v with
 | false =>
  rw [hb] at hW HB
  rw [hW, Bool.false_and]
  replace HB := Lib.hid HB
  obtain ⟨K, hK⟩ : ∃ K, Hid (stg v = K) := ⟨_, rfl⟩
  rw [hK.out] at HB |-
  clear hW hb hv
  go_enter Tryz.func215, Tryz.ntmps215
  go_wp2_with fail
  refine HB.out.mono ?_
  rintro e w1 ⟨rfl, q, rfl⟩
  clear HB
  go_wp2_with fail
  go_ret
  exact ⟨rfl, below_drewN (Below.refl _ _) _⟩
 | true =>
  obtain ⟨c, r, rfl⟩ := bare_pos hb
  rw [hb] at hW HB
  rw [hW, Bool.true_and]
  have i1 := first_at (c := c) (r := r)
  obtain ⟨K, hK⟩ : ∃ K, Hid (stg (c :: r) = K) := ⟨_, rfl⟩
  rw [hK.out] at HB i1 |-
  replace HB := Lib.hid HB
  have hc : c.toNat < 256 := c.toNat_lt
  obtain ⟨z, hz⟩ : ∃ z, Hid (c.toNat = z) := ⟨_, rfl⟩
  rw [hz.out] at i1 hc
  have hG : Hid (geA (c :: r) = decide ((97 : Int) <= (z : Int))) := by
   show decide (97 <= c.toNat) = _
   rw [hz.out, Bool.eq_iff_iff, decide_eq_true_eq, decide_eq_true_eq]
   omega
  rw [hG.out]
  clear hW hb hv hG
  go_enter Tryz.func215, Tryz.ntmps215
  go_wp2_with fail
  refine HB.out.mono ?_
  rintro e w1 ⟨rfl, q, rfl⟩
  clear HB
  go_wp2_with fail
  go_ret
  exact ⟨rfl, below_drewN (Below.refl _ _) _⟩
end Go.Proofs.YtemdkkphmldgjaaGreatDoor
