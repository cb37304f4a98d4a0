/-
  nat.Text, strconv.AppendUint at base ten.
-/
import Derived.Test.YtmojcnlddfijjaaGreatDoorNatWord
import Derived.Test.YtmojcnlddfijjaaGreatDoorNatChunk
import Derived.Test.YtmojcnlddfijjaaGreatDoorShelf
import Derived.Maps.AppendAt
import Derived.Lib.BufferRead
namespace Go.Proofs.YtmojcnlddfijjaaGreatDoor
open Go.RowKit NatMath

/-- The table of powers of ten lies where the program's text lays it. -/
def Tab (w : World) : Prop := Lib.TabIs Tryz.prog w "internal/strconv.uint64pow10" .u64 Lib.pow10Tab
theorem Tab.below {w w' : World} (h : Tab w) (hb : Below w.heap.size w w') : Tab w' := Lib.tabBelow_of_tabIs h w' hb

set_option maxHeartbeats 800000 in
theorem appendUint_c (B : Nat) (v : Value) (l : List UInt8) (x : Nat) (w : World) (h : OwnB B w v l) (hB : B ≤ w.heap.size) (hl : l.length ≤ 1099511627776) (hx : x < 18446744073709551616) (ht : Tab w) :
    Calls Tryz.prog 74 #[v, .int .u64 x, .int .i64 10] w fun e w' => ∃ v', e = .returned v' ∧ OwnB B w' v' (l ++ Lib.decDigits x) ∧ Below B w w' ∧ Lib.OthersKept 5 none w w' := by
  have hc : Calls Tryz.prog 88 #[v, .int .u64 x, .int .i64 10] w fun e w' => ∃ v', e = .returned v' ∧ w'.ownsRow B 5 1 v' (l.length + (Lib.decDigits x).length) (Lib.byteCells l ++ Lib.byteCells (Lib.decDigits x)) ∧ Below B w w' ∧ Lib.OthersKept 5 none w w' := by
    rcases Nat.lt_or_ge x 100 with h1 | h1
    · exact Tryz.internal_strconv_AppendUint_10_small B l.length x h1 v (Lib.byteCells l) w h hB (by omega)
    · exact Tryz.internal_strconv_AppendUint_10_big B l.length x h1 hx v (Lib.byteCells l) w h hB (by omega) ht
  have HC := Lib.hid hc; clear hc
  go_enter Tryz.func74, Tryz.ntmps74
  go_wp2_with fail
  refine HC.out.mono ?_
  rintro e w' ⟨v', rfl, hown, hb, hok⟩
  go_wp2_with fail
  go_ret
  refine ⟨_, rfl, ?_, hb, hok⟩
  show w'.ownsRow B 5 1 v' _ _
  rw [Lib.byteCells_append, List.length_append]
  exact hown

/-- 'string(b)'. -/
theorem OwnB.string {B : Nat} {w : World} {v : Value} {l : List UInt8} (h : OwnB B w v l) : (convert 91 9 v).run Tryz.prog w = .ok (.string ⟨l.toArray⟩) w := by
  rcases h.2 with ⟨rfl, h0⟩ | ⟨g, cap, cur, rfl, hg, hh, hn, hc, hs, ht⟩
  · obtain rfl : l = [] := List.eq_nil_of_length_eq_zero h0
    exact Lib.run_convert_nil_bytes w _ _ 5 0 Tryz.underlying91 Tryz.underlying5 Tryz.underlying9
  · exact run_convert_bytes_back w _ _ 5 ⟨g, 0, none⟩ cap l Tryz.underlying91 Tryz.underlying5 Tryz.underlying9 (Lib.bytes_of_row hh (by simpa using ht))

def lenOf : Value → Nat | .slice _ n _ => n | _ => 0

/-- Two owned slices lie in different blocks. -/
def Apart (v u : Value) : Prop := ∀ g, v.ownBlock = some g → u.ownBlock ≠ some g

theorem ix22 {ao : Option Addr} {n c : Nat} {xs : List Int} {w : World} (h : Lst .u32 w ao n c xs) (i : Nat) (hi : i < n) :
    ∀ W, (Instr.indexAt 22 (.slice ao n c) (.int .i64 (i : Int))).run Tryz.prog W = .ok (.pointer (some (pt ao i))) W :=
  fun W => run_index (P := Tryz.prog) Tryz.underlying22 size60 h i hi W

theorem limbs_len_pos {m : Nat} : (limbs m).length = 0 ↔ m = 0 := by
  constructor
  · intro h
    rcases Nat.eq_zero_or_pos m with h0 | h0
    · exact h0
    · rw [limbs_pos (by omega)] at h; simp at h
  · rintro rfl; rw [limbs_zero]; rfl

theorem Own.apartKept {e : TypeId} {k : IntKind} {B : Nat} {w w' : World} {ao bo : Option Addr} {n c m d : Nat} {xs : List Int} (h : Own e k B w ao n c xs) (hg : w.grownBy w' (Value.slice bo m d).ownBlock) (ha : Apart (.slice bo m d) (.slice ao n c)) : Own e k B w' ao n c xs := by
  refine ⟨h.1.kept hg ?_, h.2⟩
  cases hb : (Value.slice bo m d).ownBlock with
  | none =>
    cases hv : (Value.slice ao n c).ownBlock with
    | none => exact Or.inl rfl
    | some g => exact Or.inr (by simp)
  | some g => exact Or.inr (ha g hb)

theorem Own.others {k : IntKind} {B : Nat} {w w' : World} {ao : Option Addr} {n c : Nat} {xs : List Int} (h : Own 66 k B w ao n c xs) (ho : Lib.OthersKept 5 none w w') : Own 66 k B w' ao n c xs := by
  refine ⟨⟨h.1.1, ?_⟩, h.2⟩
  rcases h.1.2 with h1 | ⟨g, cap, cur, hv, hg, hh, rest⟩
  · exact Or.inl h1
  · exact Or.inr ⟨g, cap, cur, hv, hg, ho g _ hh (by simp) (fun c fz e => by injection e with _ e2; exact absurd e2 (by decide)), rest⟩

theorem Own.lt {e : TypeId} {k : IntKind} {B : Nat} {w : World} {ao : Option Addr} {n c : Nat} {xs : List Int} (h : Own e k B w ao n c xs) : ∀ g, (Value.slice ao n c).ownBlock = some g → B ≤ g ∧ g < w.heap.size := h.1.lt

theorem Head.block {ao ao' : Option Addr} {c n' c' : Nat} (n : Nat) (h : Head ao c ao' n' c') : ∀ g, (Value.slice ao' n' c').ownBlock = some g → (Value.slice ao n c).ownBlock = some g := by
  intro g hg
  rcases h with ⟨rfl, rfl, rfl⟩ | ⟨rfl, rfl⟩
  · simp [Value.ownBlock] at hg
  · cases ao' with
    | none => simp [Value.ownBlock] at hg
    | some a => simpa [Value.ownBlock] using hg

set_option maxHeartbeats 3200000 in
set_option maxRecDepth 100000 in
theorem text_c (ao : Option Addr) (n c : Nat) (xs : List Int) (w : World) (h : Lst .u32 w ao n c xs) (hn : n ≤ 1073741824) (htab : Tab w) :
    Calls Tryz.prog 52 #[.slice ao n c] w fun e w' => e = .returned (.string ⟨(Lib.decDigits (val xs)).toArray⟩) ∧ Below w.heap.size w w' := by
  obtain ⟨i0, hi, hz0, hz1, hz2⟩ := info_parts info60
  obtain ⟨N, HN⟩ : ∃ N, Hid (N = val xs) := ⟨_, rfl⟩
  rw [← HN.out]
  have hNlt : N < 4294967296 ^ n := by
    have := val_lt h.ok
    rwa [h.len, ← HN.out] at this
  have HNlt := Lib.hid hNlt; clear hNlt
  have hnc := norm_c ao n c xs w h hn
  rw [← HN.out] at hnc
  have HNC := Lib.hid hnc; clear hnc
  go_enter Tryz.func52, Tryz.ntmps52
  go_wp2_with fail
  refine HNC.out.mono ?_
  rintro e w1 ⟨a1, n1, c1, hn1, rfl, o1, hb1⟩
  have hl1 := o1.len
  have hpos := limbs_len_pos (m := N)
  rw [hl1] at hpos
  clear hl1
  by_cases hN0 : N = 0
  · have hn0 : n1 = 0 := hpos.2 hN0
    subst hN0
    subst hn0
    clear hpos
    go_wp2_with fail
    go_ret
    refine ⟨?_, hb1⟩
    have e : Lib.decDigits 0 = [48] := by rw [Lib.decDigits_one (by omega)]; rfl
    rw [e]; rfl
  · have hn0 : 0 < n1 := by
      rcases Nat.eq_zero_or_pos n1 with h0 | h0
      · exact absurd (hpos.1 h0) hN0
      · exact h0
    clear hpos
    have hnb : ((n1 : Int) == 0) = false := by simp; omega
    have HN0 := Lib.hid hN0; clear hN0
    have hst : Own 66 .u32 w.heap.size w1 a1 n1 c1 (limbs (partN N 0)) := by rw [partN_zero]; exact o1
    have hcs : Own 66 .u32 w.heap.size w1 none 0 0 (chL N 0) := by
      have e0 : chL N 0 = [] := rfl
      rw [e0]
      exact ⟨World.ownsRow_nil _ _ _ _, fun _ hx => by cases hx⟩
    go_wp2_with fail
    go_loopw [3, 4] (fun s3 s4 wr => ∃ (k : Nat) (a : Option Addr) (m d : Nat) (ac : Option Addr) (cc : Nat), s3 = .slice a m d ∧ s4 = .slice ac k cc ∧ k ≤ 2 * n + 1 ∧ m ≤ n ∧ Own 66 .u32 w.heap.size wr a m d (limbs (partN N k)) ∧ Own 66 .u32 w.heap.size wr ac k cc (chL N k) ∧ Apart (.slice a m d) (.slice ac k cc) ∧ (k = 0 ∨ partN N (k - 1) ≠ 0) ∧ Below w.heap.size w wr)
      (fun _ s4 _ => 2 * n + 1 - lenOf s4)
    case atStart => exact ⟨0, a1, n1, c1, none, 0, rfl, rfl, by omega, hn1, hst, hcs, fun g _ hg => (by cases hg), Or.inl rfl, hb1⟩
    case round =>
      obtain ⟨k, a, m, d, ac, cc, rfl, rfl, hk, hm, ho, hc, hap, hk0, hb⟩ := hrel
      have hml := ho.len
      have hpos := limbs_len_pos (m := partN N k)
      rw [hml] at hpos
      clear hml
      have hmd := ho.lst.cap
      have hdr := ho.lst.room
      by_cases hq : partN N k = 0
      · -- all chunks are there
        have hm0 : m = 0 := hpos.2 hq
        subst hm0
        clear hpos
        have hkpos : 0 < k := by
          rcases Nat.eq_zero_or_pos k with h0 | h0
          · subst h0; rw [partN_zero] at hq; exact absurd hq HN0.out
          · exact h0
        have hk1 : partN N (k - 1) ≠ 0 := by
          rcases hk0 with h0 | h0
          · omega
          · exact h0
        have hcr := hc.lst.room
        have hccap := hc.lst.cap
        have hia := ix22 hc.lst (k - 1) (by omega)
        rw [show ((k - 1 : Nat) : Int) = (k : Int) - 1 from by omega] at hia
        have htop : chunkN N (k - 1) = partN N (k - 1) := by
          have := partN_div N (k - 1)
          rw [show k - 1 + 1 = k by omega, hq] at this
          unfold chunkN
          omega
        have hcl := hc.lst.cell (k - 1) (by omega)
        rw [chL_getD N k (k - 1) (by omega)] at hcl
        obtain ⟨x, hx⟩ : ∃ x, Hid (x = chunkN N (k - 1)) := ⟨_, rfl⟩
        have hx9 := chunkN_lt N (k - 1)
        rw [← hx.out] at hcl hx9
        have HTOP := Lib.hid htop; have HQ := Lib.hid hq; have HK1 := Lib.hid hk1
        clear htop hq hk1 hk0 hap ho hst hcs
        have hnil : OwnB w.heap.size wr (.slice none 0 0) [] := World.ownsRow_nil _ _ _ _
        have HAU := Lib.hid (appendUint_c w.heap.size (.slice none 0 0) [] x wr hnil hb.size (by simp) (by omega) (htab.below hb))
        clear hnil
        go_wp2_with fail
        refine HAU.out.mono ?_
        rintro e w2 ⟨v2, rfl, ho2, hb2, hok2⟩
        have hc2 : Own 66 .u32 w.heap.size w2 ac k cc (chL N k) := hc.others hok2
        have ho2' : OwnB w.heap.size w2 v2 (Lib.decDigits (partN N (k - 1))) := by
          rw [← HTOP.out, ← hx.out]; simpa using ho2
        have hbb := hb.trans hb2
        clear ho2 hb2 hok2 hc hcl hia HAU
        go_wp2_with fail
        go_loopw [6, 7] (fun s6 i wr => ∃ (j : Nat) (v : Value), s6 = v ∧ i = .int .i64 ((j : Int) - 1) ∧ j < k ∧ OwnB w.heap.size wr v (Lib.decDigits (partN N j)) ∧ Own 66 .u32 w.heap.size wr ac k cc (chL N k) ∧ Below w.heap.size w wr)
          (fun _ i _ => (intOf i + 1).toNat)
        case atStart => exact ⟨k - 1, v2, rfl, by go_num, by omega, ho2', hc2, hbb⟩
        case round =>
          obtain ⟨j, v, rfl, rfl, hj, hov, hcv, hbv⟩ := hrel
          by_cases hj0 : 0 < j
          · have hib := ix22 hcv.lst (j - 1) (by omega)
            rw [show ((j - 1 : Nat) : Int) = (j : Int) - 1 from by omega] at hib
            have hcl2 := hcv.lst.cell (j - 1) (by omega)
            rw [chL_getD N k (j - 1) (by omega)] at hcl2
            obtain ⟨y, hy⟩ : ∃ y, Hid (y = chunkN N (j - 1)) := ⟨_, rfl⟩
            have hy9 := chunkN_lt N (j - 1)
            rw [← hy.out] at hcl2 hy9
            have hne : partN N (j - 1 + 1) ≠ 0 := by
              rw [show j - 1 + 1 = j by omega]
              intro h0
              exact HK1.out (partN_mono h0 (by omega))
            have hstep : Lib.decDigits (partN N (j - 1)) = Lib.decDigits (partN N j) ++ padTo y 9 := by
              have := decDigits_step hne
              rwa [show j - 1 + 1 = j by omega, ← hy.out] at this
            have hlen : (Lib.decDigits (partN N j)).length ≤ 1099511627776 := by
              have := digits_le (Nat.lt_of_le_of_lt (partN_le N j) HNlt.out)
              omega
            have HSTEP := Lib.hid hstep
            have HAC := Lib.hid (appendChunk_c w.heap.size u6 (Lib.decDigits (partN N j)) y wr hov hbv.size hlen (by omega))
            clear hstep hne hlen
            go_wp2_with fail
            refine HAC.out.mono ?_
            rintro e w3 ⟨v3, rfl, ho3, hb3, hok3⟩
            have hc3 := hcv.others hok3
            have hbb3 := hbv.trans hb3
            rw [← HSTEP.out] at ho3
            clear hok3 hb3 hcl2 hib HAC
            go_wp2_with fail
            go_roundw
            case rel => exact ⟨j - 1, v3, rfl, by go_num, by omega, ho3, hc3, hbb3⟩
            case measure => simp [intOf]; omega
          · obtain rfl : j = 0 := by omega
            rw [partN_zero] at hov
            have hconv := hov.string
            go_wp2_with fail
            go_ret
            exact ⟨rfl, hbv⟩
      · -- one chunk more
        have hk2 := partN_chunks HNlt.out hq
        have hm0 : 0 < m := by
          rcases Nat.eq_zero_or_pos m with h0 | h0
          · exact absurd (hpos.1 h0) hq
          · exact h0
        have hw := Lib.hid (ho.lt)
        have hdw := divideByWord_c w.heap.size a m d (limbs (partN N k)) 1000000000 wr ho (by omega) (by omega)
        rw [val_limbs] at hdw
        obtain ⟨x, hx⟩ : ∃ x, Hid (x = chunkN N k) := ⟨_, rfl⟩
        have hx9 := chunkN_lt N k
        rw [show partN N k % 1000000000 = x from hx.out.symm, partN_div, show ((1000000000 : Nat) : Int) = 1000000000 from rfl] at hdw
        rw [← hx.out] at hx9
        have HDW := Lib.hid hdw
        have HQ := Lib.hid hq
        clear hdw hq hpos hk0 hst hcs
        go_wp2_with fail
        refine HDW.out.mono ?_
        rintro e w2 ⟨ys, rfl, oy, hval, hgr⟩
        have hc2 := hc.apartKept hgr hap
        have hb2 : Below w.heap.size w w2 := hb.grown hgr hb.size (fun g hg => (hw.out g hg).1)
        have hlt2 : ∀ g, (Value.slice a m d).ownBlock = some g → g < w2.heap.size := fun g hg => (oy.lt g hg).2
        have hcl2 : ∀ g, (Value.slice ac k cc).ownBlock = some g → w.heap.size ≤ g := fun g hg => (hc2.lt g hg).1
        have HLT := Lib.hid hlt2; have HCL := Lib.hid hcl2; have HAP := Lib.hid hap; have HVAL := Lib.hid hval
        have HC := Lib.hid (World.ownsRow.alloc hc2.1 (.cells #[Value.int .u32 x] 66))
        have HW := Lib.hid hc2.2
        have HOY := Lib.hid oy
        have HB2 := Lib.hid hb2
        have hsz2 := hb2.size
        clear hgr hlt2 hcl2 hap hval hc2 oy hc ho hw hb hb2 HDW
        go_wp2_with (at_builtin; refine wpList_append_own_at _ rfl _ _ 22 rfl w.heap.size 66 i0 (.int .u32 0) 1 4 Tryz.underlying22 hi hz0 hz1 hz2 rfl (by decide) _ _ _ rfl HC.out ⟨w2.heap.size, 0, none⟩ 1 1 [.int .u32 x] rfl rfl ?c1 ?c2 ?c3 ?c4 ?c5 ?_)
        case c1 =>
          intro j u hj
          match j, hj with
          | 0, hj => simp at hj; subst hj; simp [Addr.add]
        case c2 => intro u hu; simp at hu; subst hu; rfl
        case c3 => unfold maxLen; omega
        case c4 => omega
        case c5 => simp; omega
        intro v2 w3 hown hgr3 _ hblk
        have hv2 : ∃ ac' cc', v2 = .slice ac' (k + 1) cc' := by
          rcases hown.2 with ⟨_, h0⟩ | ⟨g, cap, _, hv, _⟩
          · omega
          · exact ⟨_, cap, hv⟩
        obtain ⟨ac', cc', rfl⟩ := hv2
        have oc3 : Own 66 .u32 w.heap.size w3 ac' (k + 1) cc' (chL N (k + 1)) := by
          refine ⟨?_, fun y hy => ?_⟩
          · rw [chL_succ, List.map_append, ← hx.out]
            exact hown
          · have := chL_bound N (k + 1) y hy
            exact wf_u32 this.1 (by omega)
        have hap3 : Apart (.slice a m d) (.slice ac' (k + 1) cc') := by
          intro g hg hg2
          rcases hblk with hb3 | hb3
          · rw [hb3] at hg2
            exact HAP.out g hg hg2
          · rw [hb3] at hg2
            have := HLT.out g hg
            simp at hg2
            omega
        have oy3 : Own 66 .u32 w.heap.size w3 a m d ys := by
          have hal : Own 66 .u32 w.heap.size (w2.alloc (.cells #[Value.int .u32 x] 66)) a m d ys := ⟨World.ownsRow.alloc HOY.out.1 _, HOY.out.2⟩
          exact hal.apartKept hgr3 (fun g hg hg2 => HAP.out g hg2 hg)
        have hb3 : Below w.heap.size w w3 := (HB2.out.alloc hsz2 _).grown hgr3 (by simp; omega) HCL.out
        have hlim : limbs (val ys) = limbs (partN N (k + 1)) := by rw [HVAL.out]
        have HLIM := Lib.hid hlim
        clear hown hgr3 hblk HC HOY hlim
        go_wp2_with fail
        refine (trim_c _ _ _ ys _ oy3.lst).mono ?_
        rintro e w' ⟨rfl, a4, m4, d4, rfl, t4, hh4⟩
        have hlen4 := t4.len
        have hle4 := limbs_val_length oy3.lst.ok
        rw [hlen4, oy3.len] at hle4
        have o4 : Own 66 .u32 w.heap.size w3 a4 m4 d4 (limbs (partN N (k + 1))) := by
          rw [← HLIM.out, limbs_take oy3.lst.ok, hlen4]
          exact oy3.head hh4 hle4
        have hap4 : Apart (.slice a4 m4 d4) (.slice ac' (k + 1) cc') := fun g hg => hap3 g (hh4.block m g hg)
        clear hlen4 t4 hh4 hap3 oy3
        go_wp2_with fail
        go_roundw
        case rel => exact ⟨k + 1, a4, m4, d4, ac', cc', rfl, rfl, by omega, by omega, o4, oc3, hap4, Or.inr HQ.out, hb3⟩
        case measure => simp [lenOf]; omega
end Go.Proofs.YtmojcnlddfijjaaGreatDoor
