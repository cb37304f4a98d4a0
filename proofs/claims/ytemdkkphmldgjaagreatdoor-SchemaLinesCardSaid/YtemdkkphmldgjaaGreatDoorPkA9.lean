/-
  Texts of the proof, put together: NatBase NatTrim NatBits NatLib NatCmp NatNorm NatWord NatDigits.
-/
import Derived.Test.YtemdkkphmldgjaaGreatDoorProg
import Derived.WalkKit
import Derived.WalkSpells
import Derived.WalkLawsBesides
import Derived.Lib.Hide
import Derived.Deep.Draws
import Derived.Deep.QuietTactic
import Derived.BigQuiet
import Derived.Outline
import Derived.Deep.LoopGhost
import Derived.Deep.RegionLaw
import Derived.Lib.ItoaNum
import Derived.Lib.UnsafeStr
import Derived.Test.YtemdkkphmldgjaaGreatDoorPkA8
set_option maxHeartbeats 1600000
namespace Go.Proofs.YtemdkkphmldgjaaGreatDoor.Q
open Go.RowKit
def pt (ao : Option Addr) (i : Nat) : Addr := (ao.getD ⟨0, 0, none⟩).add i
structure Lst (k : IntKind) (w : World) (ao : Option Addr) (n c : Nat) (xs : List Int) : Prop where
 len : xs.length = n
 cap : n <= c
 room : c <= 9223372036854775807
 isSome : 0 < n -> ∃ a, ao = some a
 cell : ∀ i, i < n -> w.cell? (pt ao i) = some (.int k (xs.getD i 0))
 wf : ∀ x ∈ xs, (Lit.int k x).wf = true
theorem Lst.block {k : IntKind} {w : World} {ao : Option Addr} {n c : Nat} {xs : List Int} (h : Lst k w ao n c xs) (i : Nat) (hi : i < n) : (pt ao i).block < w.heap.size :=
 World.block_lt_of_cell? w _ (h.cell i hi)
theorem Lst.below {k : IntKind} {w w' : World} {ao : Option Addr} {n c : Nat} {xs : List Int} (h : Lst k w ao n c xs) (hb : Below w.heap.size w w') : Lst k w' ao n c xs :=
 ⟨h.len, h.cap, h.room, h.isSome, fun i hi => (hb.cell (h.block i hi)).trans (h.cell i hi), h.wf⟩
theorem Lst.ok {w : World} {ao : Option Addr} {n c : Nat} {xs : List Int} (h : Lst .u32 w ao n c xs) : NatMath.Ok xs := by
 intro x hx
 have := h.wf x hx
 simpa [Lit.wf, IntKind.min, IntKind.max, IntKind.signed, IntKind.bits] using this
theorem wf_u32 {x : Int} (h0 : 0 <= x) (h1 : x <= 4294967295) : (Lit.int .u32 x).wf = true := by
 simp [Lit.wf, IntKind.min, IntKind.max, IntKind.signed, IntKind.bits, h0, h1]
theorem Lst.take {k : IntKind} {w : World} {ao : Option Addr} {n c : Nat} {xs : List Int} (h : Lst k w ao n c xs) {m : Nat} (hm : m <= n) : Lst k w ao m c (xs.take m) := by
 have hl := h.len
 have hc := h.cap
 refine ⟨by simp; omega, by omega, h.room, fun h0 => h.isSome (by omega), fun i hi => ?_, fun x hx => h.wf x (List.mem_of_mem_take hx)⟩
 rw [h.cell i (by omega)]
 simp [List.getD, hi]
theorem Lst.nil (k : IntKind) (w : World) : Lst k w none 0 0 [] :=
 ⟨rfl, Nat.le_refl _, by omega, fun h => absurd h (by omega), fun i hi => absurd hi (by omega), fun x hx => by cases hx⟩
theorem Lst.at {w : World} {ao : Option Addr} {n c : Nat} {xs : List Int} (h : Lst .u32 w ao n c xs) (i : Nat) (hi : i < n) :
    ∃ x : Int, Hid (x = xs.getD i 0) /\ 0 <= x /\ x <= 4294967295 /\ w.cell? (pt ao i) = some (.int .u32 x) :=
 ⟨_, rfl, (h.ok.getD i).1, (h.ok.getD i).2, h.cell i hi⟩
theorem Lst.drewN {k : IntKind} {w : World} {ao : Option Addr} {n c : Nat} {xs : List Int} (h : Lst k w ao n c xs) (q : Nat) : Lst k (w.drewN q) ao n c xs := ⟨h.len, h.cap, h.room, h.isSome, h.cell, h.wf⟩
def Head (ao : Option Addr) (c : Nat) (ao' : Option Addr) (n' c' : Nat) : Prop := (ao' = none /\ n' = 0 /\ c' = 0) \/ (ao' = ao /\ c' = c)
def Own (e : TypeId) (k : IntKind) (B : Nat) (w : World) (ao : Option Addr) (n c : Nat) (xs : List Int) : Prop :=
 w.ownsRow B e 1 (.slice ao n c) n (xs.map (Value.int k)) /\ ∀ x ∈ xs, (Lit.int k x).wf = true
section
variable {e : TypeId} {k : IntKind} {B : Nat} {w w' : World} {ao : Option Addr} {n c : Nat} {xs : List Int}
theorem Own.len (h : Own e k B w ao n c xs) : xs.length = n := by simpa using h.1.1
theorem Own.cases (h : Own e k B w ao n c xs) : (ao = none /\ n = 0 /\ c = 0 /\ xs = []) \/ ∃ g, ao = some ⟨g, 0, none⟩ /\ B <= g /\ g < w.heap.size /\ n <= c /\ c <= maxLen := by
 have hl := h.len
 rcases h.1.2 with ⟨hv, hn⟩ | ⟨g, cap, cur, hv, hg, hh, hn, hc, _⟩
 . injection hv with h1 h2 h3
   exact Or.inl ⟨h1, hn, h3, List.eq_nil_of_length_eq_zero (by omega)⟩
 . injection hv with h1 h2 h3
   subst h3
   exact Or.inr ⟨g, h1, hg, (Array.getElem?_eq_some_iff.1 hh).1, hn, hc⟩
theorem Own.lst (h : Own e k B w ao n c xs) : Lst k w ao n c xs := by
 have hl := h.len
 rcases h.cases with ⟨rfl, rfl, rfl, rfl⟩ | ⟨g, rfl, hg, hgs, hn, hc⟩
 . exact Lst.nil _ _
 . refine ⟨hl, hn, by simpa [maxLen] using hc, fun _ => ⟨_, rfl⟩, fun i hi => ?_, h.2⟩
   have e : pt (some ⟨g, 0, none⟩) i = ⟨g, i, none⟩ := by
    simp only [pt, Option.getD_some]
    unfold Addr.add
    split <;> simp_all
   rw [e, h.1.cellAt i (by omega)]
   simp [List.getD, show i < xs.length by omega]
theorem Own.kept (h : Own e k B w ao n c xs) (hb : Below w.heap.size w w') : Own e k B w' ao n c xs :=
 ⟨h.1.kept (row := none) ⟨hb.os, hb.tape, hb.output, hb.size, fun j hj _ => hb.block j hj⟩ (by cases (Value.slice ao n c).ownBlock <;> simp), h.2⟩
theorem Own.drewN (h : Own e k B w ao n c xs) (q : Nat) : Own e k B (w.drewN q) ao n c xs := h
theorem Own.head {ao' : Option Addr} {n' c' : Nat} (h : Own e k B w ao n c xs) (hh : Head ao c ao' n' c') (hn : n' <= n) : Own e k B w ao' n' c' (xs.take n') := by
 refine ⟨?_, fun x hx => h.2 x (List.mem_of_mem_take hx)⟩
 rcases hh with ⟨rfl, rfl, rfl⟩ | ⟨rfl, rfl⟩
 . simpa using World.ownsRow_nil w B e 1
 . have hl := h.len
   refine ⟨by simp; omega, ?_⟩
   rcases h.1.2 with ⟨hv, h0⟩ | ⟨g, cap, cur, hv, hg, hhp, hn1, hc, hsz, ht⟩
   . injection hv with h1 h2 h3
     subst h1; subst h3
     exact Or.inl ⟨by rw [show n' = 0 by omega], by omega⟩
   . injection hv with h1 h2 h3
     subst h1; subst h3
     refine Or.inr ⟨g, c', cur, rfl, hg, hhp, by omega, hc, hsz, ?_⟩
     rw [List.map_take, <- ht, List.take_take]
     congr 1
     omega
end
theorem pt_own (g i : Nat) : pt (some ⟨g, 0, none⟩) i = ⟨g, i, none⟩ := by
 simp only [pt, Option.getD_some]
 unfold Addr.add
 split <;> simp_all
section
variable {e : TypeId} {k : IntKind} {B : Nat} {w w' : World} {ao : Option Addr} {n c : Nat} {xs : List Int}
def blk (ao : Option Addr) : Nat := (pt ao 0).block
theorem Own.spot (h : Own e k B w ao n c xs) {i : Nat} (hi : i < n) : ∃ g, ao = some ⟨g, 0, none⟩ /\ pt ao i = ⟨g, i, none⟩ /\ B <= g /\ g < w.heap.size := by
 rcases h.cases with ⟨rfl, rfl, rfl, rfl⟩ | ⟨g, rfl, hg, hgs, hn, hc⟩
 . omega
 . exact ⟨g, rfl, pt_own g i, hg, hgs⟩
theorem Own.frozen (h : Own e k B w ao n c xs) {i : Nat} (hi : i < n) : w.frozen? (pt ao i) = false := by
 obtain ⟨g, rfl, hp, _⟩ := h.spot hi
 rw [hp]
 exact h.1.frozenAt i
theorem Own.base (h : Own e k B w ao n c xs) {i : Nat} (hi : i < n) : B <= (pt ao i).block := by
 obtain ⟨g, rfl, hp, hg, _⟩ := h.spot hi
 rw [hp]
 exact hg
theorem Own.set (h : Own e k B w ao n c xs) {i : Nat} (hi : i < n) {d : Int} (hd : (Lit.int k d).wf = true) : Own e k B (w.setCell (pt ao i) (.int k d)) ao n c (xs.set i d) := by
 obtain ⟨g, rfl, hp, hg, _⟩ := h.spot hi
 rw [hp]
 refine ⟨?_, fun x hx => ?_⟩
 . have := (h.1.stored i (.int k d)).1
   rw [List.map_set]
   exact this
 . rcases List.mem_or_eq_of_mem_set hx with hx | rfl
   . exact h.2 x hx
   . exact hd
theorem Own.setOnly (h : Own e k B w ao n c xs) {i : Nat} (hi : i < n) (u : Value) : w.grownBy (w.setCell (pt ao i) u) (Value.slice ao n c).ownBlock := by
 obtain ⟨g, rfl, hp, hg, _⟩ := h.spot hi
 rw [hp]
 exact (h.1.stored i u).2
theorem Lst.stored {k' : IntKind} {bo : Option Addr} {m d : Nat} {ys : List Int} (h : Lst k' w bo m d ys) (hlow : ∀ i, i < m -> (pt bo i).block < B) {p : Addr} (hp : B <= p.block) (u : Value) : Lst k' (w.setCell p u) bo m d ys :=
 ⟨h.len, h.cap, h.room, h.isSome, fun i hi => by
  rw [World.cell?_setCell_other w p (pt bo i) u (fun e => by have := hlow i hi; rw [<- e] at this; omega)]
  exact h.cell i hi, h.wf⟩
end
theorem Lst.head {k : IntKind} {w : World} {ao ao' : Option Addr} {n c n' c' : Nat} {xs : List Int} (h : Lst k w ao n c xs) (hh : Head ao c ao' n' c') (hn : n' <= n) : Lst k w ao' n' c' (xs.take n') := by
 rcases hh with ⟨rfl, rfl, rfl⟩ | ⟨rfl, rfl⟩
 . simpa using Lst.nil k w
 . exact h.take hn
theorem run_index {P : Program} {t e : TypeId} (ht : P.underlying t = some (.slice e)) (he : (P.info? e).map (·.size) = some 1) {k : IntKind} {w : World} {ao : Option Addr} {n c : Nat} {xs : List Int} (h : Lst k w ao n c xs) (i : Nat) (hi : i < n) (W : World) :
    (Instr.indexAt t (.slice ao n c) (.int .i64 (i : Int))).run P W = .ok (.pointer (some (pt ao i))) W := by
 obtain ⟨a, rfl⟩ := h.isSome (by omega)
 obtain ⟨inf, hinf, hs⟩ := Option.map_eq_some_iff.1 he
 have h1 : (0 : Int) <= (i : Int) /\ (i : Int) < (n : Int) := by omega
 simp [Instr.indexAt, run_underlying ht, asIntOf, sizeOf, typeInfo, hinf, hs, pt, hi]
theorem dd (w : World) (a b : Nat) : ∃ q, w.drewN q = (w.drewN a).drewN b := ⟨a + b, (World.drewN_drewN w a b).symm⟩
theorem ddd (w : World) (a b c : Nat) : ∃ q, w.drewN q = ((w.drewN a).drewN b).drewN c := ⟨a + b + c, by rw [World.drewN_drewN, World.drewN_drewN, Nat.add_assoc]⟩
theorem quiet_draw {P : Program} {f : FuncId} {args : Array Value} {W : World} {n : Nat} {v : Value}
    (h : Calls P f args (W.drewN n) fun e w' => e = .returned v /\ ∃ q, (W.drewN n).drewN q = w') : Calls P f args (W.drewN n) fun e w'' => e = .returned v /\ ∃ m, w'' = W.drewN m :=
 h.mono fun _ _ ⟨he, q, hm⟩ => ⟨he, n + q, by rw [<- hm, World.drewN_drewN]⟩
theorem quiet_same2 {P : Program} {f : FuncId} {args : Array Value} {w : World} {a n : Nat} {v : Value}
    (h : Calls P f args (w.drewN (a + n)) fun e w' => e = .returned v /\ w.drewN (a + n) = w') :
    Calls P f args (w.drewN (a + n)) fun e w'' => e = .returned v /\ ∃ m, w'' = w.drewN (a + m) :=
 h.mono fun _ _ ⟨he, hm⟩ => ⟨he, n, hm.symm⟩
theorem grown_trans {a b d : World} {row : Option Nat} (h : a.grownBy b row) (k : b.grownBy d row) : a.grownBy d row :=
 ⟨k.os.trans h.os, k.tape.trans h.tape, k.output.trans h.output, Nat.le_trans h.size k.size, fun i hi hne => (k.block i (Nat.lt_of_lt_of_le hi h.size) hne).trans (h.block i hi hne)⟩
theorem grown_drewN {a w : World} {row : Option Nat} (h : a.grownBy w row) (n : Nat) : a.grownBy (w.drewN n) row := ⟨h.os, h.tape, h.output, h.size, h.block⟩
theorem grown_drewN_set {a w : World} {row : Option Nat} {p : Addr} {u : Value} (h : a.grownBy (w.setCell p u) row) (q : Nat) : a.grownBy ((w.drewN q).setCell p u) row := ⟨h.os, h.tape, h.output, h.size, h.block⟩
end Go.Proofs.YtemdkkphmldgjaaGreatDoor.Q
/-
  One stretch of a run after another.
-/
namespace Go.Proofs.YtemdkkphmldgjaaGreatDoor.Q
open Go.RowKit NatMath
end Go.Proofs.YtemdkkphmldgjaaGreatDoor.Q
namespace Go.Proofs.YtemdkkphmldgjaaGreatDoor.Q
open Go.RowKit NatMath
theorem size60 : (Tryz.prog.info? 144).map (·.size) = some 1 := by kernel_rfl
theorem trim_c (ao : Option Addr) (n c : Nat) (xs : List Int) (w : World) (h : Lst .u32 w ao n c xs) :
    Calls Tryz.prog 200 #[.slice ao n c] w fun e w' => w = w' /\ ∃ ao' n' c', e = .returned (.slice ao' n' c') /\ Lst .u32 w ao' n' c' (limbs (val xs)) /\ Head ao c ao' n' c' := by
 have hroom := h.room
 have hcap := h.cap
 go_enter Tryz.func200, Tryz.ntmps200
 go_wp2
 go_loop [3] (fun i => ∃ m : Nat, m <= n /\ i = .int .i64 m /\ ∀ j, m <= j -> xs.getD j 0 = 0) (fun i => (intOf i).toNat)
 case atStart => exact ⟨n, Nat.le_refl _, rfl, fun j hj => by simp [List.getD, List.getElem?_eq_none (show xs.length <= j by rw [h.len]; omega)]⟩
 case round =>
  obtain ⟨m, hm, rfl, hz⟩ := hrel
  by_cases h0 : 0 < m
  . have hix : ∀ W, (Instr.indexAt 30 (.slice ao n c) (.int .i64 ((m : Int) - 1))).run Tryz.prog W = .ok (.pointer (some (pt ao (m - 1)))) W := fun W => by
     have := run_index (P := Tryz.prog) Tryz.underlying30 size60 h (m - 1) (by omega) W
     rwa [show ((m - 1 : Nat) : Int) = (m : Int) - 1 from by omega] at this
    obtain ⟨x, HX, hx0, hx1, hcl⟩ := h.at (m - 1) (by omega)
    have HZ := Lib.hid hz; clear hz
    by_cases hx : x = 0
    . subst hx
      go_wp2
      go_round
      case rel => exact ⟨m - 1, by omega, by go_num, fun j hj => by
       by_cases e : j = m - 1
       . rw [e]; exact HX.out.symm
       . exact HZ.out j (by omega)⟩
      case measure => simp [intOf]; omega
    . have hb : (x == 0) = false := by simpa using hx
      have e : limbs (val xs) = xs.take m := trimL_eq_take h.ok m (by rw [h.len]; exact hm) HZ.out (Or.inr (by rw [<- HX.out]; exact hx))
      have HE := Lib.hid e; clear e
      go_wp2
      go_ret
      exact ⟨rfl, ao, m, c, rfl, by rw [HE.out]; exact h.take hm, Or.inr ⟨rfl, rfl⟩⟩
  . obtain rfl : m = 0 := by omega
    have e : limbs (val xs) = [] := by
     rw [trimL_eq_take h.ok 0 (Nat.zero_le _) (fun j _ => hz j (Nat.zero_le _)) (Or.inl rfl)]; rfl
    have HE := Lib.hid e; clear e
    have HZ := Lib.hid hz; clear hz
    go_wp2
    go_ret
    exact ⟨rfl, none, 0, 0, rfl, by rw [HE.out]; exact Lst.nil _ _, Or.inl ⟨rfl, rfl, rfl⟩⟩
end Go.Proofs.YtemdkkphmldgjaaGreatDoor.Q
namespace Go.Proofs.YtemdkkphmldgjaaGreatDoor.Q.NatMath
def brw (x y b : Int) : Int := if x < y + b then 1 else 0
theorem brw_01 (x y b : Int) : 0 <= brw x y b /\ brw x y b <= 1 := by unfold brw; split <;> omega
theorem top_and (a b : Nat) : (a &&& b) / 2147483648 = a / 2147483648 &&& b / 2147483648 := by
 have := Nat.shiftRight_and_distrib (a := a) (b := b) (i := 31)
 simpa [Nat.shiftRight_eq_div_pow] using this
theorem top_or (a b : Nat) : (a ||| b) / 2147483648 = a / 2147483648 ||| b / 2147483648 := by
 have := Nat.shiftRight_or_distrib (a := a) (b := b) (i := 31)
 simpa [Nat.shiftRight_eq_div_pow] using this
theorem top_xor (a b : Nat) : (a ^^^ b) / 2147483648 = a / 2147483648 ^^^ b / 2147483648 := by
 have := Nat.shiftRight_xor_distrib (a := a) (b := b) (i := 31)
 simpa [Nat.shiftRight_eq_div_pow] using this
theorem top_01 {a : Nat} (h : a < 4294967296) : a / 2147483648 = 0 \/ a / 2147483648 = 1 := by omega
theorem lt_xor {a b : Nat} (ha : a < 4294967296) (hb : b < 4294967296) : a ^^^ b < 4294967296 := Nat.xor_lt_two_pow (n := 32) ha hb
theorem lt_and {a b : Nat} (ha : a < 4294967296) : a &&& b < 4294967296 := Nat.lt_of_le_of_lt Nat.and_le_left ha
theorem max_u32 : IntKind.u32.max = 4294967295 := by decide
theorem borrow_eq (x y b : Int) (x0 : 0 <= x) (x1 : x <= 4294967295) (y0 : 0 <= y) (y1 : y <= 4294967295) (b0 : 0 <= b) (b1 : b <= 1) :
    bits .or .u32 (bits .and .u32 (bits .xor .u32 IntKind.u32.max x) y) (bits .and .u32 (bits .xor .u32 IntKind.u32.max (bits .xor .u32 x y)) ((x - y - b) % 4294967296)) / 2147483648 = brw x y b := by
 obtain ⟨X, rfl⟩ := Int.eq_ofNat_of_zero_le x0
 obtain ⟨Y, rfl⟩ := Int.eq_ofNat_of_zero_le y0
 obtain ⟨d, hd⟩ := Int.eq_ofNat_of_zero_le (show 0 <= ((X : Int) - (Y : Int) - b) % 4294967296 by omega)
 have hX : X < 4294967296 := by omega
 have hY : Y < 4294967296 := by omega
 have hD : d < 4294967296 := by omega
 rw [max_u32, hd]
 have e1 : bits .xor .u32 4294967295 (X : Int) = ((4294967295 ^^^ X : Nat) : Int) := u32_xor_nat 4294967295 X (by omega) hX
 have e2 : bits .xor .u32 (X : Int) (Y : Int) = ((X ^^^ Y : Nat) : Int) := u32_xor_nat X Y hX hY
 have l2 := lt_xor hX hY
 have e3 : bits .xor .u32 4294967295 ((X ^^^ Y : Nat) : Int) = ((4294967295 ^^^ (X ^^^ Y) : Nat) : Int) := u32_xor_nat 4294967295 _ (by omega) l2
 have l1 := lt_xor (show 4294967295 < 4294967296 by omega) hX
 have l3 := lt_xor (show 4294967295 < 4294967296 by omega) l2
 rw [e1, e2, e3, u32_and_nat _ _ l1 hY, u32_and_nat _ _ l3 hD, u32_or_nat _ _ (lt_and l1) (lt_and l3)]
 have e : ((4294967295 ^^^ X) &&& Y ||| (4294967295 ^^^ (X ^^^ Y)) &&& d) / 2147483648 = ((1 ^^^ X / 2147483648) &&& Y / 2147483648) ||| ((1 ^^^ (X / 2147483648 ^^^ Y / 2147483648)) &&& d / 2147483648) := by
  rw [top_or, top_and, top_and, top_xor, top_xor, top_xor]
 have e' : (((4294967295 ^^^ X) &&& Y ||| (4294967295 ^^^ (X ^^^ Y)) &&& d : Nat) : Int) / 2147483648 = ((((1 ^^^ X / 2147483648) &&& Y / 2147483648) ||| ((1 ^^^ (X / 2147483648 ^^^ Y / 2147483648)) &&& d / 2147483648) : Nat) : Int) := by
  rw [<- e]; omega
 rw [e']
 unfold brw
 rcases top_01 hX with hx | hx <;> rcases top_01 hY with hy | hy <;> rcases top_01 hD with hz | hz <;> rw [hx, hy, hz] <;> simp <;> omega
end Go.Proofs.YtemdkkphmldgjaaGreatDoor.Q.NatMath
namespace Go.Proofs.YtemdkkphmldgjaaGreatDoor.Q
open Go.RowKit NatMath
theorem add32_c (x y b : Int) (w : World) (x0 : 0 <= x) (x1 : x <= 4294967295) (y0 : 0 <= y) (y1 : y <= 4294967295) (b0 : 0 <= b) (b1 : b <= 4294967295) :
    Calls Tryz.prog 212 #[.int .u32 x, .int .u32 y, .int .u32 b] w fun e w' => e = .returned (.tuple #[.int .u32 ((x + y + b) % 4294967296), .int .u32 ((x + y + b) / 4294967296)]) /\ w = w' := by
 go_enter Tryz.func212, Tryz.ntmps212
 go_wp2
 go_ret2
 exact ⟨rfl, rfl⟩
theorem sub32_c (x y b : Int) (w : World) (x0 : 0 <= x) (x1 : x <= 4294967295) (y0 : 0 <= y) (y1 : y <= 4294967295) (b0 : 0 <= b) (b1 : b <= 1) :
    Calls Tryz.prog 213 #[.int .u32 x, .int .u32 y, .int .u32 b] w fun e w' => e = .returned (.tuple #[.int .u32 ((x - y - b) % 4294967296), .int .u32 (brw x y b)]) /\ w = w' := by
 have hb := Lib.hid (borrow_eq x y b x0 x1 y0 y1 b0 b1)
 go_enter Tryz.func213, Tryz.ntmps213
 go_wp2
 go_ret2
 refine ⟨?_, rfl⟩
 rw [<- hb.out]
 rfl
theorem or_u64 (h l : Int) (h0 : 0 <= h) (h1 : h <= 4294967295) (l0 : 0 <= l) (l1 : l <= 4294967295) : bits .or .u64 (h * 4294967296) l = h * 4294967296 + l := by
 rw [u64_or _ _ (by omega) (by omega) l0 (by omega), nat_join 32 _ _ (by omega) (by omega)]
 omega
theorem div32_q (h l y : Int) (h0 : 0 <= h) (h1 : h < y) (l0 : 0 <= l) (l1 : l <= 4294967295) (y1 : y <= 4294967295) :
    (h * 4294967296 + l) / y % 4294967296 = (h * 4294967296 + l) / y /\ (h * 4294967296 + l) % y % 4294967296 = (h * 4294967296 + l) % y := by
 have a := Int.ediv_nonneg (a := h * 4294967296 + l) (b := y) (by omega) (by omega)
 have b : (h * 4294967296 + l) / y < 4294967296 := Int.ediv_lt_of_lt_mul (by omega) (by omega)
 have c := Int.emod_nonneg (h * 4294967296 + l) (b := y) (by omega)
 have d := Int.emod_lt_of_pos (h * 4294967296 + l) (b := y) (by omega)
 constructor <;> omega
theorem div32_c (h l y : Int) (w : World) (h0 : 0 <= h) (h1 : h < y) (l0 : 0 <= l) (l1 : l <= 4294967295) (y1 : y <= 4294967295) :
    Calls Tryz.prog 235 #[.int .u32 h, .int .u32 l, .int .u32 y] w fun e w' => e = .returned (.tuple #[.int .u32 ((h * 4294967296 + l) / y), .int .u32 ((h * 4294967296 + l) % y)]) /\ ∃ q, w.drewN q = w' := by
 have hy : (y == 0) = false := by simp; omega
 have hd : decide (y <= h) = false := by simp; omega
 have ho := or_u64 h l h0 (by omega) l0 l1
 have hq := Lib.hid (div32_q h l y h0 h1 l0 l1 y1)
 go_enter Tryz.func235, Tryz.ntmps235
 go_wp2
 go_quiet (fail)
 go_wp2
 go_ret2
 refine ⟨?_, _, rfl⟩
 show Ending.returned (.tuple #[.int .u32 ((h * 4294967296 + l) / y % 4294967296), .int .u32 ((h * 4294967296 + l) % y % 4294967296)]) = _
 rw [hq.out.1, hq.out.2]
theorem isNaN_int_c (x : Int) (w : World) : Calls Tryz.prog 237 #[.int .i64 x] w fun e w' => e = .returned (.bool false) /\ w = w' := by
 go_enter Tryz.func237, Tryz.ntmps237
 go_wp2
 go_ret
 exact ⟨by simp, rfl⟩
theorem isNaN_u32_c (x : Int) (w : World) : Calls Tryz.prog 238 #[.int .u32 x] w fun e w' => e = .returned (.bool false) /\ w = w' := by
 go_enter Tryz.func238, Tryz.ntmps238
 go_wp2
 go_ret
 exact ⟨by simp, rfl⟩
theorem cmp_int_c (x y : Int) (w : World) : Calls Tryz.prog 203 #[.int .i64 x, .int .i64 y] w fun e w' => e = .returned (.int .i64 (cmpI x y)) /\ w = w' := by
 by_cases h1 : x < y
 . go_enter Tryz.func203, Tryz.ntmps203
   go_wp2_with (first | (go_at_call 237; refine (isNaN_int_c _ _).mono ?_; rintro e w' ⟨rfl, rfl⟩))
   go_ret
   exact ⟨by simp [cmpI, h1], rfl⟩
 . by_cases h2 : y < x
   . go_enter Tryz.func203, Tryz.ntmps203
     go_wp2_with (first | (go_at_call 237; refine (isNaN_int_c _ _).mono ?_; rintro e w' ⟨rfl, rfl⟩))
     go_ret
     exact ⟨by simp [cmpI, h1, h2], rfl⟩
   . have hc : cmpI x y = 0 := by unfold cmpI; rw [if_neg h1, if_neg h2]
     have HC := Lib.hid hc; clear hc
     go_enter Tryz.func203, Tryz.ntmps203
     go_wp2_with (first | (go_at_call 237; refine (isNaN_int_c _ _).mono ?_; rintro e w' ⟨rfl, rfl⟩))
     go_ret
     exact ⟨by rw [HC.out]; rfl, rfl⟩
theorem cmp_u32_c (x y : Int) (w : World) : Calls Tryz.prog 204 #[.int .u32 x, .int .u32 y] w fun e w' => e = .returned (.int .i64 (cmpI x y)) /\ w = w' := by
 by_cases h1 : x < y
 . go_enter Tryz.func204, Tryz.ntmps204
   go_wp2_with (first | (go_at_call 238; refine (isNaN_u32_c _ _).mono ?_; rintro e w' ⟨rfl, rfl⟩))
   go_ret
   exact ⟨by simp [cmpI, h1], rfl⟩
 . by_cases h2 : y < x
   . go_enter Tryz.func204, Tryz.ntmps204
     go_wp2_with (first | (go_at_call 238; refine (isNaN_u32_c _ _).mono ?_; rintro e w' ⟨rfl, rfl⟩))
     go_ret
     exact ⟨by simp [cmpI, h1, h2], rfl⟩
   . have hc : cmpI x y = 0 := by unfold cmpI; rw [if_neg h1, if_neg h2]
     have HC := Lib.hid hc; clear hc
     go_enter Tryz.func204, Tryz.ntmps204
     go_wp2_with (first | (go_at_call 238; refine (isNaN_u32_c _ _).mono ?_; rintro e w' ⟨rfl, rfl⟩))
     go_ret
     exact ⟨by rw [HC.out]; rfl, rfl⟩
end Go.Proofs.YtemdkkphmldgjaaGreatDoor.Q
namespace Go.Proofs.YtemdkkphmldgjaaGreatDoor.Q
open Go.RowKit NatMath
theorem ix {ao : Option Addr} {n c : Nat} {xs : List Int} {w : World} (h : Lst .u32 w ao n c xs) (i : Nat) (hi : i < n) :
    ∀ W, (Instr.indexAt 30 (.slice ao n c) (.int .i64 (i : Int))).run Tryz.prog W = .ok (.pointer (some (pt ao i))) W :=
 fun W => run_index (P := Tryz.prog) Tryz.underlying30 size60 h i hi W
theorem cmp_c (ao bo : Option Addr) (n c m d : Nat) (xs ys : List Int) (w : World) (h : Lst .u32 w ao n c xs) (k : Lst .u32 w bo m d ys) :
    Calls Tryz.prog 148 #[.slice ao n c, .slice bo m d] w fun e w' => e = .returned (.int .i64 (cmpI (val xs) (val ys))) /\ ∃ q, w.drewN q = w' := by
 go_enter Tryz.func148, Tryz.ntmps148
 go_wp2_with fail
 refine (trim_c _ _ _ xs _ h).mono ?_
 rintro e w' ⟨rfl, a1, n1, c1, rfl, h1, -⟩
 go_wp2_with fail
 refine (trim_c _ _ _ ys _ k).mono ?_
 rintro e w' ⟨rfl, b1, m1, d1, rfl, k1, -⟩
 obtain ⟨L, HL⟩ : ∃ L, Hid (L = limbs (val xs)) := ⟨_, rfl⟩
 obtain ⟨M, HM⟩ : ∃ M, Hid (M = limbs (val ys)) := ⟨_, rfl⟩
 rw [<- HL.out] at h1
 rw [<- HM.out] at k1
 have hroom := h1.room
 have hcap := h1.cap
 have kroom := k1.room
 have kcap := k1.cap
 by_cases hne : n1 = m1
 . subst hne
   go_wp2_with fail
   go_loopw [5] (fun i wr => ∃ j q : Nat, j <= n1 /\ i = .int .i64 ((j : Int) - 1) /\ w.drewN q = wr /\ ∀ t, j <= t -> L.getD t 0 = M.getD t 0) (fun i _ => (intOf i + 1).toNat)
   case atStart => exact ⟨n1, 0, Nat.le_refl _, rfl, rfl, fun t ht => by rw [List.getD, List.getD, List.getElem?_eq_none (by rw [h1.len]; omega), List.getElem?_eq_none (by rw [k1.len]; omega)]⟩
   case round =>
    obtain ⟨j, q, hj, rfl, rfl, hz⟩ := hrel
    have HZ := Lib.hid hz; clear hz
    by_cases hlt : 0 < j
    . have hia := ix h1 (j - 1) (by omega)
      have hib := ix k1 (j - 1) (by omega)
      rw [show ((j - 1 : Nat) : Int) = (j : Int) - 1 from by omega] at hia hib
      obtain ⟨x, HX, hx0, hx1, hcx⟩ := h1.at (j - 1) (by omega)
      obtain ⟨y, HY, hy0, hy1, hcy⟩ := k1.at (j - 1) (by omega)
      by_cases hxy : x = y
      . subst hxy
        go_wp2_with fail
        go_quiet (fail)
        go_wp2_with fail
        go_roundw
        case rel => exact ⟨j - 1, _, by omega, by go_num, rfl, fun t ht => by
         by_cases e : t = j - 1
         . rw [e, <- HX.out, <- HY.out]
         . exact HZ.out t (by omega)⟩
        case measure => simp [intOf]; omega
      . have hb : (x == y) = false := by simpa using hxy
        have hb' : (x != y) = true := by simpa using hxy
        have hc : cmpI x y = cmpI (val xs) (val ys) := by
         have := cmpI_at (i := j - 1) h1.ok k1.ok (by rw [h1.len, k1.len]) (fun t ht => HZ.out t (by omega)) (by rw [<- HX.out, <- HY.out]; exact hxy)
         rw [HX.out, HY.out, this, HL.out, HM.out, val_limbs, val_limbs]
        have HC := Lib.hid hc; clear hc
        go_wp2_with fail
        go_quiet (fail)
        go_wp2_with fail
        go_quiet ((go_at_call 204; exact quiet_same2 (cmp_u32_c _ _ _)))
        go_wp2_with fail
        go_ret
        refine ⟨?_, ddd _ _ _ _⟩
        rw [HC.out]
        rfl
    . have he : L = M := list_eq_of (by rw [h1.len, k1.len]) (fun t => HZ.out t (by omega))
      have hc : cmpI (val xs) (val ys) = 0 := by
       have e2 : val xs = val ys := by rw [<- val_limbs (val xs), <- val_limbs (val ys), <- HL.out, <- HM.out, he]
       rw [e2, cmpI_self]
      have HC := Lib.hid hc; clear hc he
      go_wp2_with fail
      go_ret
      exact ⟨by rw [HC.out]; rfl, _, rfl⟩
 . have hb : ((n1 : Int) == (m1 : Int)) = false := by simp; omega
   have hc : cmpI (n1 : Int) (m1 : Int) = cmpI (val xs) (val ys) := by
    have := cmpI_len (m := val xs) (n := val ys) (by rw [<- HL.out, <- HM.out, h1.len, k1.len]; exact hne)
    rwa [<- HL.out, <- HM.out, h1.len, k1.len] at this
   have HC := Lib.hid hc; clear hc
   go_wp2_with fail
   refine (cmp_int_c _ _ _).mono ?_
   rintro e w' ⟨rfl, rfl⟩
   go_wp2_with fail
   go_ret
   exact ⟨by rw [HC.out]; rfl, 0, rfl⟩
end Go.Proofs.YtemdkkphmldgjaaGreatDoor.Q
namespace Go.Proofs.YtemdkkphmldgjaaGreatDoor.Q
open Go.RowKit NatMath
theorem info60 : (Tryz.prog.info? 144).map (fun i => (i.zero, i.size, i.bytes)) = some (some (.int .u32 0), 1, 4) := by kernel_rfl
theorem Lst.cells {k : IntKind} {w : World} {a : Addr} {n c : Nat} {xs : List Int} (h : Lst k w (some a) n c xs) : ∀ j u, (xs.map (Value.int k))[j]? = some u -> w.cell? (a.add j) = some u := by
 intro j u hu
 have hj : j < n := by
  have := (List.getElem?_eq_some_iff.1 hu).1
  simpa [h.len] using this
 have := h.cell j hj
 simp only [pt, Option.getD_some] at this
 rw [this]
 have hl := h.len
 rw [<- hu]
 simp [List.getD, show j < xs.length by omega]
theorem clone_c (ao : Option Addr) (n c : Nat) (xs : List Int) (w : World) (h : Lst .u32 w ao n c xs) (hn : n <= 1073741824) :
    Calls Tryz.prog 234 #[.slice ao n c] w fun e w' => ∃ ao' c', e = .returned (.slice ao' n c') /\ Own 144 .u32 w.heap.size w' ao' n c' xs /\ Below w.heap.size w w' := by
 have hroom := h.room
 have hcap := h.cap
 have hl := Lib.hid h.len
 obtain ⟨i0, hi, hz0, hz1, hz2⟩ := info_parts info60
 have hnil := fun W => Lib.run_eql_slice_nil (P := Tryz.prog) W 30 144 ao n c 0 0 Tryz.underlying30
 cases ao with
 | none =>
  have h0 : n = 0 := by
   rcases Nat.eq_zero_or_pos n with h0 | h0
   . exact h0
   . obtain ⟨a, ha⟩ := h.isSome h0; cases ha
  subst h0
  have hx : xs = [] := List.eq_nil_of_length_eq_zero hl.out
  subst hx
  go_enter Tryz.func234, Tryz.ntmps234
  go_wp2
  go_ret
  exact ⟨none, 0, rfl, ⟨World.ownsRow_nil _ _ _ _, fun _ hx => by cases hx⟩, Below.refl _ _⟩
 | some a =>
  go_enter Tryz.func234, Tryz.ntmps234
  have hown : (w.alloc (.cells #[] 144)).ownsRow w.heap.size 144 1 (.slice (some ⟨w.heap.size, 0, none⟩) 0 0) 0 [] := World.ownsRow_made w #[] 0 (Nat.le_refl _) (by unfold maxLen; omega) rfl
  have hcells := (h.below ((Below.refl w.heap.size w).alloc (Nat.le_refl _) (.cells #[] 144))).cells
  have HC := Lib.hid hcells; clear hcells
  have H := Lib.hid h; clear h
  go_wp2_with (at_builtin; refine wpList_append_own _ rfl _ _ 30 rfl w.heap.size 144 i0 (.int .u32 0) 1 4 Tryz.underlying30 hi hz0 hz1 hz2 rfl (by decide) _ _ _ rfl hown a n c (xs.map (Value.int .u32)) rfl (by simp [hl.out]) HC.out (ints_oneCell _ _) ?c1 ?c2 ?c3 ?_)
  case c1 => unfold maxLen; omega
  case c2 => omega
  case c3 => simp
  intro v' w1 hown0 hgrow _
  have hown' : w1.ownsRow w.heap.size 144 1 v' n (xs.map (Value.int .u32)) := by simpa using hown0
  clear hown0
  have hv : ∃ ao' c', v' = .slice ao' n c' := by
   rcases hown'.2 with ⟨hv, h0⟩ | ⟨g, cap, _, hv, _⟩
   . exact ⟨none, 0, by rw [hv, h0]⟩
   . exact ⟨_, cap, hv⟩
  obtain ⟨ao', c', rfl⟩ := hv
  have hb : Below w.heap.size w w1 := ((Below.refl w.heap.size w).alloc (Nat.le_refl _) (.cells #[] 144)).grown hgrow (by simp) (fun k hk => by simp [Value.ownBlock] at hk; omega)
  have hw := H.out.wf
  clear hgrow hown
  have HO := Lib.hid hown'; clear hown'
  go_wp2
  go_ret
  exact ⟨ao', c', rfl, ⟨HO.out, hw⟩, hb⟩
theorem norm_c (ao : Option Addr) (n c : Nat) (xs : List Int) (w : World) (h : Lst .u32 w ao n c xs) (hn : n <= 1073741824) :
    Calls Tryz.prog 198 #[.slice ao n c] w fun e w' => ∃ ao' n' c', n' <= n /\ e = .returned (.slice ao' n' c') /\ Own 144 .u32 w.heap.size w' ao' n' c' (limbs (val xs)) /\ Below w.heap.size w w' := by
 have hl := limbs_val_length h.ok
 rw [h.len] at hl
 go_enter Tryz.func198, Tryz.ntmps198
 go_wp2_with fail
 refine (trim_c _ _ _ xs _ h).mono ?_
 rintro e w' ⟨rfl, a1, n1, c1, rfl, h1, -⟩
 have hl1 := h1.len
 have hle : n1 <= n := by omega
 clear hl hl1
 go_wp2_with fail
 refine (clone_c _ _ _ _ _ h1 (by omega)).mono ?_
 rintro e w' ⟨a2, c2, rfl, ho, hb⟩
 go_wp2_with fail
 go_ret
 exact ⟨a2, n1, c2, hle, rfl, ho, hb⟩
theorem limbs_word (x : Int) (h0 : 0 <= x) (h1 : x <= 18446744073709551615) : val [x % 4294967296, x / 4294967296] = x.toNat := by
 simp only [val]
 omega
theorem of_c (x : Int) (w : World) (h0 : 0 <= x) (h1 : x <= 18446744073709551615) :
    Calls Tryz.prog 149 #[.int .u64 x] w fun e w' => ∃ ao' n' c', n' <= 2 /\ e = .returned (.slice ao' n' c') /\ Own 144 .u32 w.heap.size w' ao' n' c' (limbs x.toNat) /\ Below w.heap.size w w' := by
 have ho : Own 144 .u32 w.heap.size (w.alloc (.cells #[.int .u32 (x % 4294967296), .int .u32 (x / 4294967296)] 144)) (some ⟨w.heap.size, 0, none⟩) 2 2 [x % 4294967296, x / 4294967296] := by
  refine ⟨World.ownsRow_lit w #[.int .u32 (x % 4294967296), .int .u32 (x / 4294967296)] 2 (Nat.le_refl _) (by unfold maxLen; omega) rfl, ?_⟩
  intro y hy
  simp at hy
  rcases hy with rfl | rfl <;> exact wf_u32 (by omega) (by omega)
 have hv := Lib.hid (limbs_word x h0 h1)
 have HO := Lib.hid ho; clear ho
 go_enter Tryz.func149, Tryz.ntmps149
 go_wp2_with fail
 refine (trim_c _ _ _ _ _ HO.out.lst).mono ?_
 rintro e w' ⟨rfl, a1, n1, c1, rfl, k1, hh⟩
 go_wp2_with fail
 go_ret
 have hlen := k1.len
 have hle := limbs_val_length HO.out.lst.ok
 rw [hlen] at hle
 refine ⟨a1, n1, c1, hle, rfl, ?_, (Below.refl _ _).alloc (Nat.le_refl _) _⟩
 rw [<- hv.out, limbs_take HO.out.lst.ok, hlen]
 exact HO.out.head hh hle
end Go.Proofs.YtemdkkphmldgjaaGreatDoor.Q
namespace Go.Proofs.YtemdkkphmldgjaaGreatDoor.Q
open Go.RowKit NatMath
theorem divideByWord_c (B : Nat) (ao : Option Addr) (n c : Nat) (xs : List Int) (wd : Nat) (w : World) (h : Own 144 .u32 B w ao n c xs) (h0 : 0 < wd) (h1 : wd <= 4294967295) :
    Calls Tryz.prog 199 #[.slice ao n c, .int .u32 wd] w fun e w' => ∃ ys, e = .returned (.int .u32 ((val xs % wd : Nat) : Int)) /\ Own 144 .u32 B w' ao n c ys /\ val ys = val xs / wd /\ w.grownBy w' (Value.slice ao n c).ownBlock := by
 have hst := DivInv.start h.lst.ok h0 (n := n) (by rw [h.len]; exact Nat.le_refl _)
 have hlen := Lib.hid h.len
 have hroom := h.lst.room
 have hcap := h.lst.cap
 have H := h
 go_enter Tryz.func199, Tryz.ntmps199
 go_wp2_with fail
 go_loopw [5, 6] (fun s5 i wr => ∃ (j r : Nat) (D : List Int), j <= n /\ i = .int .i64 ((j : Int) - 1) /\ s5 = .int .u32 r /\ DivInv xs D wd r j /\ Own 144 .u32 B wr ao n c D /\ w.grownBy wr (Value.slice ao n c).ownBlock)
   (fun _ i _ => (intOf i + 1).toNat)
 case atStart => exact ⟨n, 0, xs, Nat.le_refl _, rfl, rfl, hst, H, World.grownBy.refl _ _⟩
 case round =>
  obtain ⟨j, r, D, hj, rfl, rfl, hinv, ho, hg⟩ := hrel
  have hrl := hinv.lt
  by_cases hlt : 0 < j
  . have hia := ix ho.lst (j - 1) (by omega)
    rw [show ((j - 1 : Nat) : Int) = (j : Int) - 1 from by omega] at hia
    obtain ⟨x, HX, hx0, hx1, hcx⟩ := ho.lst.at (j - 1) (by omega)
    have hfz := ho.frozen (i := j - 1) (by omega)
    have hs := hinv.step hlt (by rw [hlen.out]; exact hj) HX.out h1
    have hq := hs.ok.getD (j - 1)
    have hqe : (D.set (j - 1) (((r : Int) * 4294967296 + x) / (wd : Int))).getD (j - 1) 0 = ((r : Int) * 4294967296 + x) / (wd : Int) := by
     have : j - 1 < D.length := by rw [ho.len]; omega
     simp [List.getD, this]
    rw [hqe] at hq
    have hr2 : ((((r : Int) * 4294967296 + x) % (wd : Int)).toNat : Int) = ((r : Int) * 4294967296 + x) % (wd : Int) := Int.toNat_of_nonneg (Int.emod_nonneg _ (by omega))
    have R1 := Lib.hid hs
    have R2 := Lib.hid (ho.set (i := j - 1) (by omega) (wf_u32 hq.1 hq.2))
    have R3 := Lib.hid (grown_trans hg (ho.setOnly (i := j - 1) (by omega) (.int .u32 (((r : Int) * 4294967296 + x) / (wd : Int)))))
    have R4 := Lib.hid hr2
    clear hs hq hqe hr2 hst H h
    go_wp2_with (go_at_call 235; refine (div32_c _ _ _ _ (by omega) (by omega) (by omega) (by omega) (by omega)).mono ?_; rintro e w' ⟨rfl, q, rfl⟩)
    go_roundw
    case rel => exact ⟨j - 1, (((r : Int) * 4294967296 + x) % (wd : Int)).toNat, _, by omega, by go_num, by rw [R4.out], R1.out, R2.out, grown_drewN_set R3.out q⟩
    case measure => simp [intOf]; omega
  . obtain rfl : j = 0 := by omega
    have hd := hinv.done
    have HD := Lib.hid hd; clear hd
    go_wp2_with fail
    go_ret
    exact ⟨D, by rw [<- HD.out.2]; rfl, ho, HD.out.1, hg⟩
end Go.Proofs.YtemdkkphmldgjaaGreatDoor.Q
namespace Go.Proofs.YtemdkkphmldgjaaGreatDoor.Q.NatMath
open Go.Lib
def unit (k : Nat) : Nat := 100000000 / 10 ^ k
theorem unit_zero : unit 0 = 100000000 := by decide
theorem unit_succ (k : Nat) : unit k / 10 = unit (k + 1) := by unfold unit; rw [Nat.div_div_eq_div_mul, Nat.pow_succ]
theorem unit_pos {k : Nat} (h : k <= 8) : 0 < unit k := by
 unfold unit
 have h1 : 10 ^ k <= 10 ^ 8 := Nat.pow_le_pow_right (by omega) h
 exact Nat.div_pos (by omega) (Nat.pow_pos (by omega))
theorem unit_nine : unit 9 = 0 := by decide
theorem unit_le (k : Nat) : unit k <= 100000000 := Nat.div_le_self _ _
def digit (x t : Nat) : Nat := 48 + x / unit t % 10
def padTo (x k : Nat) : List UInt8 := (List.range k).map fun t => UInt8.ofNat (digit x t)
theorem padTo_zero (x : Nat) : padTo x 0 = [] := rfl
theorem padTo_succ (x k : Nat) : padTo x (k + 1) = padTo x k ++ [UInt8.ofNat (digit x k)] := by simp [padTo, List.range_succ]
theorem padTo_length (x k : Nat) : (padTo x k).length = k := by simp [padTo]
theorem decDigits_ge {u : Nat} (h : 10 <= u) : decDigits u = decDigits (u / 10) ++ [UInt8.ofNat (48 + u % 10)] := by rw [decDigits, dif_neg (by omega)]
theorem decDigits_chunk {m : Nat} (h : 1000000000 <= m) : decDigits m = decDigits (m / 1000000000) ++ padTo (m % 1000000000) 9 := by
 rw [decDigits_ge (by omega), decDigits_ge (u := m / 10) (by omega), decDigits_ge (u := m / 10 / 10) (by omega), decDigits_ge (u := m / 10 / 10 / 10) (by omega), decDigits_ge (u := m / 10 / 10 / 10 / 10) (by omega),
   decDigits_ge (u := m / 10 / 10 / 10 / 10 / 10) (by omega), decDigits_ge (u := m / 10 / 10 / 10 / 10 / 10 / 10) (by omega), decDigits_ge (u := m / 10 / 10 / 10 / 10 / 10 / 10 / 10) (by omega), decDigits_ge (u := m / 10 / 10 / 10 / 10 / 10 / 10 / 10 / 10) (by omega)]
 have u0 : unit 0 = 100000000 := by decide
 have u1 : unit 1 = 10000000 := by decide
 have u2 : unit 2 = 1000000 := by decide
 have u3 : unit 3 = 100000 := by decide
 have u4 : unit 4 = 10000 := by decide
 have u5 : unit 5 = 1000 := by decide
 have u6 : unit 6 = 100 := by decide
 have u7 : unit 7 = 10 := by decide
 have u8 : unit 8 = 1 := by decide
 simp only [padTo, List.range, List.range.loop, List.map_cons, List.map_nil, digit, u0, u1, u2, u3, u4, u5, u6, u7, u8, List.append_assoc, List.cons_append, List.nil_append]
 have e : m / 10 / 10 / 10 / 10 / 10 / 10 / 10 / 10 / 10 = m / 1000000000 := by omega
 rw [e]
 congr 1
 have a0 : m / 10 / 10 / 10 / 10 / 10 / 10 / 10 / 10 % 10 = m % 1000000000 / 100000000 % 10 := by omega
 have a1 : m / 10 / 10 / 10 / 10 / 10 / 10 / 10 % 10 = m % 1000000000 / 10000000 % 10 := by omega
 have a2 : m / 10 / 10 / 10 / 10 / 10 / 10 % 10 = m % 1000000000 / 1000000 % 10 := by omega
 have a3 : m / 10 / 10 / 10 / 10 / 10 % 10 = m % 1000000000 / 100000 % 10 := by omega
 have a4 : m / 10 / 10 / 10 / 10 % 10 = m % 1000000000 / 10000 % 10 := by omega
 have a5 : m / 10 / 10 / 10 % 10 = m % 1000000000 / 1000 % 10 := by omega
 have a6 : m / 10 / 10 % 10 = m % 1000000000 / 100 % 10 := by omega
 have a7 : m / 10 % 10 = m % 1000000000 / 10 % 10 := by omega
 have a8 : m % 10 = m % 1000000000 / 1 % 10 := by omega
 rw [a0, a1, a2, a3, a4, a5, a6, a7, a8]
theorem chunks_le {m n k : Nat} (hm : m < 4294967296 ^ n) (hk : 1000000000 ^ k <= m) : k <= 2 * n := by
 rcases Nat.lt_or_ge (2 * n) k with h | h
 . have h1 : 536870912 ^ k <= 1000000000 ^ k := Nat.pow_le_pow_left (by omega) k
   have h2 : (536870912 : Nat) = 2 ^ 29 := by decide
   have h3 : (4294967296 : Nat) = 2 ^ 32 := by decide
   rw [h2, <- Nat.pow_mul] at h1
   rw [h3, <- Nat.pow_mul] at hm
   have h4 : 2 ^ (29 * k) < 2 ^ (32 * n) := by omega
   have h5 := (Nat.pow_lt_pow_iff_right (show 1 < 2 by omega)).1 h4
   omega
 . exact h
def partN (N k : Nat) : Nat := N / 1000000000 ^ k
theorem partN_zero (N : Nat) : partN N 0 = N := by simp [partN]
theorem partN_div (N k : Nat) : partN N k / 1000000000 = partN N (k + 1) := by unfold partN; rw [Nat.div_div_eq_div_mul, Nat.pow_succ]
def chunkN (N k : Nat) : Nat := partN N k % 1000000000
theorem chunkN_lt (N k : Nat) : chunkN N k <= 999999999 := by unfold chunkN; omega
def chL (N k : Nat) : List Int := (List.range k).map fun t => (chunkN N t : Int)
theorem chL_succ (N k : Nat) : chL N (k + 1) = chL N k ++ [(chunkN N k : Int)] := by simp [chL, List.range_succ]
theorem chL_getD (N k t : Nat) (h : t < k) : (chL N k).getD t 0 = (chunkN N t : Int) := by simp [chL, List.getD, h]
theorem chL_bound (N k : Nat) : ∀ x ∈ chL N k, 0 <= x /\ x <= 999999999 := by
 intro x hx
 simp only [chL, List.mem_map, List.mem_range] at hx
 obtain ⟨t, _, rfl⟩ := hx
 have := chunkN_lt N t
 omega
theorem decDigits_step {N j : Nat} (h : partN N (j + 1) ≠ 0) : decDigits (partN N j) = decDigits (partN N (j + 1)) ++ padTo (chunkN N j) 9 := by
 rw [<- partN_div] at h |-
 unfold chunkN
 exact decDigits_chunk (by omega)
theorem partN_chunks {N n k : Nat} (hN : N < 4294967296 ^ n) (h : partN N k ≠ 0) : k <= 2 * n := by
 refine chunks_le hN ?_
 rcases Nat.lt_or_ge N (1000000000 ^ k) with hlt | hge
 . exact absurd (Nat.div_eq_of_lt hlt) h
 . exact hge
theorem partN_mono {N j k : Nat} (h : partN N j = 0) (hk : j <= k) : partN N k = 0 := by
 induction hk with
 | refl => exact h
 | step _ ih => rw [<- partN_div, ih]
theorem nDigits_le {n : Nat} : ∀ {m : Nat}, m < 10 ^ (n + 1) -> nDigits m <= n + 1 := by
 induction n with
 | zero => intro m h; rw [nDigits_small (by simpa using h)]; omega
 | succ n ih =>
  intro m h
  by_cases h10 : m < 10
  . rw [nDigits_small h10]; omega
  . rw [nDigits_big h10]
    have := ih (m := m / 10) (by rw [Nat.pow_succ] at h; omega)
    omega
theorem digits_le {m n : Nat} (h : m < 4294967296 ^ n) : (decDigits m).length <= 10 * n + 1 := by
 rw [decDigits_length]
 refine nDigits_le ?_
 have h1 : 4294967296 ^ n <= 10000000000 ^ n := Nat.pow_le_pow_left (by omega) n
 have h2 : (10000000000 : Nat) = 10 ^ 10 := by decide
 rw [h2, <- Nat.pow_mul] at h1
 have h3 : 10 ^ (10 * n) <= 10 ^ (10 * n + 1) := Nat.pow_le_pow_right (by omega) (by omega)
 omega
theorem partN_le (N k : Nat) : partN N k <= N := Nat.div_le_self _ _
end Go.Proofs.YtemdkkphmldgjaaGreatDoor.Q.NatMath
