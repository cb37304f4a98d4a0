/-
  DiskSafe.
-/
import Derived.Test.YtbnomkcliejcaaaDskLaw3
import Derived.Deep.RegionHeld3
namespace Go.Proofs.Ytbnomkcliejcaaa
open Go.RowKit Ds
attribute [local go_sem] Oper.semAt_some
set_option linter.unusedSimpArgs false

section
variable {P : Program} {md : Region.Mode} {l : List Oper} {Q : Exit → Act → World → Prop} {S : World → Prop}
theorem reg_take {i : Nat} {oi : Oper} {v : Value} {fuel : Nat} {listed : Array Bool} {a : Act} {w : World} (hi : l[i]? = some oi)
    (hs : Region.noSelect l.toArray = true) (hf : Region.free md l.toArray listed i = true) (hr : (Region.ready md l.toArray listed).contains i = true)
    (hQ : ∀ c a w, Q (.panic c) (a.put oi.dst v) w → Q (.panic c) a w) (hwant : Region.wanted oi (yielded l.toArray a.tmps) = true) (hS : S w) (hy : ∀ w, S w → (execOp a.eval oi).run P w = .ok (.value v) w)
    (h : wpAnyH P md l.toArray Q S fuel (listed.setIfInBounds i true) (a.put oi.dst v) w) : wpAnyH P md l.toArray Q S (fuel + 1) listed a w :=
  wpAnyH_take (by simpa using hi) hs hf hr hQ (Or.inl ⟨hwant, hy⟩) hS h
end
section
variable {w : World} {ev : Operand → Value} {d : Option Tmp} {x y : Operand} {ty t t' : TypeId} {pos : String} {after : Array Edge} {gd : Option (Nat × Bool)}
theorem exec_minBy {X Y V : Value} (hx : ev x = X) (hy : ev y = Y) (hrun : ∀ ts ty, (Builtin.min_ ts ty #[X, Y]).run Try.prog w = .ok V w) :
    (execOp ev ⟨d, .call { callee := .builtin .min, args := #[x, y], argTypes := #[t, t'] }, ty, pos, after, gd⟩).run Try.prog w = .ok (.value V) w := by
  unfold execOp
  simp only [resolve, invoke, builtin, Sem.run_bind, Sem.run_pure, Result.andThen_ok, List.map_toArray, List.map_cons, List.map_nil, hx, hy, hrun]
theorem exec_sliceBy {X Y V : Value} (hx : ev x = X) (hy : ev y = Y) (hrun : (Instr.sliceAt t X none (some Y) none).run Try.prog w = .ok V w) :
    (execOp ev ⟨d, .slice t x none (some y) none, ty, pos, after, gd⟩).run Try.prog w = .ok (.value V) w := by
  simp [execOp, hx, hy, hrun, Result.andThen]
end
namespace Ds
/-- A disk that is alive and has no fuse. -/
theorem free_write {d : Dk} {n i : Nat} {b : List Int} (hk : d.Ok n) (hd : d.dead = false) (hf : d.fused = false) (hi : i < n) (hb : b.length ≤ 64) : d.write i b = (0, d.put i b) := by
  have hl := hk.len
  have e : d.burn = (true, d) := by unfold Dk.burn; rw [hf]; rfl
  unfold Dk.write
  rw [if_neg (by rw [hd]; decide), if_pos (by omega), if_pos hb, e]
  rfl
theorem free_sync {d : Dk} (hd : d.dead = false) (hf : d.fused = false) : d.sync = (0, d.wipe) := by
  have e : d.burn = (true, d) := by unfold Dk.burn; rw [hf]; rfl
  unfold Dk.sync
  rw [if_neg (by rw [hd]; decide), e]
  rfl
def SafeI (A : List Int) (j : Nat) (d : Dk) : Prop := d.Ok 6 ∧ d.dead = false ∧ d.fused = false ∧ ∀ i, i < j → d.cur.getD i [] = pad A
theorem SafeI.next {A : List Int} {j : Nat} {d : Dk} (h : SafeI A j d) (hj : j < 6) (hA : A.length ≤ 64) (hb : Bytes A) : SafeI A (j + 1) (d.put j A) := by
  obtain ⟨hk, hd, hf, hc⟩ := h
  refine ⟨hk.put hj hA hb, hd, hf, fun i hi => ?_⟩
  have hl := hk.len
  show (d.cur.set j (pad A)).getD i [] = pad A
  by_cases hij : i = j
  · subst hij
    simp [List.getD, show i < d.cur.length by omega]
  · have := hc i (by omega)
    rw [← this]
    simp [List.getD, List.getElem?_set_ne (show j ≠ i by omega)]
theorem crashed_none (keep : List Bool) : ∀ (cs : List Sec) (k : Nat), crashed keep k cs (List.replicate cs.length none) = cs
  | [], _ => rfl
  | c :: cs, k => by
    show c :: crashed keep k cs (List.replicate cs.length none) = c :: cs
    rw [crashed_none keep cs k]
theorem crashed_one (keep : List Bool) (o : Sec) : ∀ (cs : List Sec) (l k : Nat), l < cs.length → crashed keep k cs ((List.replicate cs.length none).set l (some o)) = cs.set l (if keep.getD k false then cs.getD l [] else o)
  | [], _, _, h => by simp at h
  | c :: cs, 0, k, _ => by
    show (if keep.getD k false then c else o) :: crashed keep (k + 1) cs (List.replicate cs.length none) = _
    rw [crashed_none]
    rfl
  | c :: cs, l + 1, k, h => by
    show c :: crashed keep k cs ((List.replicate cs.length none).set l (some o)) = _
    rw [crashed_one keep o cs l k (by simpa using h)]
    rfl
/-- The disk after the power was lost. -/
theorem safe_crash {A B : List Int} {l : Nat} {d : Dk} {keep : List Bool} (h : SafeI A 6 d) (hl : l < 6) : ∀ i, i < 6 → ((d.wipe.put l B).crash keep).cur.getD i [] = if i = l ∧ keep.getD 0 false = true then pad B else pad A := by
  obtain ⟨hk, hd, hf, hc⟩ := h
  have hl6 := hk.len
  have ho : d.wipe.old.getD l none = none := by simp [Dk.wipe, List.getD, List.getElem?_replicate]; split <;> rfl
  have e : ((d.wipe.put l B).crash keep).cur = (d.cur.set l (pad B)).set l (if keep.getD 0 false then (d.cur.set l (pad B)).getD l [] else d.cur.getD l []) := by
    show crashed keep 0 (d.cur.set l (pad B)) ((List.replicate d.old.length none).set l (some ((d.wipe.old.getD l none).getD (d.cur.getD l [])))) = _
    rw [ho]
    have := crashed_one keep (d.cur.getD l []) (d.cur.set l (pad B)) l 0 (by simp; omega)
    rw [List.length_set] at this
    rw [show d.old.length = d.cur.length by rw [hk.len, hk.olen]]
    exact this
  intro i hi
  rw [e, List.set_set]
  by_cases hil : i = l
  · subst hil
    have h1 : (d.cur.set i (pad B)).getD i [] = pad B := by simp [List.getD, show i < d.cur.length by omega]
    have h2 : ∀ x, (d.cur.set i x).getD i [] = x := fun x => by simp [List.getD, show i < d.cur.length by omega]
    rw [h2, h1, hc i hi]
    by_cases hk0 : keep.getD 0 false = true
    · rw [if_pos hk0, if_pos ⟨rfl, hk0⟩]
    · rw [if_neg hk0, if_neg (fun x => hk0 x.2)]
  · have hn : (if i = l ∧ keep.getD 0 false = true then pad B else pad A) = pad A := if_neg (fun x => hil x.1)
    rw [hn, ← hc i hi]
    simp [List.getD, List.getElem?_set_ne (show l ≠ i by omega)]
end Ds
theorem later6 (L : Int) : ∃ l : Nat, (IntKind.i64.wrap (L.tmod 6 + 6)).tmod 6 = (l : Int) ∧ l < 6 := by
  have h1 : -6 < L.tmod 6 := Int.lt_tmod_of_pos L (by omega)
  have h2 : L.tmod 6 < 6 := Int.tmod_lt_of_pos L (by omega)
  have hw : IntKind.i64.wrap (L.tmod 6 + 6) = L.tmod 6 + 6 := by rw [IntKind.wrap_i64]; omega
  rw [hw, Int.tmod_eq_emod_of_nonneg (by omega)]
  exact ⟨((L.tmod 6 + 6) % 6).toNat, by omega, by omega⟩
theorem crashL_c {w0 w : World} {g a m c n : Nat} {d : Dk} (h : DskN w0 w g a m c d) (hk : d.Ok n) {ko : Option Addr} {kn kc : Nat} {keep : List Bool} (hK : LstT w ko kn kc keep) :
    Calls Try.prog 19 #[.pointer (some ⟨g, 0, none⟩), .slice ko kn kc] w fun e w' =>
      ∃ g' a' m' c', e = .returned (.pointer (some ⟨g', 0, none⟩)) ∧ DskN w0 w' g' a' m' c' (d.crash keep) ∧ Below w.heap.size w w' := by
  have hz0 := h.bel.size
  refine (crash_c h.dsk hk hK).mono fun _ _ hh => ?_
  obtain ⟨g', a', m', c', r1, r2, r3, r4, r5, r6⟩ := hh
  exact ⟨g', a', m', c', r1, ⟨r2, by omega, by omega, by omega, h.bel.trans (r6.mono hz0)⟩, r6⟩
section
variable {w : World} {ops : Array Oper} {rest : List Oper} {a : Act} {Q : Exit → Act → World → Prop} {d : Option Tmp} {x y : Operand} {ty t : TypeId} {pos : String} {after : Array Edge}
theorem wpList_sliceLowBy {X Y V : Value} (hx : a.eval x = X) (hy : a.eval y = Y) (hrun : (Instr.sliceAt t X (some Y) none none).run Try.prog w = .ok V w) (h : wpList Try.prog ops Q rest (a.put d V) w) :
    wpList Try.prog ops Q (⟨d, .slice t x (some y) none none, ty, pos, after, none⟩ :: rest) a w := by
  refine wpList_plain rfl fun K hK => ?_
  unfold Oper.wp
  simp [execOp, hx, hy, hrun, Result.andThen]
  exact hK _ _ h
end
/-- The rest of a row of 64 bytes from k on. -/
theorem cut_low {B : Nat} {w : World} {xo : Option Addr} {xc : Nat} {xs : List Int} (h : Own 5 .u8 B w xo 64 xc xs) {k : Nat} (hk : k ≤ 64) : ∃ yo yc, (∀ W, (Instr.sliceAt 27 (.slice xo 64 xc) (some (.int .i64 (k : Int))) none none).run Try.prog W = .ok (.slice yo (64 - k) yc) W) ∧ Lst .u8 w yo (64 - k) yc (xs.drop k) := by
  have hl := h.len
  rcases h.cases with ⟨_, h1, _⟩ | ⟨q, rfl, _, _, hn, hc⟩
  · omega
  · obtain ⟨inf, hinf, hs⟩ := Option.map_eq_some_iff.1 size5
    refine ⟨if xc = k then some ⟨q, 0, none⟩ else some ((⟨q, 0, none⟩ : Addr).add k), xc - k, fun W => ?_, ?_⟩
    · have h1 : (0 : Int) ≤ (k : Int) ∧ (k : Int) ≤ 64 := by omega
      simp [Instr.sliceAt, run_underlying Try.underlying27, Instr.slice, Instr.sliceBounds, Instr.sliceBound, asIntOf, sizeOf, typeInfo, hinf, hs, hk, Result.andThen]
    · have hL := h.lst
      have hroom := hL.room
      refine ⟨by simp [hl], by omega, by omega, fun h0 => ?_, fun i hi => ?_, fun x hx => hL.wf x (List.mem_of_mem_drop hx)⟩
      · split
        · exact ⟨_, rfl⟩
        · exact ⟨_, rfl⟩
      · rw [if_neg (by omega)]
        have e1 : pt (some ((⟨q, 0, none⟩ : Addr).add k)) i = pt (some ⟨q, 0, none⟩) (k + i) := by
          have e2 := pt_own q k
          simp only [pt, Option.getD_some] at e2
          simp only [pt, Option.getD_some, e2]
          have e3 := pt_own q (k + i)
          simp only [pt, Option.getD_some] at e3
          rw [e3]
          unfold Addr.add
          split <;> simp_all
        rw [e1, hL.cell (k + i) (by omega)]
        simp [List.getD]
theorem pad_take {b : List Int} {k : Nat} (hb : b.length = k) : (pad b).take k = b := by
  unfold pad
  rw [List.take_append_of_le_length (by omega), List.take_of_length_le (by omega)]
theorem pad_drop {b : List Int} {k : Nat} (hb : b.length = k) : (pad b).drop k = List.replicate (64 - k) 0 := by
  unfold pad
  rw [List.drop_append_of_le_length (by omega), List.drop_of_length_le (by omega), hb, List.nil_append]
/-- What the law is given. -/
structure SafeV (W : World) (ao : Option Addr) (an ac : Nat) (xs : List Int) (bo : Option Addr) (bn bc : Nat) (ys : List Int) (ko : Option Addr) (kn kc : Nat) (ks : List Bool) : Prop where
  a : Lst .u8 W ao an ac xs
  a0 : ao = none → ac = 0
  b : Lst .u8 W bo bn bc ys
  b0 : bo = none → bc = 0
  k : LstT W ko kn kc ks
  k0 : ko = none → kc = 0
set_option maxHeartbeats 6400000 in
set_option maxRecDepth 100000 in
theorem safeLaw_c (ao : Option Addr) (an ac : Nat) (xs : List Int) (bo : Option Addr) (bn bc : Nat) (ys : List Int) (L : Int) (ko : Option Addr) (kn kc : Nat) (ks : List Bool) (w : World) (_hl0 : -9223372036854775808 ≤ L) (_hl1 : L ≤ 9223372036854775807) (hS : SafeV w ao an ac xs bo bn bc ys ko kn kc ks) :
    Calls Try.prog 4 #[.agg #[.slice ao an ac, .slice bo bn bc, .int .i64 L, .slice ko kn kc]] w fun e w' => e = .returned (.bool true) ∧ Below w.heap.size w w' := by
  obtain ⟨ka, hka⟩ : ∃ k, min an 64 = k := ⟨_, rfl⟩
  obtain ⟨kb, hkb⟩ : ∃ k, min bn 64 = k := ⟨_, rfl⟩
  obtain ⟨kk, hkk⟩ : ∃ k, min kn 9 = k := ⟨_, rfl⟩
  have hminA := fun ts ty W => run_min ts ty an 64 W
  have hminB := fun ts ty W => run_min ts ty bn 64 W
  have hminK := fun ts ty W => run_min ts ty kn 9 W
  rw [hka] at hminA
  rw [hkb] at hminB
  rw [hkk] at hminK
  have hcutA := cut8 ao an ac ka (by have := hS.a.cap; omega) hS.a0
  have hcutB := cut8 bo bn bc kb (by have := hS.b.cap; omega) hS.b0
  have hcutK := cutT ko kn kc kk (by have := hS.k.cap; omega) hS.k0
  have c0 : (w.alloc (.cells #[.slice ao an ac, .slice bo bn bc, .int .i64 L, .slice ko kn kc] 44)).drew.cell? ⟨w.heap.size, 0, none⟩ = some (.slice ao an ac) := (Arr.new w 44 [.slice ao an ac, .slice bo bn bc, .int .i64 L, .slice ko kn kc]).cell 0
  have c1 : (w.alloc (.cells #[.slice ao an ac, .slice bo bn bc, .int .i64 L, .slice ko kn kc] 44)).drew.cell? ⟨w.heap.size, 1, none⟩ = some (.slice bo bn bc) := (Arr.new w 44 [.slice ao an ac, .slice bo bn bc, .int .i64 L, .slice ko kn kc]).cell 1
  have c2 : (w.alloc (.cells #[.slice ao an ac, .slice bo bn bc, .int .i64 L, .slice ko kn kc] 44)).drew.cell? ⟨w.heap.size, 2, none⟩ = some (.int .i64 L) := (Arr.new w 44 [.slice ao an ac, .slice bo bn bc, .int .i64 L, .slice ko kn kc]).cell 2
  have c3 : (w.alloc (.cells #[.slice ao an ac, .slice bo bn bc, .int .i64 L, .slice ko kn kc] 44)).drew.cell? ⟨w.heap.size, 3, none⟩ = some (.slice ko kn kc) := (Arr.new w 44 [.slice ao an ac, .slice bo bn bc, .int .i64 L, .slice ko kn kc]).cell 3
  go_enter Try.func4, Try.ntmps4
  go_wp2_with fail
  refine wp_region_held_drew (S := fun w' => w'.cell? ⟨w.heap.size, 0, none⟩ = some (.slice ao an ac) ∧ w'.cell? ⟨w.heap.size, 1, none⟩ = some (.slice bo bn bc) ∧ w'.cell? ⟨w.heap.size, 2, none⟩ = some (.int .i64 L) ∧ w'.cell? ⟨w.heap.size, 3, none⟩ = some (.slice ko kn kc)) (by kernel_rfl) (⟨c0, c1, c2, c3⟩) (fun hHeld => ?_)
  refine reg_take (i := 0) rfl (by kernel_rfl) (by kernel_rfl) (by kernel_rfl) (fun _ _ _ h => h) (by rfl) hHeld (v := ?v1) ?hy1 ?rest1
  case hy1 => (intro w' hSw; go_simp <;> try rfl)
  try simp only [Act.put, List.setIfInBounds_toArray, List.set_cons_zero, List.set_cons_succ]
  refine reg_take (i := 1) rfl (by kernel_rfl) (by kernel_rfl) (by kernel_rfl) (fun _ _ _ h => h) (by rfl) hHeld (v := ?v2) ?hy2 ?rest2
  case hy2 => (intro w' hSw; obtain ⟨k0, k1, k2, k3⟩ := hSw; go_simp <;> try rfl)
  try simp only [Act.put, List.setIfInBounds_toArray, List.set_cons_zero, List.set_cons_succ]
  refine reg_take (i := 2) rfl (by kernel_rfl) (by kernel_rfl) (by kernel_rfl) (fun _ _ _ h => h) (by rfl) hHeld (v := ?v3) ?hy3 ?rest3
  case hy3 => (intro w' hSw; go_simp <;> try rfl)
  try simp only [Act.put, List.setIfInBounds_toArray, List.set_cons_zero, List.set_cons_succ]
  refine reg_take (i := 3) rfl (by kernel_rfl) (by kernel_rfl) (by kernel_rfl) (fun _ _ _ h => h) (by rfl) hHeld (v := ?v4) ?hy4 ?rest4
  case hy4 => (intro w' hSw; obtain ⟨k0, k1, k2, k3⟩ := hSw; go_simp <;> try rfl)
  try simp only [Act.put, List.setIfInBounds_toArray, List.set_cons_zero, List.set_cons_succ]
  refine reg_take (i := 4) rfl (by kernel_rfl) (by kernel_rfl) (by kernel_rfl) (fun _ _ _ h => h) (by rfl) hHeld (v := ?v5) ?hy5 ?rest5
  case hy5 => (intro w' hSw; go_simp <;> try rfl)
  try simp only [Act.put, List.setIfInBounds_toArray, List.set_cons_zero, List.set_cons_succ]
  refine reg_take (i := 5) rfl (by kernel_rfl) (by kernel_rfl) (by kernel_rfl) (fun _ _ _ h => h) (by rfl) hHeld (v := .int .i64 (ka : Int)) ?hy6 ?rest6
  case hy6 => (intro w' hSw; exact exec_minBy (X := .int .i64 (an : Int)) (Y := .int .i64 64) (by rfl) (by rfl) (fun ts ty => hminA ts ty w'))
  try simp only [Act.put, List.setIfInBounds_toArray, List.set_cons_zero, List.set_cons_succ]
  refine reg_take (i := 6) rfl (by kernel_rfl) (by kernel_rfl) (by kernel_rfl) (fun _ _ _ h => h) (by rfl) hHeld (v := .slice ao ka ac) ?hy7 ?rest7
  case hy7 => (intro w' hSw; exact exec_sliceBy (X := .slice ao an ac) (Y := .int .i64 (ka : Int)) (by rfl) (by rfl) (hcutA w'))
  try simp only [Act.put, List.setIfInBounds_toArray, List.set_cons_zero, List.set_cons_succ]
  refine reg_take (i := 7) rfl (by kernel_rfl) (by kernel_rfl) (by kernel_rfl) (fun _ _ _ h => h) (by rfl) hHeld (v := ?v8) ?hy8 ?rest8
  case hy8 => (intro w' hSw; go_simp <;> try rfl)
  try simp only [Act.put, List.setIfInBounds_toArray, List.set_cons_zero, List.set_cons_succ]
  refine reg_take (i := 8) rfl (by kernel_rfl) (by kernel_rfl) (by kernel_rfl) (fun _ _ _ h => h) (by rfl) hHeld (v := ?v9) ?hy9 ?rest9
  case hy9 => (intro w' hSw; obtain ⟨k0, k1, k2, k3⟩ := hSw; go_simp <;> try rfl)
  try simp only [Act.put, List.setIfInBounds_toArray, List.set_cons_zero, List.set_cons_succ]
  refine reg_take (i := 9) rfl (by kernel_rfl) (by kernel_rfl) (by kernel_rfl) (fun _ _ _ h => h) (by rfl) hHeld (v := ?v10) ?hy10 ?rest10
  case hy10 => (intro w' hSw; go_simp <;> try rfl)
  try simp only [Act.put, List.setIfInBounds_toArray, List.set_cons_zero, List.set_cons_succ]
  refine reg_take (i := 10) rfl (by kernel_rfl) (by kernel_rfl) (by kernel_rfl) (fun _ _ _ h => h) (by rfl) hHeld (v := ?v11) ?hy11 ?rest11
  case hy11 => (intro w' hSw; obtain ⟨k0, k1, k2, k3⟩ := hSw; go_simp <;> try rfl)
  try simp only [Act.put, List.setIfInBounds_toArray, List.set_cons_zero, List.set_cons_succ]
  refine reg_take (i := 11) rfl (by kernel_rfl) (by kernel_rfl) (by kernel_rfl) (fun _ _ _ h => h) (by rfl) hHeld (v := ?v12) ?hy12 ?rest12
  case hy12 => (intro w' hSw; go_simp <;> try rfl)
  try simp only [Act.put, List.setIfInBounds_toArray, List.set_cons_zero, List.set_cons_succ]
  refine reg_take (i := 12) rfl (by kernel_rfl) (by kernel_rfl) (by kernel_rfl) (fun _ _ _ h => h) (by rfl) hHeld (v := .int .i64 (kb : Int)) ?hy13 ?rest13
  case hy13 => (intro w' hSw; exact exec_minBy (X := .int .i64 (bn : Int)) (Y := .int .i64 64) (by rfl) (by rfl) (fun ts ty => hminB ts ty w'))
  try simp only [Act.put, List.setIfInBounds_toArray, List.set_cons_zero, List.set_cons_succ]
  refine reg_take (i := 13) rfl (by kernel_rfl) (by kernel_rfl) (by kernel_rfl) (fun _ _ _ h => h) (by rfl) hHeld (v := .slice bo kb bc) ?hy14 ?rest14
  case hy14 => (intro w' hSw; exact exec_sliceBy (X := .slice bo bn bc) (Y := .int .i64 (kb : Int)) (by rfl) (by rfl) (hcutB w'))
  try simp only [Act.put, List.setIfInBounds_toArray, List.set_cons_zero, List.set_cons_succ]
  refine reg_take (i := 14) rfl (by kernel_rfl) (by kernel_rfl) (by kernel_rfl) (fun _ _ _ h => h) (by rfl) hHeld (v := ?v15) ?hy15 ?rest15
  case hy15 => (intro w' hSw; go_simp <;> try rfl)
  try simp only [Act.put, List.setIfInBounds_toArray, List.set_cons_zero, List.set_cons_succ]
  refine reg_take (i := 15) rfl (by kernel_rfl) (by kernel_rfl) (by kernel_rfl) (fun _ _ _ h => h) (by rfl) hHeld (v := ?v16) ?hy16 ?rest16
  case hy16 => (intro w' hSw; obtain ⟨k0, k1, k2, k3⟩ := hSw; go_simp <;> try rfl)
  try simp only [Act.put, List.setIfInBounds_toArray, List.set_cons_zero, List.set_cons_succ]
  refine reg_take (i := 16) rfl (by kernel_rfl) (by kernel_rfl) (by kernel_rfl) (fun _ _ _ h => h) (by rfl) hHeld (v := ?v17) ?hy17 ?rest17
  case hy17 => (intro w' hSw; go_simp <;> try rfl)
  try simp only [Act.put, List.setIfInBounds_toArray, List.set_cons_zero, List.set_cons_succ]
  refine reg_take (i := 17) rfl (by kernel_rfl) (by kernel_rfl) (by kernel_rfl) (fun _ _ _ h => h) (by rfl) hHeld (v := ?v18) ?hy18 ?rest18
  case hy18 => (intro w' hSw; go_simp <;> try rfl)
  try simp only [Act.put, List.setIfInBounds_toArray, List.set_cons_zero, List.set_cons_succ]
  refine reg_take (i := 18) rfl (by kernel_rfl) (by kernel_rfl) (by kernel_rfl) (fun _ _ _ h => h) (by rfl) hHeld (v := ?v19) ?hy19 ?rest19
  case hy19 => (intro w' hSw; go_simp <;> try rfl)
  try simp only [Act.put, List.setIfInBounds_toArray, List.set_cons_zero, List.set_cons_succ]
  refine reg_take (i := 19) rfl (by kernel_rfl) (by kernel_rfl) (by kernel_rfl) (fun _ _ _ h => h) (by rfl) hHeld (v := ?v20) ?hy20 ?rest20
  case hy20 => (intro w' hSw; go_simp <;> try rfl)
  try simp only [Act.put, List.setIfInBounds_toArray, List.set_cons_zero, List.set_cons_succ]
  refine reg_take (i := 20) rfl (by kernel_rfl) (by kernel_rfl) (by kernel_rfl) (fun _ _ _ h => h) (by rfl) hHeld (v := ?v21) ?hy21 ?rest21
  case hy21 => (intro w' hSw; obtain ⟨k0, k1, k2, k3⟩ := hSw; go_simp <;> try rfl)
  try simp only [Act.put, List.setIfInBounds_toArray, List.set_cons_zero, List.set_cons_succ]
  refine reg_take (i := 21) rfl (by kernel_rfl) (by kernel_rfl) (by kernel_rfl) (fun _ _ _ h => h) (by rfl) hHeld (v := ?v22) ?hy22 ?rest22
  case hy22 => (intro w' hSw; go_simp <;> try rfl)
  try simp only [Act.put, List.setIfInBounds_toArray, List.set_cons_zero, List.set_cons_succ]
  refine reg_take (i := 22) rfl (by kernel_rfl) (by kernel_rfl) (by kernel_rfl) (fun _ _ _ h => h) (by rfl) hHeld (v := ?v23) ?hy23 ?rest23
  case hy23 => (intro w' hSw; obtain ⟨k0, k1, k2, k3⟩ := hSw; go_simp <;> try rfl)
  try simp only [Act.put, List.setIfInBounds_toArray, List.set_cons_zero, List.set_cons_succ]
  refine reg_take (i := 23) rfl (by kernel_rfl) (by kernel_rfl) (by kernel_rfl) (fun _ _ _ h => h) (by rfl) hHeld (v := ?v24) ?hy24 ?rest24
  case hy24 => (intro w' hSw; go_simp <;> try rfl)
  try simp only [Act.put, List.setIfInBounds_toArray, List.set_cons_zero, List.set_cons_succ]
  refine reg_take (i := 24) rfl (by kernel_rfl) (by kernel_rfl) (by kernel_rfl) (fun _ _ _ h => h) (by rfl) hHeld (v := .int .i64 (kk : Int)) ?hy25 ?rest25
  case hy25 => (intro w' hSw; exact exec_minBy (X := .int .i64 (kn : Int)) (Y := .int .i64 9) (by rfl) (by rfl) (fun ts ty => hminK ts ty w'))
  try simp only [Act.put, List.setIfInBounds_toArray, List.set_cons_zero, List.set_cons_succ]
  refine reg_take (i := 25) rfl (by kernel_rfl) (by kernel_rfl) (by kernel_rfl) (fun _ _ _ h => h) (by rfl) hHeld (v := .slice ko kk kc) ?hy26 ?rest26
  case hy26 => (intro w' hSw; exact exec_sliceBy (X := .slice ko kn kc) (Y := .int .i64 (kk : Int)) (by rfl) (by rfl) (hcutK w'))
  try simp only [Act.put, List.setIfInBounds_toArray, List.set_cons_zero, List.set_cons_succ]
  refine reg_take (i := 26) rfl (by kernel_rfl) (by kernel_rfl) (by kernel_rfl) (fun _ _ _ h => h) (by rfl) hHeld (v := ?v27) ?hy27 ?rest27
  case hy27 => (intro w' hSw; go_simp <;> try rfl)
  try simp only [Act.put, List.setIfInBounds_toArray, List.set_cons_zero, List.set_cons_succ]
  refine reg_take (i := 27) rfl (by kernel_rfl) (by kernel_rfl) (by kernel_rfl) (fun _ _ _ h => h) (by rfl) hHeld (v := ?v28) ?hy28 ?rest28
  case hy28 => (intro w' hSw; go_simp <;> try rfl)
  try simp only [Act.put, List.setIfInBounds_toArray, List.set_cons_zero, List.set_cons_succ]
  refine reg_take (i := 28) rfl (by kernel_rfl) (by kernel_rfl) (by kernel_rfl) (fun _ _ _ h => h) (by rfl) hHeld (v := ?v29) ?hy29 ?rest29
  case hy29 => (intro w' hSw; go_simp <;> try rfl)
  try simp only [Act.put, List.setIfInBounds_toArray, List.set_cons_zero, List.set_cons_succ]
  refine reg_take (i := 29) rfl (by kernel_rfl) (by kernel_rfl) (by kernel_rfl) (fun _ _ _ h => h) (by rfl) hHeld (v := ?v30) ?hy30 ?rest30
  case hy30 => (intro w' hSw; go_simp <;> try rfl)
  try simp only [Act.put, List.setIfInBounds_toArray, List.set_cons_zero, List.set_cons_succ]
  refine wpAnyH_done (by kernel_rfl) ?_ _
  obtain ⟨l, hl, hl6⟩ := later6 L
  have HA0 : Lst .u8 w ao ka ac (xs.take ka) := hS.a.take (by omega)
  have HB0 : Lst .u8 w bo kb bc (ys.take kb) := hS.b.take (by omega)
  have HK0 : LstT w ko kk kc (ks.take kk) := hS.k.take (by omega)
  obtain ⟨V, eV⟩ : ∃ X, (w.alloc (.cells #[.slice ao an ac, .slice bo bn bc, .int .i64 L, .slice ko kn kc] 44)).drew = X := ⟨_, rfl⟩
  have BV : Below w.heap.size w V := by rw [← eV]; exact ((Below.refl _ _).alloc (Nat.le_refl _) _).drew
  have hzV := Lib.hid BV.size
  have HA := Lib.hid (HA0.below BV)
  have HB := Lib.hid (HB0.below BV)
  have HK := Lib.hid (HK0.below BV)
  have HBw := Lib.hid BV
  have hbyA : Hid (Bytes (xs.take ka)) := fun x hx => by have := HA.out.wf x hx; simpa [Lit.wf, IntKind.min, IntKind.max, IntKind.signed, IntKind.bits] using this
  have hbyB : Hid (Bytes (ys.take kb)) := fun x hx => by have := HB.out.wf x hx; simpa [Lit.wf, IntKind.min, IntKind.max, IntKind.signed, IntKind.bits] using this
  have ha64 := Lib.hid (show ka ≤ 64 by omega)
  have hb64 := Lib.hid (show kb ≤ 64 by omega)
  have hkk9 := Lib.hid (show kk ≤ 9 by omega)
  have hlh := Lib.hid hl6
  have hNew : Calls Try.prog 8 #[.int .i64 6] V fun e w' => e = .returned (.pointer (some ⟨V.heap.size + 2, 0, none⟩)) ∧ Hid (DskN V w' (V.heap.size + 2) V.heap.size (V.heap.size + 1) 6 (Ds.blank 6)) := newN_c 6 (by omega) (by omega) V
  have hI0 : Hid (SafeI (xs.take ka) 0 (Ds.blank 6)) := ⟨blank_ok (by omega) (by omega), rfl, rfl, fun i hi => absurd hi (by omega)⟩
  clear HA0 HB0 HK0 BV hS hka hkb hkk hminA hminB hminK hcutA hcutB hcutK c0 c1 c2 c3
  rw [eV]
  go_wp2_with (go_at_call 8; (with_reducible refine hNew.mono ?_); rintro e w1 ⟨rfl, D1⟩)
  clear hNew eV
  go_loopw [8] (fun i wr => ∃ (j : Nat) (d : Dk), j ≤ 6 ∧ i = .int .i64 (j : Int) ∧ Hid (DskN V wr (V.heap.size + 2) V.heap.size (V.heap.size + 1) 6 d) ∧ Hid (SafeI (xs.take ka) j d)) (fun i _ => 6 - (intOf i).toNat)
  case atStart => exact ⟨0, _, by omega, rfl, D1, hI0⟩
  case round =>
    obtain ⟨u, hu⟩ : ∃ x, x = wr := ⟨_, rfl⟩
    subst hu
    obtain ⟨j, d, hj, rfl, D, I⟩ := hrel
    clear D1 hI0
    by_cases hlt : j < 6
    · have hlt' : (j : Int) < 6 := by omega
      have hw1 := writeL_c D.out (Below.refl _ _) I.out.1 j (HA.out.below D.out.bel) (fun i hi => by have := HA.out.block i hi; omega)
      have e1 := free_write I.out.1 I.out.2.1 I.out.2.2.1 hlt (b := xs.take ka) (by rw [HA.out.len]; exact ha64.out)
      rw [e1] at hw1
      have I2 := Lib.hid (I.out.next hlt (by rw [HA.out.len]; exact ha64.out) hbyA.out)
      clear e1
      go_wp2_with (go_at_call 10; (with_reducible refine hw1.mono ?_); rintro e w2 ⟨rfl, D2, xx⟩; clear xx; replace D2 := Lib.hid D2)
      go_roundw
      case rel => exact ⟨j + 1, _, by omega, by go_num, D2, I2⟩
      case measure => simp [intOf]; omega
    · have hlt' : ¬ (j : Int) < 6 := by omega
      obtain rfl : j = 6 := by omega
      have hy1 := syncN2_c D.out I.out.1
      rw [free_sync I.out.2.1 I.out.2.2.1] at hy1
      have hkw := Lib.hid I.out.1.wipe
      have ew := free_write hkw.out I.out.2.1 I.out.2.2.1 hlh.out (b := ys.take kb) (by rw [HB.out.len]; exact hb64.out)
      have hkp := Lib.hid (hkw.out.put hlh.out (b := ys.take kb) (by rw [HB.out.len]; exact hb64.out) hbyB.out)
      have hwr : ∀ W, Hid (DskN V W (V.heap.size + 2) V.heap.size (V.heap.size + 1) 6 d.wipe) → Calls Try.prog 10 #[.pointer (some ⟨V.heap.size + 2, 0, none⟩), .int .i64 (l : Int), .slice bo kb bc] W fun e w' =>
          e = .returned (.int .i64 0) ∧ DskN V w' (V.heap.size + 2) V.heap.size (V.heap.size + 1) 6 (d.wipe.put l (ys.take kb)) ∧ Off (V.heap.size + 2) V.heap.size (V.heap.size + 1) W w' := fun W h => by
        have := writeL_c h.out (Below.refl _ _) hkw.out l (HB.out.below h.out.bel) (fun i hi => by have := HB.out.block i hi; omega)
        rw [ew] at this
        exact this
      have hca := Lib.hid (safe_crash (B := ys.take kb) (keep := ks.take kk) I.out hlh.out)
      clear ew
      go_wp2_with (first
        | (go_at_call 15; (with_reducible refine hy1.mono ?_); rintro e w2 ⟨rfl, D2⟩; replace D2 := Lib.hid D2)
        | (go_at_call 10; (with_reducible refine (hwr w2 D2).mono ?_); rintro e w3 ⟨rfl, D3, xx⟩; clear xx; have hcr := crashL_c D3 hkp.out (HK.out.below D3.bel); replace D3 := Lib.hid D3)
        | (go_at_call 19; (with_reducible refine hcr.mono ?_); rintro e w4 ⟨g', a', m', c', rfl, D4, xx⟩; clear xx hcr; replace D4 := Lib.hid D4))
      obtain ⟨dc, hdc⟩ : ∃ dc, (d.wipe.put l (ys.take kb)).crash (ks.take kk) = dc := ⟨_, rfl⟩
      have hkc := Lib.hid (hkp.out.crash (ks.take kk))
      have hdd : Hid (dc.dead = false) := by rw [← hdc]; rfl
      have hdo : Hid (dirt dc.old = 0) := by
        rw [← hdc]
        show (dirtN 0 (List.replicate _ none)).length = 0
        rw [dirtN_none]
        rfl
      rw [hdc] at D4 hca hkc
      clear hy1 hwr D2 D3 D I hkw hkp hdc
      go_loopw [10, 11, 12, 13, 15] (fun i _ _ _ _ wr => ∃ j : Nat, j ≤ 6 ∧ i = .int .i64 (j : Int) ∧ Hid (DskN V wr g' a' m' c' dc)) (fun i _ _ _ _ _ => 6 - (intOf i).toNat)
      case atStart => exact ⟨0, by omega, rfl, D4⟩
      case round =>
        obtain ⟨u2, hu2⟩ : ∃ x, x = wr := ⟨_, rfl⟩
        subst hu2
        obtain ⟨j, hj, rfl, D⟩ := hrel
        clear D4
        by_cases hlt : j < 6
        · have hlt' : (j : Int) < 6 := by omega
          have hr := readN_c D.out hkc.out hdd.out j hlt
          rw [hca.out j hlt] at hr
          have KL := HK.out.below D.out.bel
          by_cases hif : j = l ∧ (ks.take kk).getD 0 false = true
          · rw [if_pos hif] at hr
            obtain ⟨rfl, hk0⟩ := hif
            have hkk0 : 0 < kk := by
              have := HK.out.len
              rcases Nat.eq_zero_or_pos kk with h | h
              · rw [List.getD_eq_getElem?_getD, List.getElem?_eq_none (by omega)] at hk0; cases hk0
              · exact h
            have hkk0' : (kk : Int) > 0 := by omega
            have hkx : ∀ W, (Instr.indexAt 28 (.slice ko kk kc) (.int .i64 0)).run Try.prog W = .ok (.pointer (some (pt ko 0))) W := ixT KL 0 hkk0
            have hkc0 := KL.cell 0 hkk0
            rw [hk0] at hkc0
            clear KL
            go_wp2_with (first
              | (go_at_call 12; (with_reducible refine hr.mono ?_); rintro e w3 ⟨xo, xc, rfl, hX, D3, B3⟩; replace hkc0 := (World.cell?_of_block (B3.block _ (World.block_lt_of_cell? u2 _ hkc0))).trans hkc0; have hcw := cut8 xo 64 xc kb (by have := hX.lst.cap; have := hb64.out; omega) (fun e => (by obtain ⟨_, he⟩ := hX.lst.isSome (by omega); rw [he] at e; cases e)); obtain ⟨yo, yc, hlow, hY⟩ := cut_low hX (k := kb) hb64.out; have hXt := hX.lst.take (m := kb) hb64.out; rw [pad_take HB.out.len] at hXt; rw [pad_drop HB.out.len] at hY; have hEq := eqT_c hXt (HB.out.below D3.bel); have hYh := Lib.hid hY; replace D3 := Lib.hid D3; clear hX hXt hY B3 hr)
              | (go_at_call 14; (with_reducible refine hEq.mono ?_); rintro e w4 ⟨rfl, B4⟩; have D4 := Lib.hid (D3.out.below B4); have Y4 := Lib.hid (hYh.out.below B4); clear B4 hEq))
            go_loop [15, 111] (fun _ i => ∃ q : Nat, q ≤ 64 - kb ∧ i = .int .i64 (q : Int)) (fun _ i => 64 - (intOf i).toNat)
            case atStart => exact ⟨0, by omega, rfl⟩
            case round =>
              obtain ⟨q, hq, rfl⟩ := hrel
              by_cases hql : q < 64 - kb
              · have hql' : (q : Int) < ((64 - kb : Nat) : Int) := by omega
                have hix := ix8 Y4.out q q rfl hql
                have hce := Y4.out.cell q hql
                rw [show (List.replicate (64 - kb) (0 : Int)).getD q 0 = 0 by simp [List.getD, hql]] at hce
                go_wp2_with fail
                go_round
                case rel => exact ⟨q + 1, by omega, by go_num⟩
                case measure => simp [intOf]; omega
              · have hql' : ¬ (q : Int) < ((64 - kb : Nat) : Int) := by omega
                go_wp2_with fail
                go_roundw
                case rel => exact ⟨j + 1, by omega, by go_num, D4⟩
                case measure => simp [intOf]; omega
          · rw [if_neg hif] at hr
            by_cases hjl : j = l
            · subst hjl
              have hk0 : (ks.take kk).getD 0 false = false := by
                cases h : (ks.take kk).getD 0 false with
                | false => rfl
                | true => exact absurd ⟨rfl, h⟩ hif
              by_cases hkk0 : 0 < kk
              · have hkk0' : (kk : Int) > 0 := by omega
                have hkx : ∀ W, (Instr.indexAt 28 (.slice ko kk kc) (.int .i64 0)).run Try.prog W = .ok (.pointer (some (pt ko 0))) W := ixT KL 0 hkk0
                have hkc0 := KL.cell 0 hkk0
                rw [hk0] at hkc0
                clear KL hif
                go_wp2_with (first
                  | (go_at_call 12; (with_reducible refine hr.mono ?_); rintro e w3 ⟨xo, xc, rfl, hX, D3, B3⟩; replace hkc0 := (World.cell?_of_block (B3.block _ (World.block_lt_of_cell? u2 _ hkc0))).trans hkc0; have hcw := cut8 xo 64 xc ka (by have := hX.lst.cap; have := ha64.out; omega) (fun e => (by obtain ⟨_, he⟩ := hX.lst.isSome (by omega); rw [he] at e; cases e)); obtain ⟨yo, yc, hlow, hY⟩ := cut_low hX (k := ka) ha64.out; have hXt := hX.lst.take (m := ka) ha64.out; rw [pad_take HA.out.len] at hXt; rw [pad_drop HA.out.len] at hY; have hEq := eqT_c hXt (HA.out.below D3.bel); have hYh := Lib.hid hY; replace D3 := Lib.hid D3; clear hX hXt hY B3 hr)
                  | (go_at_call 14; (with_reducible refine hEq.mono ?_); rintro e w4 ⟨rfl, B4⟩; have D4 := Lib.hid (D3.out.below B4); have Y4 := Lib.hid (hYh.out.below B4); clear B4 hEq))
                go_loop [15, 111] (fun _ i => ∃ q : Nat, q ≤ 64 - ka ∧ i = .int .i64 (q : Int)) (fun _ i => 64 - (intOf i).toNat)
                case atStart => exact ⟨0, by omega, rfl⟩
                case round =>
                  obtain ⟨q, hq, rfl⟩ := hrel
                  by_cases hql : q < 64 - ka
                  · have hql' : (q : Int) < ((64 - ka : Nat) : Int) := by omega
                    have hix := ix8 Y4.out q q rfl hql
                    have hce := Y4.out.cell q hql
                    rw [show (List.replicate (64 - ka) (0 : Int)).getD q 0 = 0 by simp [List.getD, hql]] at hce
                    go_wp2_with fail
                    go_round
                    case rel => exact ⟨q + 1, by omega, by go_num⟩
                    case measure => simp [intOf]; omega
                  · have hql' : ¬ (q : Int) < ((64 - ka : Nat) : Int) := by omega
                    go_wp2_with fail
                    go_roundw
                    case rel => exact ⟨j + 1, by omega, by go_num, D4⟩
                    case measure => simp [intOf]; omega
              · have hkk0' : ¬ (kk : Int) > 0 := by omega
                clear KL hif
                go_wp2_with (first
                  | (go_at_call 12; (with_reducible refine hr.mono ?_); rintro e w3 ⟨xo, xc, rfl, hX, D3, B3⟩; have hcw := cut8 xo 64 xc ka (by have := hX.lst.cap; have := ha64.out; omega) (fun e => (by obtain ⟨_, he⟩ := hX.lst.isSome (by omega); rw [he] at e; cases e)); obtain ⟨yo, yc, hlow, hY⟩ := cut_low hX (k := ka) ha64.out; have hXt := hX.lst.take (m := ka) ha64.out; rw [pad_take HA.out.len] at hXt; rw [pad_drop HA.out.len] at hY; have hEq := eqT_c hXt (HA.out.below D3.bel); have hYh := Lib.hid hY; replace D3 := Lib.hid D3; clear hX hXt hY B3 hr)
                  | (go_at_call 14; (with_reducible refine hEq.mono ?_); rintro e w4 ⟨rfl, B4⟩; have D4 := Lib.hid (D3.out.below B4); have Y4 := Lib.hid (hYh.out.below B4); clear B4 hEq))
                go_loop [15, 111] (fun _ i => ∃ q : Nat, q ≤ 64 - ka ∧ i = .int .i64 (q : Int)) (fun _ i => 64 - (intOf i).toNat)
                case atStart => exact ⟨0, by omega, rfl⟩
                case round =>
                  obtain ⟨q, hq, rfl⟩ := hrel
                  by_cases hql : q < 64 - ka
                  · have hql' : (q : Int) < ((64 - ka : Nat) : Int) := by omega
                    have hix := ix8 Y4.out q q rfl hql
                    have hce := Y4.out.cell q hql
                    rw [show (List.replicate (64 - ka) (0 : Int)).getD q 0 = 0 by simp [List.getD, hql]] at hce
                    go_wp2_with fail
                    go_round
                    case rel => exact ⟨q + 1, by omega, by go_num⟩
                    case measure => simp [intOf]; omega
                  · have hql' : ¬ (q : Int) < ((64 - ka : Nat) : Int) := by omega
                    go_wp2_with fail
                    go_roundw
                    case rel => exact ⟨j + 1, by omega, by go_num, D4⟩
                    case measure => simp [intOf]; omega
            · have hjl' : ((j : Int) == (l : Int)) = false := by simp; omega
              clear KL hif
              go_wp2_with (first
                | (go_at_call 12; (with_reducible refine hr.mono ?_); rintro e w3 ⟨xo, xc, rfl, hX, D3, B3⟩; have hcw := cut8 xo 64 xc ka (by have := hX.lst.cap; have := ha64.out; omega) (fun e => (by obtain ⟨_, he⟩ := hX.lst.isSome (by omega); rw [he] at e; cases e)); obtain ⟨yo, yc, hlow, hY⟩ := cut_low hX (k := ka) ha64.out; have hXt := hX.lst.take (m := ka) ha64.out; rw [pad_take HA.out.len] at hXt; rw [pad_drop HA.out.len] at hY; have hEq := eqT_c hXt (HA.out.below D3.bel); have hYh := Lib.hid hY; replace D3 := Lib.hid D3; clear hX hXt hY B3 hr)
                | (go_at_call 14; (with_reducible refine hEq.mono ?_); rintro e w4 ⟨rfl, B4⟩; have D4 := Lib.hid (D3.out.below B4); have Y4 := Lib.hid (hYh.out.below B4); clear B4 hEq))
              go_loop [15, 111] (fun _ i => ∃ q : Nat, q ≤ 64 - ka ∧ i = .int .i64 (q : Int)) (fun _ i => 64 - (intOf i).toNat)
              case atStart => exact ⟨0, by omega, rfl⟩
              case round =>
                obtain ⟨q, hq, rfl⟩ := hrel
                by_cases hql : q < 64 - ka
                · have hql' : (q : Int) < ((64 - ka : Nat) : Int) := by omega
                  have hix := ix8 Y4.out q q rfl hql
                  have hce := Y4.out.cell q hql
                  rw [show (List.replicate (64 - ka) (0 : Int)).getD q 0 = 0 by simp [List.getD, hql]] at hce
                  go_wp2_with fail
                  go_round
                  case rel => exact ⟨q + 1, by omega, by go_num⟩
                  case measure => simp [intOf]; omega
                · have hql' : ¬ (q : Int) < ((64 - ka : Nat) : Int) := by omega
                  go_wp2_with fail
                  go_roundw
                  case rel => exact ⟨j + 1, by omega, by go_num, D4⟩
                  case measure => simp [intOf]; omega
        · have hlt' : ¬ (j : Int) < 6 := by omega
          have hdd2 : ∀ W, Hid (DskN V W g' a' m' c' dc) → Calls Try.prog 23 #[.pointer (some ⟨g', 0, none⟩)] W fun e w' => e = .returned (.bool false) ∧ W = w' := fun W h => by
            have := dead_c h.out.dsk
            rw [hdd.out] at this
            exact this
          have hdo2 : ∀ W, Hid (DskN V W g' a' m' c' dc) → Calls Try.prog 24 #[.pointer (some ⟨g', 0, none⟩)] W fun e w' => e = .returned (.int .i64 0) ∧ W = w' := fun W h => by
            have := dirty_c h.out.dsk
            rw [hdo.out] at this
            exact this
          go_wp2_with (first
            | (go_at_call 22; (with_reducible refine (awake_c u2).mono ?_); rintro e w5 ⟨rfl, B5⟩; have D5 := Lib.hid (D.out.below B5); clear B5)
            | (go_at_call 23; (with_reducible refine (hdd2 w5 D5).mono ?_); rintro e w6 ⟨rfl, rfl⟩)
            | (go_at_call 24; (with_reducible refine (hdo2 w5 D5).mono ?_); rintro e w7 ⟨rfl, rfl⟩))
          go_ret
          exact ⟨rfl, HBw.out.trans (D5.out.bel.mono hzV.out)⟩
end Go.Proofs.Ytbnomkcliejcaaa
