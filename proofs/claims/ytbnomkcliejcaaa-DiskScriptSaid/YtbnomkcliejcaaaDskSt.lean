/-
  The disk and the reference's disk side by side: each pair of calls.
-/
import Derived.Test.YtbnomkcliejcaaaDskSame
namespace Go.Proofs.Ytbnomkcliejcaaa
open Go.RowKit Ds

section
variable {w w' : World} {g a m c q s l t n sc lc tc : Nat} {d : Dk} {r : Rf}
theorem Dsk.blk_ne (hD : Dsk w g a m c d) {b : Nat} {cs : Array Value} {T : TypeId} {fr : Nat × Nat} (hb : w.heap[b]? = some (.cells cs T fr)) (h1 : T ≠ 60) (h2 : T ≠ 56) : b ≠ g ∧ b ≠ a ∧ b ≠ m := by
  refine ⟨?_, ?_, ?_⟩
  · rintro rfl
    have hx : w.heap[b]? = _ := hD.box
    rw [hb] at hx
    injection hx with hx
    injection hx with _ e _
    exact h1 e
  · rintro rfl
    obtain ⟨_, _, cur, hA, _⟩ := hD.secs
    have hx : w.heap[b]? = _ := hA
    rw [hb] at hx
    injection hx with hx
    injection hx with _ e _
    exact h2 e
  · rintro rfl
    obtain ⟨D, ⟨es, clock, hx, _⟩, _⟩ := hD.map
    rw [hb] at hx
    cases hx
theorem By.off {v : Value} {xs : List Int} (h : By w v xs) (hD : Dsk w g a m c d) (k : Off g a m w w') : By w' v xs := by
  obtain ⟨p, c', e, hL, cs, fr, ht⟩ := h
  obtain ⟨n1, n2, n3⟩ := hD.blk_ne ht (by decide) (by decide)
  have hk : w'.heap[p.block]? = w.heap[p.block]? := k.block _ (Array.getElem?_eq_some_iff.1 ht).1 n1 n2 n3
  refine ⟨p, c', e, ⟨hL.len, hL.cap, hL.room, hL.isSome, fun j hj => ?_, hL.wf⟩, cs, fr, hk.trans ht⟩
  exact (World.cell?_of_block (by rw [pt_block]; exact hk)).trans (hL.cell j hj)
theorem BRow.off {n' c' : Nat} {S : List Sec} (h : BRow w s n' c' S) (hD : Dsk w g a m c d) (k : Off g a m w w') : BRow w' s n' c' S := by
  obtain ⟨e1, e2, e3, us, rest, hA, hl, hu⟩ := h
  obtain ⟨n1, n2, n3⟩ := hD.blk_ne hA (by decide) (by decide)
  refine ⟨e1, e2, e3, us, rest, hA.off k n1 n2 n3, hl, fun i hi => ?_⟩
  obtain ⟨v, hv, hb⟩ := hu i hi
  exact ⟨v, hv, hb.off hD k⟩
theorem RefD.off (h : RefD w q s l t n sc lc tc r) (hD : Dsk w g a m c d) (k : Off g a m w w') : RefD w' q s l t n sc lc tc r := by
  obtain ⟨n1, n2, n3⟩ := hD.blk_ne h.box (by decide) (by decide)
  obtain ⟨e1, e2, e3, rest, hA⟩ := h.dirt
  obtain ⟨m1, m2, m3⟩ := hD.blk_ne hA (by decide) (by decide)
  exact ⟨h.box.off k n1 n2 n3, h.safe.off hD k, h.last.off hD k, ⟨e1, e2, e3, rest, hA.off k m1 m2 m3⟩, h.ne⟩
theorem RefD.blk_ne (h : RefD w q s l t n sc lc tc r) {b : Nat} (hb : ∀ T cs, w.heap[b]? = some (.cells cs T (0, 0)) → T ≠ 54 ∧ T ≠ 27 ∧ T ≠ 4) : b ≠ q ∧ b ≠ s ∧ b ≠ l ∧ b ≠ t := by
  obtain ⟨_, _, _, us, rest, hA, _⟩ := h.safe
  obtain ⟨_, _, _, us', rest', hB, _⟩ := h.last
  obtain ⟨_, _, _, rest'', hC⟩ := h.dirt
  refine ⟨?_, ?_, ?_, ?_⟩
  · rintro rfl; exact (hb _ _ h.box).1 rfl
  · rintro rfl; exact (hb _ _ hA).2.1 rfl
  · rintro rfl; exact (hb _ _ hB).2.1 rfl
  · rintro rfl; exact (hb _ _ hC).2.2 rfl
theorem Dsk.roff (hD : Dsk w g a m c d) (h : RefD w q s l t n sc lc tc r) (k : ROff q s l t w w') : Dsk w' g a m c d := by
  obtain ⟨h1, h2, cur, hA, hz⟩ := hD.secs
  have hm := hD.map
  obtain ⟨D, ⟨es, clock, hb, r1⟩, r2⟩ := hm
  have tg := h.blk_ne (b := g) (fun T cs e => by
    rw [show w.heap[g]? = _ from hD.box] at e
    injection e with e
    injection e with _ e _
    subst e
    decide)
  have ta := h.blk_ne (b := a) (fun T cs e => by
    rw [show w.heap[a]? = _ from hA] at e
    injection e with e
    injection e with _ e _
    subst e
    decide)
  have tm := h.blk_ne (b := m) (fun T cs e => by rw [hb] at e; cases e)
  exact ⟨(k.block g hD.box.lt tg.1 tg.2.1 tg.2.2.1 tg.2.2.2).trans hD.box, ⟨h1, h2, cur, (k.block a hA.lt ta.1 ta.2.1 ta.2.2.1 ta.2.2.2).trans hA, hz⟩, ⟨D, ⟨es, clock, (k.block m hD.map.lt tm.1 tm.2.1 tm.2.2.1 tm.2.2.2).trans hb, r1⟩, r2⟩⟩
end
/-- Both disks since the world w0; the program's disk reads as d now, the reference's as that of e. -/
structure Two (w0 W : World) (g a m c q s l t n sc lc tc K : Nat) (d e : Dk) (r : Rf) : Prop where
  dn : DskN w0 W g a m c d
  ok : e.Ok n
  rf : RefD W q s l t n sc lc tc r
  rel : Rel n K e r
  q0 : w0.heap.size ≤ q
  s0 : w0.heap.size ≤ s
  l0 : w0.heap.size ≤ l
  t0 : w0.heap.size ≤ t
section
variable {w0 W W' : World} {g a m c q s l t n sc lc tc K : Nat} {d e : Dk} {r : Rf}
theorem Two.below (h : Two w0 W g a m c q s l t n sc lc tc K d e r) (hb : Below W.heap.size W W') : Two w0 W' g a m c q s l t n sc lc tc K d e r := ⟨h.dn.below hb, h.ok, h.rf.below hb, h.rel, h.q0, h.s0, h.l0, h.t0⟩
/-- The program's call has been made. -/
theorem Two.prog {d' : Dk} (h : Two w0 W g a m c q s l t n sc lc tc K d d r) (hD : DskN w0 W' g a m c d') (k : Off g a m W W') : Two w0 W' g a m c q s l t n sc lc tc K d' d r := ⟨hD, h.ok, h.rf.off h.dn.dsk k, h.rel, h.q0, h.s0, h.l0, h.t0⟩
/-- The reference's call has been made. -/
theorem Two.refr {K' : Nat} {r' : Rf} (h : Two w0 W g a m c q s l t n sc lc tc K d e r) (hk : d.Ok n) (hR : RefD W' q s l t n sc lc tc r') (k : ROff q s l t W W') (hr : Rel n K' d r') : Two w0 W' g a m c q s l t n sc lc tc K' d d r' :=
  ⟨⟨h.dn.dsk.roff h.rf k, h.dn.g0, h.dn.a0, h.dn.m0, k.low h.dn.bel h.dn.bel.size h.q0 h.s0 h.l0 h.t0⟩, hk, hR, hr, h.q0, h.s0, h.l0, h.t0⟩
theorem Two.far (h : Two w0 W g a m c q s l t n sc lc tc K d e r) {bo : Option Addr} {k : Nat} (hl : ∀ j, j < k → (pt bo j).block < w0.heap.size) : (∀ j, j < k → (pt bo j).block ≠ a) ∧ ∀ j, j < k → (pt bo j).block ≠ q ∧ (pt bo j).block ≠ s ∧ (pt bo j).block ≠ l ∧ (pt bo j).block ≠ t := by
  have h1 := h.dn.a0
  have h2 := h.q0
  have h3 := h.s0
  have h4 := h.l0
  have h5 := h.t0
  exact ⟨fun j hj => by have := hl j hj; omega, fun j hj => by have := hl j hj; omega⟩
theorem writeP_c (h : Two w0 W g a m c q s l t n sc lc tc K d d r) (x : Int) {bo : Option Addr} {k e0 : Nat} {b : List Int} (hL : Lst .u8 W bo k e0 b) (hl : ∀ j, j < k → (pt bo j).block < w0.heap.size) :
    Calls Try.prog 10 #[.pointer (some ⟨g, 0, none⟩), .int .i64 x, .slice bo k e0] W fun e W' => e = .returned (.int .i64 (d.write x b).1) ∧ Two w0 W' g a m c q s l t n sc lc tc K (d.write x b).2 d r ∧ Off g a m W W' :=
  (writeL_c h.dn (Below.refl _ _) h.ok x hL (h.far hl).1).mono fun _ _ ⟨r1, r2, r3⟩ => ⟨r1, h.prog r2 r3, r3⟩
theorem bytes_of {k e0 : Nat} {bo : Option Addr} {b : List Int} (hL : Lst .u8 W bo k e0 b) : Bytes b := fun x hx => by
  have := hL.wf x hx
  simpa [Lit.wf, IntKind.min, IntKind.max, IntKind.signed, IntKind.bits] using this
theorem writeR_c (x : Int) {bo : Option Addr} {k e0 : Nat} {b : List Int} (h : Two w0 W g a m c q s l t n sc lc tc K (d.write x b).2 d r) (hK : K ≤ 1000) (hL : Lst .u8 W bo k e0 b) (h0 : bo = none → e0 = 0) (hl : ∀ j, j < k → (pt bo j).block < w0.heap.size) :
    Calls Try.prog 11 #[.pointer (some ⟨q, 0, none⟩), .int .i64 x, .slice bo k e0] W fun e W' => e = .returned (.int .i64 (d.write x b).1) ∧ ∃ r', Two w0 W' g a m c q s l t n sc lc tc (K + 1) (d.write x b).2 (d.write x b).2 r' := by
  have hbl := hL.len
  have hlo := h.rel.low
  have hhi := h.rel.high
  have hlen := h.ok.len
  have hok2 := h.ok.write x (bytes_of hL)
  obtain ⟨hb, hr⟩ := h.rel.burn
  cases hd : d.dead with
  | true =>
    have e : d.write x b = (12, d) := by unfold Dk.write; rw [hd]; rfl
    rw [e] at h hok2 ⊢
    refine (rwriteDown_c h.rf (by rw [h.rel.gone]; exact hd) x bo k e0).mono ?_
    rintro e w' ⟨rfl, rfl⟩
    exact ⟨rfl, r, h.refr hok2 h.rf (ROff.refl _ _ _ _ _) h.rel.more⟩
  | false =>
    have hg : r.gone = false := by rw [h.rel.gone]; exact hd
    by_cases hx : 0 ≤ x ∧ x < d.cur.length
    case neg =>
      have e : d.write x b = (4, d) := by unfold Dk.write; rw [hd, if_neg hx]; rfl
      rw [e] at h hok2 ⊢
      refine (rwriteOut_c h.rf hg x (by rw [← hlen]; exact hx) bo k e0).mono ?_
      rintro e w' ⟨rfl, rfl⟩
      exact ⟨rfl, r, h.refr hok2 h.rf (ROff.refl _ _ _ _ _) h.rel.more⟩
    case pos =>
      obtain ⟨i, rfl⟩ : ∃ i : Nat, x = i := ⟨x.toNat, by omega⟩
      have hi : i < n := by omega
      by_cases hm : k ≤ 64
      case neg =>
        have e : d.write i b = (7, d) := by unfold Dk.write; rw [hd, if_pos hx, if_neg (show ¬ b.length ≤ 64 by omega)]; rfl
        rw [e] at h hok2 ⊢
        refine (rwriteLong_c h.rf hg i hi bo k e0 hm).mono ?_
        rintro e w' ⟨rfl, rfl⟩
        exact ⟨rfl, r, h.refr hok2 h.rf (ROff.refl _ _ _ _ _) h.rel.more⟩
      case pos =>
        cases hbb : d.burn.1 with
        | false =>
          have e : d.write i b = (12, d.burn.2) := by unfold Dk.write; rw [hd, if_pos hx, if_pos (show b.length ≤ 64 by omega), hbb]; rfl
          rw [e] at h hok2 ⊢
          refine (rwriteBurnt_c h.rf (by omega) hhi hg (by rw [hb, hbb]) i hi bo k e0 hm).mono ?_
          rintro e w' ⟨rfl, r1, r2⟩
          exact ⟨rfl, _, h.refr hok2 r1 r2 hr⟩
        | true =>
          have e : d.write i b = (0, d.burn.2.put i b) := by unfold Dk.write; rw [hd, if_pos hx, if_pos (show b.length ≤ 64 by omega), hbb]; rfl
          rw [e] at h hok2 ⊢
          refine (rwrite_c h.rf (by omega) hhi hg (by rw [hb, hbb]) i hi hL hm h0 (h.far hl).2).mono ?_
          rintro e w' ⟨rfl, r1, r2⟩
          exact ⟨rfl, _, h.refr hok2 r1 r2 (hr.put h.ok.burn hi b)⟩
theorem syncP_c (h : Two w0 W g a m c q s l t n sc lc tc K d d r) : Calls Try.prog 15 #[.pointer (some ⟨g, 0, none⟩)] W fun e W' => e = .returned (.int .i64 d.sync.1) ∧ Two w0 W' g a m c q s l t n sc lc tc K d.sync.2 d r :=
  (sync_c h.dn.dsk h.ok).mono fun _ _ ⟨r1, r2, r3, _⟩ => ⟨r1, h.prog (h.dn.off r2 r3) r3⟩
theorem syncR_c (h : Two w0 W g a m c q s l t n sc lc tc K d.sync.2 d r) (hK : K ≤ 1000) : Calls Try.prog 16 #[.pointer (some ⟨q, 0, none⟩)] W fun e W' => e = .returned (.int .i64 d.sync.1) ∧ ∃ r', Two w0 W' g a m c q s l t n sc lc tc (K + 1) d.sync.2 d.sync.2 r' := by
  have hlo := h.rel.low
  obtain ⟨hb, hr⟩ := h.rel.sync h.ok
  refine (rsync_c h.rf (by omega) h.rel.high).mono ?_
  rintro e w' ⟨rfl, r1, r2⟩
  exact ⟨by rw [hb], _, h.refr h.ok.sync r1 r2 hr⟩
theorem fuseP_c (h : Two w0 W g a m c q s l t n sc lc tc K d d r) (x : Int) : Calls Try.prog 17 #[.pointer (some ⟨g, 0, none⟩), .int .i64 x] W fun e W' => e = .returned (.tuple #[]) ∧ Two w0 W' g a m c q s l t n sc lc tc K (d.light x) d r ∧ Off g a m W W' :=
  (fuse_c h.dn.dsk x).mono fun _ _ ⟨r1, r2, r3, _⟩ => ⟨r1, h.prog (h.dn.off r2 r3) r3, r3⟩
theorem fuseR_c (x : Int) (h : Two w0 W g a m c q s l t n sc lc tc K (d.light x) d r) (h0 : -9223372036854775808 ≤ x) (h1 : x ≤ 9223372036854775807) : Calls Try.prog 18 #[.pointer (some ⟨q, 0, none⟩), .int .i64 x] W fun e W' => e = .returned (.tuple #[]) ∧ ∃ r', Two w0 W' g a m c q s l t n sc lc tc (K + 1) (d.light x) (d.light x) r' :=
  (rfuse_c h.rf x).mono fun _ _ ⟨r1, r2, r3⟩ => ⟨r1, _, h.refr (h.ok.light h0 h1) r2 r3 (h.rel.light h1).more⟩
end
end Go.Proofs.Ytbnomkcliejcaaa
