/-
  The disk and the reference's disk: what they have in common, call by call.
-/
import Derived.Test.YtbnomkcliejcaaaDskRCr
import Derived.Test.YtbnomkcliejcaaaDskOps
namespace Go.Proofs.Ytbnomkcliejcaaa
open Go.RowKit Ds

/-- The reference's disk r stands for the disk d; it has been called at most K times without a fuse. -/
structure Rel (n K : Nat) (d : Dk) (r : Rf) : Prop where
  last : r.last = d.cur
  dirt : r.dirt = d.old.map Option.isSome
  slen : r.safe.length = n
  safe : ∀ i, i < n → r.safe.getD i [] = (d.old.getD i none).getD (d.cur.getD i [])
  has : r.has = d.fused
  gone : r.gone = d.dead
  left : d.fused = true → r.left = d.fuse
  low : -(K : Int) ≤ r.left
  high : r.left ≤ 9223372036854775807
theorem rel_blank (n : Nat) : Rel n 0 (Ds.blank n) (Rf.blank n) :=
  ⟨rfl, by simp [Rf.blank, Ds.blank, fresh], by simp [Rf.blank], fun i hi => by simp [Rf.blank, Ds.blank, fresh, List.getD, hi], rfl, rfl, fun h => by simp [Ds.blank, fresh] at h, by simp [Rf.blank], by simp [Rf.blank]⟩
theorem Rel.burn {n K : Nat} {d : Dk} {r : Rf} (h : Rel n K d r) : r.burn.1 = d.burn.1 ∧ Rel n (K + 1) d.burn.2 r.burn.2 := by
  have hl := h.low
  have hh := h.high
  cases hf : d.fused with
  | false =>
    have e1 : d.burn = (true, d) := by unfold Dk.burn; rw [hf]; rfl
    have e2 : r.burn = (true, { r with left := r.left - 1 }) := by
      unfold Rf.burn
      rw [if_neg (fun x => by rw [h.has, hf] at x; exact Bool.noConfusion x.1)]
    rw [e1, e2]
    exact ⟨rfl, h.last, h.dirt, h.slen, h.safe, h.has, h.gone, fun x => (by rw [hf] at x; cases x), by show _ ≤ r.left - 1; omega, by show r.left - 1 ≤ _; omega⟩
  | true =>
    have hlf := h.left hf
    by_cases hz : d.fuse = 0
    · have e1 : d.burn = (false, { d with dead := true }) := by unfold Dk.burn; rw [if_pos hf, if_pos hz]
      have e2 : r.burn = (false, { r with gone := true }) := by unfold Rf.burn; rw [if_pos ⟨by rw [h.has, hf], by rw [hlf, hz]⟩]
      rw [e1, e2]
      exact ⟨rfl, h.last, h.dirt, h.slen, h.safe, h.has, rfl, h.left, by show _ ≤ r.left; omega, hh⟩
    · have e1 : d.burn = (true, { d with fuse := d.fuse - 1 }) := by unfold Dk.burn; rw [if_pos hf, if_neg hz]
      have e2 : r.burn = (true, { r with left := r.left - 1 }) := by unfold Rf.burn; rw [if_neg (fun x => hz (by rw [← hlf]; exact x.2))]
      rw [e1, e2]
      exact ⟨rfl, h.last, h.dirt, h.slen, h.safe, h.has, h.gone, fun _ => by show r.left - 1 = d.fuse - 1; rw [hlf], by show _ ≤ r.left - 1; omega, by show r.left - 1 ≤ _; omega⟩
theorem Rel.more {n K : Nat} {d : Dk} {r : Rf} (h : Rel n K d r) : Rel n (K + 1) d r := ⟨h.last, h.dirt, h.slen, h.safe, h.has, h.gone, h.left, by have := h.low; omega, h.high⟩
theorem Rel.put {n K i : Nat} {d : Dk} {r : Rf} (h : Rel n K d r) (hk : d.Ok n) (hi : i < n) (b : List Int) : Rel n K (d.put i b) (r.put i b) := by
  have hcl := hk.len
  have hol := hk.olen
  refine ⟨?_, ?_, h.slen, fun j hj => ?_, h.has, h.gone, h.left, h.low, h.high⟩
  · show r.last.set i (pad b) = d.cur.set i (pad b)
    rw [h.last]
  · show r.dirt.set i true = (d.old.set i (some _)).map Option.isSome
    rw [h.dirt, List.map_set]
    rfl
  · show r.safe.getD j [] = ((d.old.set i (some ((d.old.getD i none).getD (d.cur.getD i [])))).getD j none).getD ((d.cur.set i (pad b)).getD j [])
    rw [h.safe j hj]
    by_cases hji : j = i
    · subst hji
      have e : (d.old.set j (some ((d.old.getD j none).getD (d.cur.getD j [])))).getD j none = some ((d.old.getD j none).getD (d.cur.getD j [])) := by
        rw [List.getD_eq_getElem?_getD, List.getElem?_set_self (by omega)]; rfl
      rw [e]
      rfl
    · have e1 : (d.old.set i (some ((d.old.getD i none).getD (d.cur.getD i [])))).getD j none = d.old.getD j none := by
        rw [List.getD_eq_getElem?_getD, List.getElem?_set_ne (by omega), ← List.getD_eq_getElem?_getD]
      have e2 : (d.cur.set i (pad b)).getD j [] = d.cur.getD j [] := by
        rw [List.getD_eq_getElem?_getD, List.getElem?_set_ne (by omega), ← List.getD_eq_getElem?_getD]
      rw [e1, e2]
theorem Rel.wipe {n K : Nat} {d : Dk} {r : Rf} (h : Rel n K d r) (hk : d.Ok n) : Rel n K d.wipe r.wiped := by
  have hcl := hk.len
  have hol := hk.olen
  refine ⟨h.last, ?_, by show r.last.length = n; rw [h.last, hcl], fun j hj => ?_, h.has, h.gone, h.left, h.low, h.high⟩
  · show List.replicate r.dirt.length false = (List.replicate d.old.length none).map Option.isSome
    rw [h.dirt, List.length_map, List.map_replicate]
    rfl
  · show r.last.getD j [] = ((List.replicate d.old.length (none : Option Sec)).getD j none).getD (d.cur.getD j [])
    have e : (List.replicate d.old.length (none : Option Sec)).getD j none = none := by
      rw [List.getD_eq_getElem?_getD, List.getElem?_replicate]; split <;> rfl
    rw [e, h.last]
    rfl
theorem Rel.sync {n K : Nat} {d : Dk} {r : Rf} (h : Rel n K d r) (hk : d.Ok n) : r.sync.1 = d.sync.1 ∧ Rel n (K + 1) d.sync.2 r.sync.2 := by
  obtain ⟨hb, hr⟩ := h.burn
  unfold Dk.sync Rf.sync
  rw [h.gone]
  cases hd : d.dead with
  | true => exact ⟨rfl, h.more⟩
  | false =>
    rw [hb]
    cases hbb : d.burn.1 with
    | false => exact ⟨rfl, hr⟩
    | true => exact ⟨rfl, hr.wipe hk.burn⟩
theorem Rel.light {n K : Nat} {d : Dk} {r : Rf} (h : Rel n K d r) {x : Int} (h1 : x ≤ 9223372036854775807) : Rel n K (d.light x) (r.light x) :=
  ⟨h.last, h.dirt, h.slen, h.safe, rfl, h.gone, fun hx => by
    have hx : decide (0 ≤ x) = true := hx
    have hx := of_decide_eq_true hx
    show max x 0 = x
    omega, by show _ ≤ max x 0; omega, by show max x 0 ≤ _; omega⟩
theorem rcr_crashed (keep : List Bool) : ∀ (old : List (Option Sec)) (cur safe : List Sec) (k : Nat), cur.length = old.length → safe.length = old.length → (∀ i, i < old.length → safe.getD i [] = (old.getD i none).getD (cur.getD i [])) →
    rcr keep k safe cur (old.map Option.isSome) = crashed keep k cur old
  | [], cur, safe, k, h1, h2, _ => by
    obtain rfl := List.eq_nil_of_length_eq_zero h1
    obtain rfl := List.eq_nil_of_length_eq_zero h2
    rfl
  | o :: old, [], safe, k, h1, _, _ => by simp at h1
  | o :: old, c :: cur, [], k, _, h2, _ => by simp at h2
  | none :: old, c :: cur, s :: safe, k, h1, h2, h3 => by
    have h0 : s = c := h3 0 (by simp)
    have ih := rcr_crashed keep old cur safe k (by simpa using h1) (by simpa using h2) (fun i hi => h3 (i + 1) (by simpa using hi))
    subst h0
    show s :: rcr keep k safe cur (old.map Option.isSome) = s :: crashed keep k cur old
    rw [ih]
  | some x :: old, c :: cur, s :: safe, k, h1, h2, h3 => by
    have h0 : s = x := h3 0 (by simp)
    have ih := rcr_crashed keep old cur safe (k + 1) (by simpa using h1) (by simpa using h2) (fun i hi => h3 (i + 1) (by simpa using hi))
    subst h0
    show (if true && keep.getD k false then c else s) :: rcr keep (k + 1) safe cur (old.map Option.isSome) = (if keep.getD k false then c else s) :: crashed keep (k + 1) cur old
    rw [ih, Bool.true_and]
theorem Rel.crash {n K : Nat} {d : Dk} {r : Rf} (h : Rel n K d r) (hk : d.Ok n) (keep : List Bool) : Rel n 0 (d.crash keep) (r.crash n keep) := by
  have e : rcr keep 0 r.safe r.last r.dirt = crashed keep 0 d.cur d.old := by
    rw [h.last, h.dirt]
    exact rcr_crashed keep d.old d.cur r.safe 0 (by rw [hk.len, hk.olen]) (by rw [h.slen, hk.olen]) (fun i hi => h.safe i (by rw [hk.olen] at hi; exact hi))
  have hl := crashed_len keep d.cur d.old 0
  have hcl := hk.len
  refine ⟨?_, ?_, ?_, fun i hi => ?_, rfl, rfl, fun x => by simp [Dk.crash, fresh] at x, by simp [Rf.crash, Rf.blank], by simp [Rf.crash, Rf.blank]⟩
  · show rcr keep 0 r.safe r.last r.dirt = _
    rw [e]
    rfl
  · show List.replicate n false = (List.replicate (crashed keep 0 d.cur d.old).length none).map Option.isSome
    rw [hl, hcl, List.map_replicate]
    rfl
  · show (rcr keep 0 r.safe r.last r.dirt).length = n
    rw [e, hl, hcl]
  · show (rcr keep 0 r.safe r.last r.dirt).getD i [] = ((List.replicate (crashed keep 0 d.cur d.old).length (none : Option Sec)).getD i none).getD ((crashed keep 0 d.cur d.old).getD i [])
    have e2 : (List.replicate (crashed keep 0 d.cur d.old).length (none : Option Sec)).getD i none = none := by
      rw [List.getD_eq_getElem?_getD, List.getElem?_replicate]; split <;> rfl
    rw [e, e2]
    rfl
theorem dirt_count : ∀ (os : List (Option Sec)) (b : Nat), ((os.map Option.isSome).filter id).length = (dirtN b os).length
  | [], _ => rfl
  | none :: os, b => dirt_count os (b + 1)
  | some _ :: os, b => congrArg (· + 1) (dirt_count os (b + 1))
end Go.Proofs.Ytbnomkcliejcaaa
