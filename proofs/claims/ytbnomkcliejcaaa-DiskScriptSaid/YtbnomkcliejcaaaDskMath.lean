/-
  The chapter on disks as plain functions: sectors, which of them are dirty, what each call leaves.
-/
import Derived.WalkKit
namespace Go.Proofs.Ytbnomkcliejcaaa.Ds

abbrev Sec := List Int
def Sized (S : List Sec) : Prop := ∀ s ∈ S, s.length = 64
def Bytes (s : Sec) : Prop := ∀ x ∈ s, 0 ≤ x ∧ x ≤ 255
theorem flat_len : ∀ {S : List Sec}, Sized S → S.flatten.length = 64 * S.length
  | [], _ => rfl
  | s :: S, h => by
    rw [List.flatten_cons, List.length_append, List.length_cons, h s (List.mem_cons_self ..), flat_len (fun t ht => h t (List.mem_cons_of_mem _ ht))]
    omega
theorem flat_drop : ∀ {S : List Sec}, Sized S → ∀ i, i ≤ S.length → S.flatten.drop (64 * i) = (S.drop i).flatten
  | _, _, 0, _ => rfl
  | [], _, i + 1, hi => by simp at hi
  | s :: S, h, i + 1, hi => by
    have hs := h s (List.mem_cons_self ..)
    have e := flat_drop (fun t ht => h t (List.mem_cons_of_mem _ ht)) i (by simpa using hi) (S := S)
    rw [List.flatten_cons, show 64 * (i + 1) = s.length + 64 * i by omega, ← List.drop_drop, List.drop_left, e, List.drop_succ_cons]
theorem flat_take : ∀ {S : List Sec}, Sized S → ∀ i, i ≤ S.length → S.flatten.take (64 * i) = (S.take i).flatten
  | _, _, 0, _ => rfl
  | [], _, i + 1, hi => by simp at hi
  | s :: S, h, i + 1, hi => by
    have hs := h s (List.mem_cons_self ..)
    have e := flat_take (fun t ht => h t (List.mem_cons_of_mem _ ht)) i (by simpa using hi) (S := S)
    rw [List.flatten_cons, show 64 * (i + 1) = s.length + 64 * i by omega, List.take_append, List.take_of_length_le (by omega), Nat.add_sub_cancel_left, e, List.take_succ_cons, List.flatten_cons]
theorem flat_at {S : List Sec} (h : Sized S) {i : Nat} (hi : i < S.length) : S.flatten.drop (64 * i) = S.getD i [] ++ (S.drop (i + 1)).flatten := by
  rw [flat_drop h i (by omega), List.drop_eq_getElem_cons hi, List.flatten_cons]
  simp [List.getD, hi]
theorem flat_cell {S : List Sec} (h : Sized S) {i j : Nat} (hi : i < S.length) (hj : j < 64) : S.flatten[64 * i + j]? = (S.getD i [])[j]? := by
  have hl : (S.getD i []).length = 64 := h _ (by simp [List.getD, hi])
  rw [← List.getElem?_drop, flat_at h hi, List.getElem?_append_left (by omega)]
theorem flat_set {S : List Sec} (h : Sized S) {i : Nat} (hi : i < S.length) (x : Sec) : S.flatten.take (64 * i) ++ (x ++ S.flatten.drop (64 * i + 64)) = (S.set i x).flatten := by
  rw [show 64 * i + 64 = 64 * (i + 1) by omega, flat_take h i (by omega), flat_drop h (i + 1) (by omega), List.set_eq_take_append_cons_drop, if_pos hi]
  simp
theorem Sized.set {S : List Sec} (h : Sized S) (i : Nat) {x : Sec} (hx : x.length = 64) : Sized (S.set i x) := fun s hs => by
  rcases List.mem_or_eq_of_mem_set hs with hs | rfl
  · exact h s hs
  · exact hx
theorem Sized.get {S : List Sec} (h : Sized S) {i : Nat} (hi : i < S.length) : (S.getD i []).length = 64 := h _ (by simp [List.getD, hi])

/-- The numbers of the dirty sectors, from b on, in ascending order. -/
def dirtN : Nat → List (Option Sec) → List Nat
  | _, [] => []
  | b, none :: os => dirtN (b + 1) os
  | b, some _ :: os => b :: dirtN (b + 1) os
theorem mem_dirtN : ∀ (os : List (Option Sec)) (b x : Nat), x ∈ dirtN b os ↔ ∃ i o, x = b + i ∧ os[i]? = some (some o)
  | [], b, x => by simp [dirtN]
  | none :: os, b, x => by
    rw [dirtN, mem_dirtN os (b + 1) x]
    constructor
    · rintro ⟨i, o, rfl, h⟩
      exact ⟨i + 1, o, by omega, by simpa using h⟩
    · rintro ⟨i, o, rfl, h⟩
      cases i with
      | zero => simp at h
      | succ i => exact ⟨i, o, by omega, by simpa using h⟩
  | some v :: os, b, x => by
    rw [dirtN, List.mem_cons, mem_dirtN os (b + 1) x]
    constructor
    · rintro (rfl | ⟨i, o, rfl, h⟩)
      · exact ⟨0, v, rfl, rfl⟩
      · exact ⟨i + 1, o, by omega, by simpa using h⟩
    · rintro ⟨i, o, rfl, h⟩
      cases i with
      | zero => exact Or.inl rfl
      | succ i => exact Or.inr ⟨i, o, by omega, by simpa using h⟩
theorem dirtN_sorted (os : List (Option Sec)) (b : Nat) : (dirtN b os).Pairwise (· < ·) := by
  induction os generalizing b with
  | nil => exact List.Pairwise.nil
  | cons o os ih =>
    cases o with
    | none => exact ih (b + 1)
    | some v =>
      refine List.pairwise_cons.2 ⟨fun x hx => ?_, ih (b + 1)⟩
      obtain ⟨i, _, rfl, _⟩ := (mem_dirtN os (b + 1) x).1 hx
      omega
/-- How many sectors are dirty. -/
def dirt (os : List (Option Sec)) : Nat := (dirtN 0 os).length
theorem dirtN_none : ∀ (n b : Nat), dirtN b (List.replicate n none) = []
  | 0, _ => rfl
  | n + 1, b => dirtN_none n (b + 1)
theorem dirtN_le : ∀ (os : List (Option Sec)) (b : Nat), (dirtN b os).length ≤ os.length
  | [], _ => Nat.le_refl _
  | none :: os, b => Nat.le_succ_of_le (dirtN_le os (b + 1))
  | some _ :: os, b => Nat.succ_le_succ (dirtN_le os (b + 1))

/-- From the dirty sector number k on: those that keep does not hold fall back. -/
def putAll (old : List (Option Sec)) (keep : List Bool) : Nat → List Nat → List Sec → List Sec
  | _, [], S => S
  | k, i :: is, S => putAll old keep (k + 1) is (if keep.getD k false then S else S.set i ((old.getD i none).getD []))
/-- What a loss of power leaves. -/
def crashed (keep : List Bool) : Nat → List Sec → List (Option Sec) → List Sec
  | _, [], _ => []
  | _, c :: cs, [] => c :: cs
  | k, c :: cs, none :: os => c :: crashed keep k cs os
  | k, c :: cs, some o :: os => (if keep.getD k false then c else o) :: crashed keep (k + 1) cs os
theorem putAll_crashed (keep : List Bool) (old : List (Option Sec)) : ∀ (os : List (Option Sec)) (k b : Nat) (pre cs : List Sec), pre.length = b → old.drop b = os → cs.length = os.length →
    putAll old keep k (dirtN b os) (pre ++ cs) = pre ++ crashed keep k cs os
  | [], k, b, pre, cs, _, _, hl => by
    obtain rfl : cs = [] := List.eq_nil_of_length_eq_zero hl
    simp [dirtN, putAll, crashed]
  | o :: os, k, b, pre, [], _, _, hl => by simp at hl
  | none :: os, k, b, pre, c :: cs, hb, ho, hl => by
    have h := putAll_crashed keep old os k (b + 1) (pre ++ [c]) cs (by simp [hb]) (by rw [← List.drop_drop, ho]; rfl) (by simpa using hl)
    simpa [dirtN, crashed] using h
  | some o :: os, k, b, pre, c :: cs, hb, ho, hl => by
    have hg : (old.getD b none).getD [] = o := by
      have : old[b]? = some (some o) := by
        have := congrArg (·[0]?) ho
        simpa [List.getElem?_drop] using this
      simp [List.getD, this]
    have h := putAll_crashed keep old os (k + 1) (b + 1) (pre ++ [if keep.getD k false then c else o]) cs (by simp [hb]) (by rw [← List.drop_drop, ho]; rfl) (by simpa using hl)
    rw [dirtN, putAll, hg]
    have e : (if keep.getD k false = true then pre ++ c :: cs else (pre ++ c :: cs).set b o) = (pre ++ [if keep.getD k false then c else o]) ++ cs := by
      by_cases hk : keep.getD k false = true
      · rw [if_pos hk, if_pos hk]; simp
      · rw [if_neg hk, if_neg hk, ← hb]; simp
    rw [e, h]
    simp [crashed]
theorem crashed_len (keep : List Bool) : ∀ (cs : List Sec) (os : List (Option Sec)) (k : Nat), (crashed keep k cs os).length = cs.length
  | [], _, _ => by simp [crashed]
  | c :: cs, [], _ => by simp [crashed]
  | c :: cs, none :: os, k => by simp [crashed, crashed_len keep cs os k]
  | c :: cs, some o :: os, k => by simp [crashed, crashed_len keep cs os (k + 1)]
theorem crashed_all {p : Sec → Prop} (keep : List Bool) : ∀ (cs : List Sec) (os : List (Option Sec)) (k : Nat), (∀ s ∈ cs, p s) → (∀ o, some o ∈ os → p o) → ∀ s ∈ crashed keep k cs os, p s
  | [], _, _, _, _ => by simp [crashed]
  | c :: cs, [], _, h, _ => by simpa [crashed] using h
  | c :: cs, none :: os, k, h, ho => by
    intro s hs
    rcases List.mem_cons.1 hs with rfl | hs
    · exact h _ (List.mem_cons_self ..)
    · exact crashed_all keep cs os k (fun t ht => h t (List.mem_cons_of_mem _ ht)) (fun o hm => ho o (List.mem_cons_of_mem _ hm)) s hs
  | c :: cs, some o :: os, k, h, ho => by
    intro s hs
    rcases List.mem_cons.1 hs with rfl | hs
    · split
      · exact h _ (List.mem_cons_self ..)
      · exact ho _ (List.mem_cons_self ..)
    · exact crashed_all keep cs os (k + 1) (fun t ht => h t (List.mem_cons_of_mem _ ht)) (fun o hm => ho o (List.mem_cons_of_mem _ hm)) s hs

/-- A disk: the contents of its sectors, of a dirty one those at the last Sync too, the fuse, whether it is dead. -/
structure Dk where
  cur : List Sec
  old : List (Option Sec)
  fused : Bool
  fuse : Int
  dead : Bool
structure Dk.Ok (d : Dk) (n : Nat) : Prop where
  len : d.cur.length = n
  olen : d.old.length = n
  pos : 1 ≤ n
  max : n ≤ 4096
  size : Sized d.cur
  osize : ∀ o, some o ∈ d.old → o.length = 64
  byte : ∀ s ∈ d.cur, Bytes s
  obyte : ∀ o, some o ∈ d.old → Bytes o
  low : -9223372036854775808 ≤ d.fuse
  high : d.fuse ≤ 9223372036854775807
  lit : d.fused = true → 0 ≤ d.fuse
def zeroS : Sec := List.replicate 64 0
theorem zeroS_bytes : Bytes zeroS := fun x hx => by rw [List.eq_of_mem_replicate hx]; omega
def fresh (S : List Sec) : Dk := ⟨S, List.replicate S.length none, false, 0, false⟩
def blank (n : Nat) : Dk := fresh (List.replicate n zeroS)
theorem fresh_ok {S : List Sec} {n : Nat} (hl : S.length = n) (h1 : 1 ≤ n) (h2 : n ≤ 4096) (hs : Sized S) (hb : ∀ s ∈ S, Bytes s) : (fresh S).Ok n :=
  ⟨hl, by simp [fresh, hl], h1, h2, hs, fun o ho => (by simp [fresh] at ho), hb, fun o ho => (by simp [fresh] at ho), by simp [fresh], by simp [fresh], by simp [fresh]⟩
theorem blank_ok {n : Nat} (h1 : 1 ≤ n) (h2 : n ≤ 4096) : (blank n).Ok n :=
  fresh_ok (by simp) h1 h2 (fun s hs => by rw [List.eq_of_mem_replicate hs]; rfl) (fun s hs => by rw [List.eq_of_mem_replicate hs]; exact zeroS_bytes)
/-- The fuse burns: whether the call goes on, and the disk then. -/
def Dk.burn (d : Dk) : Bool × Dk := if d.fused then (if d.fuse = 0 then (false, { d with dead := true }) else (true, { d with fuse := d.fuse - 1 })) else (true, d)
def pad (b : List Int) : Sec := b ++ List.replicate (64 - b.length) 0
theorem pad_len {b : List Int} (h : b.length ≤ 64) : (pad b).length = 64 := by simp [pad]; omega
theorem pad_bytes {b : List Int} (h : Bytes b) : Bytes (pad b) := fun x hx => by
  rcases List.mem_append.1 hx with hx | hx
  · exact h x hx
  · rw [List.eq_of_mem_replicate hx]; omega
def Dk.put (d : Dk) (i : Nat) (b : List Int) : Dk := { d with cur := d.cur.set i (pad b), old := d.old.set i (some ((d.old.getD i none).getD (d.cur.getD i []))) }
def Dk.write (d : Dk) (i : Int) (b : List Int) : Int × Dk :=
  if d.dead then (12, d) else if 0 ≤ i ∧ i < d.cur.length then (if b.length ≤ 64 then (if d.burn.1 then (0, d.burn.2.put i.toNat b) else (12, d.burn.2)) else (7, d)) else (4, d)
def Dk.wipe (d : Dk) : Dk := { d with old := List.replicate d.old.length none }
def Dk.sync (d : Dk) : Int × Dk := if d.dead then (12, d) else if d.burn.1 then (0, d.burn.2.wipe) else (12, d.burn.2)
def Dk.light (d : Dk) (n : Int) : Dk := { d with fused := decide (0 ≤ n), fuse := n }
def Dk.crash (d : Dk) (keep : List Bool) : Dk := fresh (crashed keep 0 d.cur d.old)
theorem Dk.Ok.burn {d : Dk} {n : Nat} (h : d.Ok n) : d.burn.2.Ok n := by
  unfold Dk.burn
  split
  · rename_i hf
    have := h.lit hf
    split
    · exact ⟨h.len, h.olen, h.pos, h.max, h.size, h.osize, h.byte, h.obyte, h.low, h.high, h.lit⟩
    · exact ⟨h.len, h.olen, h.pos, h.max, h.size, h.osize, h.byte, h.obyte, by show _ ≤ d.fuse - 1; omega, by have := h.high; show d.fuse - 1 ≤ _; omega, fun _ => by show 0 ≤ d.fuse - 1; omega⟩
  · exact h
theorem Dk.Ok.put {d : Dk} {n i : Nat} (h : d.Ok n) (hi : i < n) {b : List Int} (hb : b.length ≤ 64) (hy : Bytes b) : (d.put i b).Ok n := by
  have hl := h.len
  have hg : d.cur.getD i [] ∈ d.cur := by simp [List.getD, show i < d.cur.length by omega]
  have hm : ∀ o, some o ∈ (d.put i b).old → some o ∈ d.old ∨ o = d.cur.getD i [] := by
    intro o ho
    rcases List.mem_or_eq_of_mem_set ho with ho | ho
    · exact Or.inl ho
    · injection ho with ho
      cases hc : d.old.getD i none with
      | none => rw [hc] at ho; exact Or.inr ho
      | some o' =>
        rw [hc] at ho
        have ho : o = o' := ho
        subst ho
        refine Or.inl ?_
        rw [← hc]
        have : i < d.old.length := by have := h.olen; omega
        simp [List.getD, this]
  refine ⟨by simp [Dk.put, hl], by simp [Dk.put, h.olen], h.pos, h.max, h.size.set i (pad_len hb), fun o ho => ?_, fun s hs => ?_, fun o ho => ?_, h.low, h.high, h.lit⟩
  · rcases hm o ho with ho | rfl
    · exact h.osize o ho
    · exact h.size _ hg
  · rcases List.mem_or_eq_of_mem_set hs with hs | rfl
    · exact h.byte s hs
    · exact pad_bytes hy
  · rcases hm o ho with ho | rfl
    · exact h.obyte o ho
    · exact h.byte _ hg
theorem Dk.Ok.write {d : Dk} {n : Nat} (h : d.Ok n) (i : Int) {b : List Int} (hy : Bytes b) : (d.write i b).2.Ok n := by
  unfold Dk.write
  split
  · exact h
  · split
    · rename_i hi
      split
      · rename_i hb
        split
        · exact h.burn.put (by have := h.len; omega) hb hy
        · exact h.burn
      · exact h
    · exact h
theorem Dk.Ok.wipe {d : Dk} {n : Nat} (h : d.Ok n) : d.wipe.Ok n :=
  ⟨h.len, by simp [Dk.wipe, h.olen], h.pos, h.max, h.size, fun o ho => (by simp [Dk.wipe] at ho), h.byte, fun o ho => (by simp [Dk.wipe] at ho), h.low, h.high, h.lit⟩
theorem Dk.Ok.sync {d : Dk} {n : Nat} (h : d.Ok n) : d.sync.2.Ok n := by
  unfold Dk.sync
  split
  · exact h
  · split
    · exact h.burn.wipe
    · exact h.burn
theorem Dk.Ok.light {d : Dk} {n : Nat} (h : d.Ok n) {x : Int} (h0 : -9223372036854775808 ≤ x) (h1 : x ≤ 9223372036854775807) : (d.light x).Ok n :=
  ⟨h.len, h.olen, h.pos, h.max, h.size, h.osize, h.byte, h.obyte, h0, h1, fun e => by simpa [Dk.light] using e⟩
theorem Dk.Ok.crash {d : Dk} {n : Nat} (h : d.Ok n) (keep : List Bool) : (d.crash keep).Ok n :=
  fresh_ok (by rw [crashed_len, h.len]) h.pos h.max (crashed_all keep _ _ _ h.size h.osize) (crashed_all keep _ _ _ h.byte h.obyte)
/-! The chapter's example. -/
def ex1 : Dk := ((blank 5).write 3 [97]).2
def ex2 : Dk := ex1.sync.2
def ex3 : Dk := (ex2.write 3 [98]).2
def ex4 : Dk := (ex3.write 1 [99]).2
def ex5 : Dk := ex4.crash [true]
theorem one_bytes {x : Int} (h0 : 0 ≤ x) (h1 : x ≤ 255) : Bytes [x] := fun y hy => by rw [List.mem_singleton.1 hy]; exact ⟨h0, h1⟩
theorem ex1_ok : ex1.Ok 5 := (blank_ok (by omega) (by omega)).write 3 (one_bytes (by omega) (by omega))
theorem ex2_ok : ex2.Ok 5 := ex1_ok.sync
theorem ex3_ok : ex3.Ok 5 := ex2_ok.write 3 (one_bytes (by omega) (by omega))
theorem ex4_ok : ex4.Ok 5 := ex3_ok.write 1 (one_bytes (by omega) (by omega))
theorem ex5_ok : ex5.Ok 5 := ex4_ok.crash _
theorem ex1_out : ((blank 5).write 3 [97]).1 = 0 := by decide
theorem ex2_out : ex1.sync.1 = 0 := by decide
theorem ex3_out : (ex2.write 3 [98]).1 = 0 := by decide
theorem ex4_out : (ex3.write 1 [99]).1 = 0 := by decide
theorem ex4_dirt : dirt ex4.old = 2 := by decide
theorem ex5_one : (ex5.cur.getD 1 []).getD 0 0 = 99 := by decide
theorem ex5_three : (ex5.cur.getD 3 []).getD 0 0 = 97 := by decide
theorem ex5_live : ex5.dead = false := rfl
end Go.Proofs.Ytbnomkcliejcaaa.Ds
