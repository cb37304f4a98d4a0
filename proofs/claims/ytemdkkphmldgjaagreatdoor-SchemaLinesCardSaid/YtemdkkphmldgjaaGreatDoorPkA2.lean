/-
  Texts of the proof, put together: LexFind LexBare LexStrs LexUnq LexFirst LexBlank.
-/
import Derived.Lib.CountLaws
import Derived.Deep.QuietTactic
import Derived.BigQuiet
import Derived.Test.YtemdkkphmldgjaaGreatDoorPkA1
set_option maxRecDepth 100000
set_option maxHeartbeats 3200000
namespace Go.Proofs.YtemdkkphmldgjaaGreatDoor
open Go.RowKit Lx
namespace Lx
theorem byte_z (c : UInt8) : (((c.toNat : Nat) : Int)).toNat.toUInt8 = c := by simp
theorem ix_marks (c : UInt8) : decide (Lib.indexByte [123, 125, 59, 44, 47] c >= 0) = markB c := by
 revert c
 have h : ∀ k : Fin 256, decide (Lib.indexByte [123, 125, 59, 44, 47] (UInt8.ofNat k.val) >= 0) = markB (UInt8.ofNat k.val) := by decide +kernel
 intro c
 have := h ⟨c.toNat, UInt8.toNat_lt c⟩
 rwa [UInt8.ofNat_toNat] at this
end Lx
theorem sliteByte_c (s : ByteArray) (c : UInt8) (w : World) :
    Calls Tryz.prog 190 #[.string s, .int .u8 ((c.toNat : Nat) : Int)] w fun e w' => e = .returned (.int .i64 (Lib.indexByte (bys s) c)) /\ w = w' := by
 go_enter Tryz.func190, Tryz.ntmps190
 go_wp2
 rw [run_callFunc_extern Tryz.func229 (by kernel_rfl) (by kernel_rfl) (by kernel_rfl) (e := Extern.BytealgIndexByte.indexByte) (by kernel_rfl), Lib.run_indexByteString, byte_z]
 simp only [Result.andThen]
 rw [Oper.upon_value]
 go_wp2
 go_ret
 exact ⟨rfl, rfl⟩
theorem indexByte_c (s : ByteArray) (c : UInt8) (w : World) :
    Calls Tryz.prog 137 #[.string s, .int .u8 ((c.toNat : Nat) : Int)] w fun e w' => e = .returned (.int .i64 (Lib.indexByte (bys s) c)) /\ w = w' := by
 have HS := Lib.hid (sliteByte_c s c w)
 go_enter Tryz.func137, Tryz.ntmps137
 go_wp2_with fail
 refine HS.out.mono ?_
 rintro e w' ⟨rfl, rfl⟩
 go_wp2_with fail
 go_ret
 exact ⟨rfl, rfl⟩
theorem count_c (s : ByteArray) (w : World) :
    Calls Tryz.prog 77 #[.string s, .string ⟨#[10]⟩] w fun e w' => e = .returned (.int .i64 ((nlN (bys s) : Nat) : Int)) /\ w = w' := by
 have hc : Hid (Lib.countByte s.data.toList ((⟨#[10]⟩ : ByteArray)[0]) = nlN (bys s)) := by
  show List.count _ _ = _
  unfold nlN bys List.count
  refine List.countP_congr fun x _ => ?_
  have e : ((⟨#[10]⟩ : ByteArray)[0]).toNat = 10 := rfl
  constructor
  . intro h; rw [beq_iff_eq] at h; rw [h, e]; rfl
  . intro h; rw [beq_iff_eq]; exact UInt8.toNat_inj.1 (by rw [e]; exact of_decide_eq_true h)
 go_enter Tryz.func77, Tryz.ntmps77
 go_wp2
 rw [run_callFunc_extern Tryz.func132 (by kernel_rfl) (by kernel_rfl) (by kernel_rfl) (e := Extern.BytealgCount.count) (by kernel_rfl), Lib.run_countString, byte_z, hc.out]
 simp only [Result.andThen]
 rw [Oper.upon_value]
 go_wp2
 go_ret
 exact ⟨rfl, rfl⟩
end Go.Proofs.YtemdkkphmldgjaaGreatDoor
namespace Go.Proofs.YtemdkkphmldgjaaGreatDoor
open Go.RowKit Lx
namespace Lx
theorem bare_at {l p q : List UInt8} {c : UInt8} (h : l = p ++ c :: q) (hc : c.toNat = 47) (hp : ∀ x ∈ p, x.toNat ≠ 47) : bareB l = (numB p && numB q) := by
 have ht : ∀ p : List UInt8, (∀ x ∈ p, x.toNat ≠ 47) -> (p ++ c :: q).takeWhile (fun c => !decide (c.toNat = 47)) = p /\ (p ++ c :: q).dropWhile (fun c => !decide (c.toNat = 47)) = c :: q := by
  intro p
  induction p with
  | nil => intro _; simp [hc]
  | cons d p ih =>
   intro hp
   have h1 := hp d (List.mem_cons_self ..)
   have h2 := ih fun x hx => hp x (List.mem_cons_of_mem _ hx)
   rw [List.cons_append, List.takeWhile_cons, List.dropWhile_cons, if_pos (by simp [h1]), if_pos (by simp [h1]), h2.1, h2.2]
   exact ⟨rfl, rfl⟩
 unfold bareB
 rw [if_pos (by rw [h, List.any_append, List.any_cons, decide_eq_true hc]; simp), h, (ht p hp).1, (ht p hp).2]
 rfl
theorem bare_none {l : List UInt8} (h : ∀ x ∈ l, x.toNat ≠ 47) : bareB l = (wordB l || numB l) := by
 unfold bareB
 rw [if_neg]
 intro hh
 obtain ⟨x, hx, h47⟩ := List.any_eq_true.1 hh
 exact h x hx (of_decide_eq_true h47)
def cutS (s : ByteArray) : ByteArray × ByteArray × Bool :=
 if 0 <= Lib.indexByte (bys s) 47 then (s.extract 0 (Lib.indexByte (bys s) 47).toNat, s.extract ((Lib.indexByte (bys s) 47).toNat + 1) s.size, true) else (s, ⟨#[]⟩, false)
theorem bys_sub (s : ByteArray) (i : Nat) : bys (s.extract i s.size) = (bys s).drop i := by
 rw [bys_extract, List.take_of_length_le]
 rw [List.length_drop, bys_len]
 exact Nat.le_refl _
theorem bys_pre (s : ByteArray) (i : Nat) : bys (s.extract 0 i) = (bys s).take i := by
 rw [bys_extract]; rfl
theorem ne47 {x : UInt8} (h : x ≠ 47) : x.toNat ≠ 47 := fun e => h (UInt8.toNat_inj.1 (by rw [e]; rfl))
theorem bare_cut (s : ByteArray) : bareB (bys s) = (if (cutS s).2.2 then numB (bys (cutS s).1) && numB (bys (cutS s).2.1) else wordB (bys s) || numB (bys s)) := by
 unfold cutS
 by_cases h : 0 <= Lib.indexByte (bys s) 47
 . obtain ⟨k, hk⟩ : ∃ k : Nat, Lib.indexByte (bys s) 47 = k := ⟨(Lib.indexByte (bys s) 47).toNat, by omega⟩
   rw [if_pos h]
   simp only [if_true, hk, Int.toNat_natCast, bys_sub, bys_pre]
   obtain ⟨h1, h2⟩ := Lib.indexByte_some hk
   obtain ⟨hkl, hke⟩ := List.getElem?_eq_some_iff.1 h1
   refine bare_at (c := 47) ?_ rfl ?_
   . have := List.take_append_drop k (bys s)
     rw [List.drop_eq_getElem_cons hkl, hke] at this
     exact this.symm
   . intro x hx
     obtain ⟨i, hi, rfl⟩ := List.mem_iff_getElem.1 hx
     rw [List.length_take] at hi
     refine ne47 fun e => h2 i (by omega) ?_
     rw [List.getElem_take] at e
     rw [<- e]
     exact List.getElem?_eq_getElem _
 . have hm : Lib.indexByte (bys s) 47 = -1 := by have := Lib.indexByte_ge (bys s) 47; omega
   rw [if_neg h]
   simp only [Bool.false_eq_true, if_false]
   refine bare_none fun x hx => ne47 fun e => ?_
   obtain ⟨i, hi, he⟩ := List.mem_iff_getElem.1 hx
   exact Lib.indexByte_none hm i (by rw [List.getElem?_eq_getElem hi, he, e])
theorem cutS_size (s : ByteArray) : (cutS s).1.size <= s.size /\ (cutS s).2.1.size <= s.size := by
 unfold cutS
 split
 . simp only [ByteArray.size_extract]; omega
 . exact ⟨Nat.le_refl _, Nat.zero_le _⟩
end Lx
theorem sliteIndex_c (s : ByteArray) (w : World) :
    Calls Tryz.prog 186 #[.string s, .string ⟨#[47]⟩] w fun e w' => e = .returned (.int .i64 (Lib.indexByte (bys s) 47)) /\ w = w' := by
 have HI := Lib.hid (sliteByte_c s ((⟨#[47]⟩ : ByteArray)[0]) w)
 have hz : ∀ x : Int, Lib.indexByte (bys s) 47 = x -> Lib.indexByte (bys s) ((⟨#[47]⟩ : ByteArray)[0]) = x := fun x h => h
 have HZ := Lib.hid hz
 clear hz
 by_cases h : ([47] == s.toList) = true
 . have e : Hid (Lib.indexByte (bys s) 47 = 0) := by
    show _ = _
    rw [<- toList_bys, <- beq_iff_eq.1 h]
    rfl
   go_enter Tryz.func186, Tryz.ntmps186
   go_wp2_with fail
   go_ret
   exact ⟨i64_ret e.out.symm, rfl⟩
 . have h' : ([47] == s.toList) = false := by simpa using h
   clear h
   go_enter Tryz.func186, Tryz.ntmps186
   go_wp2_with fail
   refine HI.out.mono ?_
   rintro e w' ⟨rfl, rfl⟩
   go_wp2_with fail
   go_ret
   exact ⟨i64_ret rfl, rfl⟩
theorem sliteCut_c (s : ByteArray) (w : World) (hs : s.size <= 1000000) :
    Calls Tryz.prog 178 #[.string s, .string ⟨#[47]⟩] w fun e w' => e = .returned (.tuple #[.string (cutS s).1, .string (cutS s).2.1, .bool (cutS s).2.2]) /\ ∃ q, w.drewN q = w' := by
 obtain ⟨i, hi⟩ : ∃ i, Hid (i = Lib.indexByte (bys s) 47) := ⟨_, rfl⟩
 have HI := sliteIndex_c s w
 rw [<- hi.out] at HI
 have HI := Lib.hid HI
 obtain ⟨r, hr⟩ : ∃ r, Hid (r = cutS s) := ⟨_, rfl⟩
 have hrr : r = if 0 <= i then (s.extract 0 i.toNat, s.extract (i.toNat + 1) s.size, true) else (s, ⟨#[]⟩, false) := by rw [hr.out, hi.out]; rfl
 have HR := Lib.hid hrr
 rw [<- hr.out]
 clear hrr
 by_cases h0 : 0 <= i
 . obtain ⟨k, rfl⟩ : ∃ k : Nat, i = k := ⟨i.toNat, by omega⟩
   have hb : k < s.size := by
    have h1 := (Lib.indexByte_some hi.out.symm).1
    have h2 := (List.getElem?_eq_some_iff.mp h1).1
    rwa [bys_len] at h2
   have e := HR.out
   rw [if_pos h0] at e
   rw [show ((k : Int)).toNat = k from rfl] at e
   subst e
   have hd : decide ((0 : Int) <= (k : Int)) = true := by simp
   have c1 : (0 : Int) <= (k : Int) := by omega
   have c2 : (k : Int) <= (s.size : Int) := by omega
   have c3 : (0 : Int) <= (k : Int) + 1 := by omega
   have c4 : (k : Int) + 1 <= (s.size : Int) := by omega
   have c5 : IntKind.i64.wrap ((k : Int) + 1) = (k : Int) + 1 := IntWalk.i64_in _ (by omega)
   have c6 : ((k : Int) + 1).toNat = k + 1 := by omega
   go_enter Tryz.func178, Tryz.ntmps178
   go_wp2_with fail
   refine HI.out.mono ?_
   rintro e w' ⟨rfl, rfl⟩
   go_wp2_with fail
   go_quiet (fail)
   go_wp2_with fail
   go_ret3
   exact ⟨rfl, _, rfl⟩
 . have hd : decide (0 <= i) = false := by simpa using h0
   have e := HR.out
   rw [if_neg h0] at e
   subst e
   go_enter Tryz.func178, Tryz.ntmps178
   go_wp2_with fail
   refine HI.out.mono ?_
   rintro e w' ⟨rfl, rfl⟩
   go_wp2_with fail
   go_ret3
   exact ⟨rfl, 0, rfl⟩
theorem cut_c (s : ByteArray) (w : World) (hs : s.size <= 1000000) :
    Calls Tryz.prog 121 #[.string s, .string ⟨#[47]⟩] w fun e w' => e = .returned (.tuple #[.string (cutS s).1, .string (cutS s).2.1, .bool (cutS s).2.2]) /\ ∃ q, w.drewN q = w' := by
 have H := Lib.hid (sliteCut_c s w hs)
 go_enter Tryz.func121, Tryz.ntmps121
 go_wp2_with fail
 refine H.out.mono ?_
 rintro e w' ⟨rfl, n, rfl⟩
 go_wp2_with fail
 go_ret3
 exact ⟨rfl, n, rfl⟩
theorem bare_c (s : ByteArray) (w : World) (hs : s.size <= 1000000) :
    Calls Tryz.prog 241 #[.string s] w fun e w' => e = .returned (.bool (bareB (bys s))) /\ ∃ q, w.drewN q = w' := by
 have HC := cut_c s w hs
 obtain ⟨u, hu⟩ : ∃ u, Hid ((cutS s).1 = u) := ⟨_, rfl⟩
 obtain ⟨v, hv⟩ : ∃ v, Hid ((cutS s).2.1 = v) := ⟨_, rfl⟩
 obtain ⟨f, hf⟩ : ∃ f, Hid ((cutS s).2.2 = f) := ⟨_, rfl⟩
 obtain ⟨R, hR0⟩ : ∃ R, Hid (bareB (bys s) = R) := ⟨_, rfl⟩
 obtain ⟨nu, hnu⟩ : ∃ b, Hid (numB (bys u) = b) := ⟨_, rfl⟩
 obtain ⟨nv, hnv⟩ : ∃ b, Hid (numB (bys v) = b) := ⟨_, rfl⟩
 obtain ⟨ws, hws⟩ : ∃ b, Hid (wordB (bys s) = b) := ⟨_, rfl⟩
 obtain ⟨ns, hns⟩ : ∃ b, Hid (numB (bys s) = b) := ⟨_, rfl⟩
 have hR : Hid (R = if f then nu && nv else ws || ns) := by
  show _ = _
  rw [<- hR0.out, bare_cut, hu.out, hv.out, hf.out, hnu.out, hnv.out, hws.out, hns.out]
 have su : u.size <= 1000000 := by rw [<- hu.out]; exact Nat.le_trans (cutS_size s).1 hs
 have sv : v.size <= 1000000 := by rw [<- hv.out]; exact Nat.le_trans (cutS_size s).2 hs
 have H1 : Hid (∀ q, Calls Tryz.prog 136 #[.string u] (w.drewN q) fun e w' => e = .returned (.bool nu) /\ w.drewN q = w') := fun q => by rw [<- hnu.out]; exact isNumber_c u (w.drewN q) su
 have H2 : Hid (∀ q, Calls Tryz.prog 136 #[.string v] (w.drewN q) fun e w' => e = .returned (.bool nv) /\ w.drewN q = w') := fun q => by rw [<- hnv.out]; exact isNumber_c v (w.drewN q) sv
 have H3 : Hid (∀ q, Calls Tryz.prog 135 #[.string s] (w.drewN q) fun e w' => e = .returned (.bool ws) /\ w.drewN q = w') := fun q => by rw [<- hws.out]; exact isWord_c s (w.drewN q) hs
 have H4 : Hid (∀ q, Calls Tryz.prog 136 #[.string s] (w.drewN q) fun e w' => e = .returned (.bool ns) /\ w.drewN q = w') := fun q => by rw [<- hns.out]; exact isNumber_c s (w.drewN q) hs
 rw [hu.out, hv.out, hf.out] at HC
 have HC := Lib.hid HC
 rw [hR0.out]
 clear su sv
 cases f with
 | true =>
  cases nu with
  | true =>
   go_enter Tryz.func241, Tryz.ntmps241
   go_wp2_with fail
   refine HC.out.mono ?_
   rintro e w' ⟨rfl, q, rfl⟩
   go_wp2_with fail
   refine (H1.out q).mono ?_
   rintro e w' ⟨rfl, rfl⟩
   go_wp2_with fail
   refine (H2.out q).mono ?_
   rintro e w' ⟨rfl, rfl⟩
   go_wp2_with fail
   go_ret
   exact ⟨bool_ret (by rw [hR.out]; rfl), q, rfl⟩
  | false =>
   go_enter Tryz.func241, Tryz.ntmps241
   go_wp2_with fail
   refine HC.out.mono ?_
   rintro e w' ⟨rfl, q, rfl⟩
   go_wp2_with fail
   refine (H1.out q).mono ?_
   rintro e w' ⟨rfl, rfl⟩
   go_wp2_with fail
   go_ret
   exact ⟨bool_ret (by rw [hR.out]; rfl), q, rfl⟩
 | false =>
  cases ws with
  | true =>
   go_enter Tryz.func241, Tryz.ntmps241
   go_wp2_with fail
   refine HC.out.mono ?_
   rintro e w' ⟨rfl, q, rfl⟩
   go_wp2_with fail
   refine (H3.out q).mono ?_
   rintro e w' ⟨rfl, rfl⟩
   go_wp2_with fail
   go_ret
   exact ⟨bool_ret (by rw [hR.out]; rfl), q, rfl⟩
  | false =>
   go_enter Tryz.func241, Tryz.ntmps241
   go_wp2_with fail
   refine HC.out.mono ?_
   rintro e w' ⟨rfl, q, rfl⟩
   go_wp2_with fail
   refine (H3.out q).mono ?_
   rintro e w' ⟨rfl, rfl⟩
   go_wp2_with fail
   refine (H4.out q).mono ?_
   rintro e w' ⟨rfl, rfl⟩
   go_wp2_with fail
   go_ret
   exact ⟨bool_ret (by rw [hR.out]; rfl), q, rfl⟩
end Go.Proofs.YtemdkkphmldgjaaGreatDoor
namespace Go.Proofs.YtemdkkphmldgjaaGreatDoor
open Go.RowKit Lx
namespace Lx
def addS (t : List UInt8) (j : Nat) (r : Option (List UInt8 × Nat)) : Option (List UInt8 × Nat) := r.map fun x => (t ++ x.1, x.2 + j)
theorem addS_zero (r : Option (List UInt8 × Nat)) : addS [] 0 r = r := by cases r <;> rfl
theorem addS_end (t : List UInt8) (j : Nat) {c : UInt8} (h : c.toNat = 34) (r : List UInt8) : addS t j (strS (c :: r)) = some (t, 1 + j) := by
 rw [strS_cons, if_pos h]; simp [addS]
theorem addS_bad (t : List UInt8) (j : Nat) {c : UInt8} (h : ¬ c.toNat = 34) (hp : plainB c = false) (r : List UInt8) : addS t j (strS (c :: r)) = none := by
 rw [strS_cons, if_neg h, hp]; rfl
theorem addS_plain (t : List UInt8) (j : Nat) {c : UInt8} (h : ¬ c.toNat = 34) (h2 : ¬ c.toNat = 92) (hp : plainB c = true) (r : List UInt8) : addS t j (strS (c :: r)) = addS (t ++ [c]) (j + 1) (strS r) := by
 rw [strS_cons, if_neg h, if_pos hp, if_neg h2]
 unfold addS
 rw [Option.map_map]
 congr 1
 funext x
 simp only [Function.comp, List.append_assoc, List.cons_append, List.nil_append, Prod.mk.injEq, true_and]
 omega
theorem addS_esc (t : List UInt8) (j : Nat) {c d : UInt8} (h2 : c.toNat = 92) (hd : escB d = true) (r : List UInt8) : addS t j (strS (c :: d :: r)) = addS (t ++ [d]) (j + 2) (strS r) := by
 rw [strS_cons, if_neg (by omega), if_pos (by simp [plainB, h2]), if_pos h2]
 simp only [if_pos hd]
 unfold addS
 rw [Option.map_map]
 congr 1
 funext x
 simp only [Function.comp, List.append_assoc, List.cons_append, List.nil_append, Prod.mk.injEq, true_and]
 omega
theorem addS_esc_bad (t : List UInt8) (j : Nat) {c d : UInt8} (h2 : c.toNat = 92) (hd : escB d = false) (r : List UInt8) : addS t j (strS (c :: d :: r)) = none := by
 rw [strS_cons, if_neg (by omega), if_pos (by simp [plainB, h2]), if_pos h2]
 simp [addS, hd]
theorem addS_esc_end (t : List UInt8) (j : Nat) {c : UInt8} (h2 : c.toNat = 92) : addS t j (strS [c]) = none := by
 rw [strS_cons, if_neg (by omega), if_pos (by simp [plainB, h2]), if_pos h2]
 rfl
theorem addS_nil (t : List UInt8) (j : Nat) : addS t j (strS []) = none := by rw [strS]; rfl
theorem strOf_ints (l : List UInt8) : strOf (l.map fun b => ((b.toNat : Nat) : Int)) = stg l := by
 unfold strOf stg
 rw [List.map_map]
 congr 2
 have : ((fun x => UInt8.ofNat x.toNat) ∘ fun b : UInt8 => ((b.toNat : Nat) : Int)) = id := by
  funext b
  simp [Function.comp]
 rw [this, List.map_id]
theorem plain_of_esc {c : UInt8} (h : escB c = true) : plainB c = true := by
 simp only [escB, Bool.or_eq_true, decide_eq_true_eq] at h
 rcases h with h | h <;> simp [plainB, h]
end Lx
end Go.Proofs.YtemdkkphmldgjaaGreatDoor
namespace Go.Proofs.YtemdkkphmldgjaaGreatDoor
open Go.RowKit Lx
namespace Lx
def intsB (l : List UInt8) : List Int := l.map fun b => ((b.toNat : Nat) : Int)
theorem intsB_next (l : List UInt8) {d : UInt8} {n : Nat} (h : d.toNat = n) : intsB l ++ [(n : Int)] = intsB (l ++ [d]) := by simp [intsB, h]
def unqS : Option (List UInt8 × Nat) -> ByteArray × Nat
  | none => (⟨#[]⟩, 0)
  | some x => (stg x.1, x.2 + 1)
end Lx
theorem unq_ret {r : Option (List UInt8 × Nat)} {t : ByteArray} {k : Nat} {z : Int} (h : unqS r = (t, k)) (hz : z = k) : Ending.returned (.tuple #[.string t, .int .i64 z]) = .returned (.tuple #[.string (unqS r).1, .int .i64 (((unqS r).2 : Nat) : Int)]) := by rw [h, hz]
theorem unquote_c (s : ByteArray) (w : World) (hs : s.size <= 1000000) (hpos : 0 < s.size) :
    Calls Tryz.prog 138 #[.string s] w fun e w' => e = .returned (.tuple #[.string (unqS (strS ((bys s).drop 1))).1, .int .i64 (((unqS (strS ((bys s).drop 1))).2 : Nat) : Int)]) /\ Below w.heap.size w w' := by
 obtain ⟨R, hR⟩ : ∃ R, Hid (strS ((bys s).drop 1) = R) := ⟨_, rfl⟩
 rw [hR.out]
 go_enter Tryz.func138, Tryz.ntmps138
 go_wp2_with fail
 go_loopw [4, 5] (fun v i wr => ∃ (j : Nat) (T : List UInt8) (a : Option Addr) (c : Nat), 1 <= j /\ j <= s.size /\ T.length <= j /\ i = .int .i64 j /\ v = .slice a T.length c /\ Own 5 .u8 w.heap.size wr a T.length c (intsB T) /\ Hid (R = addS T (j - 1) (strS ((bys s).drop j))) /\ Below w.heap.size w wr) (fun _ i _ => s.size - (intOf i).toNat)
 case atStart => exact ⟨1, [], none, 0, Nat.le_refl _, hpos, Nat.zero_le _, rfl, rfl, own_nil _ _ _ _, by show _ = _; rw [hR.out]; exact (addS_zero R).symm, Below.refl _ _⟩
 case round =>
  obtain ⟨j, T, a, c, hj1, hj, hT, rfl, rfl, O, hI, B⟩ := hrel
  have zB := B.size
  by_cases hlt : j < s.size
  . have hlt' : (j : Int) < (s.size : Int) := by omega
    obtain ⟨d, hd, x1⟩ := at_s s j hlt
    have HP := isPrintable_c d wr
    obtain ⟨n, hn⟩ : ∃ n : Nat, Hid (d.toNat = n) := ⟨_, rfl⟩
    obtain ⟨p, hp⟩ : ∃ p, Hid (plainB d = p) := ⟨_, rfl⟩
    rw [hn.out] at x1
    rw [hn.out, hp.out] at HP
    have HP := Lib.hid HP
    have hlt256 : n < 256 := by rw [<- hn.out]; exact UInt8.toNat_lt d
    have g0 : (0 : Int) <= (n : Int) := by omega
    have g1 : (n : Int) <= 255 := by omega
    have HI : Hid (R = addS T (j - 1) (strS (d :: (bys s).drop (j + 1)))) := by show _ = _; rw [hI.out, hd.out]
    clear hI hlt256
    by_cases h34 : n = 34
    . have k34 : ((n : Int) == 34) = true := by simp; omega
      have hN : Hid (unqS R = (stg T, j + 1)) := by
       show _ = _
       rw [HI.out, addS_end _ _ (by rw [hn.out]; exact h34)]
       unfold unqS
       simp only [Prod.mk.injEq, true_and]
       omega
      have hcv := own_string O
      rw [show strOf (intsB T) = stg T from strOf_ints T] at hcv
      clear h34
      go_wp2_with fail
      go_ret2
      exact ⟨unq_ret hN.out (by omega), B⟩
    . have k34 : ((n : Int) == 34) = false := by rw [beq_eq_false_iff_ne]; omega
      have HN34 := Lib.hid h34
      clear h34
      by_cases h92 : n = 92
      . have k92 : ((n : Int) == 92) = true := by simp; omega
        have HN92 := Lib.hid h92
        clear h92
        by_cases hlt2 : j + 1 < s.size
        . have hlt2' : (((j : Int) + 1) == (s.size : Int)) = false := by rw [beq_eq_false_iff_ne]; omega
          obtain ⟨d2, hd2, x2⟩ := at_s s (j + 1) hlt2
          rw [show ((j + 1 : Nat) : Int) = (j : Int) + 1 by omega] at x2
          have HE := isSpecial_c d2 wr
          have HQ := isPrintable_c d2 wr
          obtain ⟨n2, hn2⟩ : ∃ n : Nat, Hid (d2.toNat = n) := ⟨_, rfl⟩
          obtain ⟨b, hb⟩ : ∃ b, Hid (escB d2 = b) := ⟨_, rfl⟩
          rw [hn2.out] at x2
          rw [hn2.out, hb.out] at HE
          rw [hn2.out] at HQ
          have HE := Lib.hid HE
          have HI2 : Hid (R = addS T (j - 1) (strS (d :: d2 :: (bys s).drop (j + 2)))) := by show _ = _; rw [HI.out, hd2.out]
          have hlt256 : n2 < 256 := by rw [<- hn2.out]; exact UInt8.toNat_lt d2
          have f0 : (0 : Int) <= (n2 : Int) := by omega
          have f1 : (n2 : Int) <= 255 := by omega
          clear hlt256
          cases b with
          | true =>
           rw [plain_of_esc hb.out] at HQ
           have HQ := Lib.hid HQ
           have hN : Hid (R = addS (T ++ [d2]) (j + 1) (strS ((bys s).drop (j + 2)))) := by
            show _ = _
            rw [HI2.out, addS_esc _ _ (by rw [hn.out]; exact HN92.out) hb.out, show j - 1 + 2 = j + 1 by omega]
           go_wp2_with fail
           refine HE.out.mono ?_
           rintro e w' ⟨rfl, rfl⟩
           go_wp2_with fail
           refine HQ.out.mono ?_
           rintro e w' ⟨rfl, rfl⟩
           go_wp2_with (at_builtin; refine wpList_app1 (B := w.heap.size) O zB (by omega) f0 f1 rfl rfl ?_)
           intro a2 c2 w2 O2 b2
           rw [intsB_next T hn2.out] at O2
           have B2 := B.trans b2
           clear O B b2
           go_wp2_with fail
           go_roundw
           case rel => exact ⟨j + 2, T ++ [d2], a2, c2, by omega, by omega, by rw [List.length_append]; simp; omega, by go_num, by rw [List.length_append]; rfl, by rw [List.length_append]; exact O2, hN, B2⟩
           case measure => simp [intOf]; omega
          | false =>
           have hN : Hid (unqS R = (⟨#[]⟩, 0)) := by
            show _ = _
            rw [HI2.out, addS_esc_bad _ _ (by rw [hn.out]; exact HN92.out) hb.out]
            rfl
           clear HQ
           go_wp2_with fail
           refine HE.out.mono ?_
           rintro e w' ⟨rfl, rfl⟩
           go_wp2_with fail
           go_ret2
           exact ⟨unq_ret hN.out rfl, B⟩
        . have hlt2' : (((j : Int) + 1) == (s.size : Int)) = true := by simp; omega
          have hN : Hid (unqS R = (⟨#[]⟩, 0)) := by
           show _ = _
           rw [HI.out, List.drop_of_length_le (by rw [bys_len]; omega), addS_esc_end _ _ (by rw [hn.out]; exact HN92.out)]
           rfl
          go_wp2_with fail
          go_ret2
          exact ⟨unq_ret hN.out rfl, B⟩
      . have k92 : ((n : Int) == 92) = false := by rw [beq_eq_false_iff_ne]; omega
        have HN92 := Lib.hid h92
        clear h92
        cases p with
        | true =>
         have hN : Hid (R = addS (T ++ [d]) j (strS ((bys s).drop (j + 1)))) := by
          show _ = _
          rw [HI.out, addS_plain _ _ (by rw [hn.out]; exact HN34.out) (by rw [hn.out]; exact HN92.out) hp.out, show j - 1 + 1 = j by omega]
         go_wp2_with fail
         refine HP.out.mono ?_
         rintro e w' ⟨rfl, rfl⟩
         go_wp2_with (at_builtin; refine wpList_app1 (B := w.heap.size) O zB (by omega) g0 g1 rfl rfl ?_)
         intro a2 c2 w2 O2 b2
         rw [intsB_next T hn.out] at O2
         have B2 := B.trans b2
         clear O B b2
         go_wp2_with fail
         go_roundw
         case rel => exact ⟨j + 1, T ++ [d], a2, c2, by omega, by omega, by rw [List.length_append]; simp; omega, by go_num, by rw [List.length_append]; rfl, by rw [List.length_append]; exact O2, hN, B2⟩
         case measure => simp [intOf]; omega
        | false =>
         have hN : Hid (unqS R = (⟨#[]⟩, 0)) := by
          show _ = _
          rw [HI.out, addS_bad _ _ (by rw [hn.out]; exact HN34.out) hp.out]
          rfl
         go_wp2_with fail
         refine HP.out.mono ?_
         rintro e w' ⟨rfl, rfl⟩
         go_wp2_with fail
         go_ret2
         exact ⟨unq_ret hN.out rfl, B⟩
  . obtain rfl : j = s.size := by omega
    have hN : Hid (unqS R = (⟨#[]⟩, 0)) := by show _ = _; rw [hI.out, bys_end, addS_nil]; rfl
    clear hI
    go_wp2_with fail
    go_ret2
    exact ⟨unq_ret hN.out rfl, B⟩
end Go.Proofs.YtemdkkphmldgjaaGreatDoor
namespace Go.Proofs.YtemdkkphmldgjaaGreatDoor
open Go.RowKit Lx
namespace Lx
def OneOut (r : Option (Nat × List UInt8 × Nat)) (e : Ending) : Prop := ∃ (k : Nat) (t : ByteArray) (n : Nat), e = .returned (.tuple #[.int .i64 (k : Int), .string t, .int .i64 (n : Int)]) /\
  match r with
  | none => n = 0
  | some x => k = x.1 /\ t = stg x.2.1 /\ n = x.2.2
theorem OneOut.some {x : Nat × List UInt8 × Nat} {r : Option (Nat × List UInt8 × Nat)} {k n : Nat} {t : ByteArray} {z y : Int} (h : r = Option.some x) (hk : z = (k : Int)) (hn : y = (n : Int)) (h1 : k = x.1) (h2 : t = stg x.2.1) (h3 : n = x.2.2) : OneOut r (.returned (.tuple #[.int .i64 z, .string t, .int .i64 y])) := by
 subst h hk hn
 exact ⟨k, t, n, rfl, h1, h2, h3⟩
theorem OneOut.none {r : Option (Nat × List UInt8 × Nat)} {k : Nat} {t : ByteArray} {z : Int} (h : r = Option.none) (hk : z = (k : Int)) : OneOut r (.returned (.tuple #[.int .i64 z, .string t, .int .i64 0])) := by
 subst h hk
 exact ⟨k, t, 0, rfl, rfl⟩
theorem pre_run (s : ByteArray) : bys (s.extract 0 (wrdN (bys s))) = (bys s).takeWhile tailB := by rw [bys_pre, run_take]
theorem pre_run_s (s : ByteArray) : s.extract 0 (wrdN (bys s)) = stg ((bys s).takeWhile tailB) := by rw [<- pre_run, stg_bys]
theorem one_word {l : List UInt8} (h : wordB (l.takeWhile tailB) = true) : oneS l = Option.some (1, l.takeWhile tailB, wrdN l) := by unfold oneS; rw [if_pos h]; rfl
theorem one_num {l : List UInt8} (h0 : wordB (l.takeWhile tailB) = false) (h : numB (l.takeWhile tailB) = true) : oneS l = Option.some (2, l.takeWhile tailB, wrdN l) := by unfold oneS; rw [h0, if_neg (by decide), if_pos h]; rfl
theorem one_mark {c : UInt8} {r : List UInt8} (h0 : wordB ((c :: r).takeWhile tailB) = false) (h1 : numB ((c :: r).takeWhile tailB) = false) (h : markB c = true) : oneS (c :: r) = Option.some (4, [c], 1) := by
 unfold oneS; rw [h0, if_neg (by decide), h1, if_neg (by decide)]; simp [h]
theorem one_str {c : UInt8} {r : List UInt8} (h0 : wordB ((c :: r).takeWhile tailB) = false) (h1 : numB ((c :: r).takeWhile tailB) = false) (h : c.toNat = 34) : oneS (c :: r) = (strS r).map fun x => (3, x.1, x.2 + 1) := by
 unfold oneS; rw [h0, if_neg (by decide), h1, if_neg (by decide)]; simp [h, markB]
theorem one_none {c : UInt8} {r : List UInt8} (h0 : wordB ((c :: r).takeWhile tailB) = false) (h1 : numB ((c :: r).takeWhile tailB) = false) (h2 : markB c = false) (h : ¬ c.toNat = 34) : oneS (c :: r) = Option.none := by
 unfold oneS; rw [h0, if_neg (by decide), h1, if_neg (by decide)]; simp [h, h2]
theorem one_byte (s : ByteArray) {c : UInt8} {r : List UInt8} (h : bys s = c :: r) : s.extract 0 1 = stg [c] := by
 apply bys_inj
 rw [bys_pre, h]; rfl
end Lx
theorem first_c (s : ByteArray) (w : World) (hs : s.size <= 1000000) (hpos : 0 < s.size) :
    Calls Tryz.prog 78 #[.string s] w fun e w' => OneOut (oneS (bys s)) e /\ Below w.heap.size w w' := by
 obtain ⟨c, hc, x1, hne⟩ := at_0 s hpos
 obtain ⟨R, hR⟩ : ∃ R, Hid (oneS (bys s) = R) := ⟨_, rfl⟩
 have HR := Lib.hid (runLength_c s w hs)
 have hk0 := wrdN_le (bys s)
 rw [bys_len] at hk0
 obtain ⟨k, hk⟩ : ∃ k, Hid (wrdN (bys s) = k) := ⟨_, rfl⟩
 obtain ⟨T, hT⟩ : ∃ T, Hid (s.extract 0 k = T) := ⟨_, rfl⟩
 have hTs : T.size = k := by rw [<- hT.out, ByteArray.size_extract, <- hk.out]; omega
 have HTP : Hid (bys T = (bys s).takeWhile tailB) := by show _ = _; rw [<- hT.out, <- hk.out]; exact pre_run s
 have HTS : Hid (T = stg ((bys s).takeWhile tailB)) := by show _ = _; rw [<- hT.out, <- hk.out]; exact pre_run_s s
 have HW := isWord_c T w (by have := hk.out; omega)
 have HN := isNumber_c T w (by have := hk.out; omega)
 obtain ⟨wb, hwb⟩ : ∃ b, Hid (wordB ((bys s).takeWhile tailB) = b) := ⟨_, rfl⟩
 obtain ⟨nb, hnb⟩ : ∃ b, Hid (numB ((bys s).takeWhile tailB) = b) := ⟨_, rfl⟩
 rw [HTP.out, hwb.out] at HW
 rw [HTP.out, hnb.out] at HN
 have HW := Lib.hid HW
 have HN := Lib.hid HN
 rw [hk.out] at HR hk0
 have c1 : (0 : Int) <= (k : Int) := by omega
 have c2 : (k : Int) <= (s.size : Int) := by omega
 have hTe := hT.out
 have hc0 := hc.out
 rw [hR.out]
 cases wb with
 | true =>
  have hO : Hid (R = some (1, (bys s).takeWhile tailB, k)) := by show _ = _; rw [<- hR.out, one_word hwb.out, hk.out]
  clear hc0
  go_enter Tryz.func78, Tryz.ntmps78
  go_wp2_with fail
  refine HR.out.mono ?_
  rintro e w' ⟨rfl, rfl⟩
  go_wp2_with fail
  refine HW.out.mono ?_
  rintro e w' ⟨rfl, rfl⟩
  go_wp2_with fail
  go_ret3
  exact ⟨OneOut.some (k := 1) (n := k) hO.out rfl (by omega) rfl HTS.out rfl, Below.refl _ _⟩
 | false =>
  cases nb with
  | true =>
   have hO : Hid (R = some (2, (bys s).takeWhile tailB, k)) := by show _ = _; rw [<- hR.out, one_num hwb.out hnb.out, hk.out]
   clear hc0
   go_enter Tryz.func78, Tryz.ntmps78
   go_wp2_with fail
   refine HR.out.mono ?_
   rintro e w' ⟨rfl, rfl⟩
   go_wp2_with fail
   refine HW.out.mono ?_
   rintro e w' ⟨rfl, rfl⟩
   go_wp2_with fail
   refine HN.out.mono ?_
   rintro e w' ⟨rfl, rfl⟩
   go_wp2_with fail
   go_ret3
   exact ⟨OneOut.some (k := 2) (n := k) hO.out rfl (by omega) rfl HTS.out rfl, Below.refl _ _⟩
  | false =>
   have hwb' := hwb.out
   have hnb' := hnb.out
   have hR' := hR.out
   rw [hc.out] at hwb' hnb' hR'
   have hwb' := Lib.hid hwb'
   have hnb' := Lib.hid hnb'
   have hR' := Lib.hid hR'
   have HM := indexByte_c ⟨#[123, 125, 59, 44, 47]⟩ c w
   have hm := ix_marks c
   rw [show bys ⟨#[123, 125, 59, 44, 47]⟩ = [123, 125, 59, 44, 47] from rfl] at HM
   obtain ⟨z, hz⟩ : ∃ z, Hid (Lib.indexByte [123, 125, 59, 44, 47] c = z) := ⟨_, rfl⟩
   rw [hz.out] at hm HM
   have HM := Lib.hid HM
   obtain ⟨n, hn⟩ : ∃ n : Nat, Hid (c.toNat = n) := ⟨_, rfl⟩
   rw [hn.out] at x1 HM
   obtain ⟨mb, hmb⟩ : ∃ b, Hid (markB c = b) := ⟨_, rfl⟩
   rw [hmb.out] at hm
   have HX := Lib.hid (unquote_c s w hs hpos)
   clear hc0
   cases mb with
   | true =>
    have hm' : z >= 0 := of_decide_eq_true hm
    have hO : Hid (R = some (4, [c], 1)) := by show _ = _; rw [<- hR'.out]; exact one_mark hwb'.out hnb'.out hmb.out
    have hB1 : Hid (s.extract 0 1 = stg [c]) := one_byte s hc.out
    have d1 : (1 : Int) <= (s.size : Int) := by omega
    clear hm
    go_enter Tryz.func78, Tryz.ntmps78
    go_wp2_with fail
    refine HR.out.mono ?_
    rintro e w' ⟨rfl, rfl⟩
    go_wp2_with fail
    refine HW.out.mono ?_
    rintro e w' ⟨rfl, rfl⟩
    go_wp2_with fail
    refine HN.out.mono ?_
    rintro e w' ⟨rfl, rfl⟩
    go_wp2_with fail
    refine HM.out.mono ?_
    rintro e w' ⟨rfl, rfl⟩
    go_wp2_with fail
    go_quiet (fail)
    go_wp2_with fail
    go_ret3
    exact ⟨OneOut.some (k := 4) (n := 1) hO.out rfl rfl rfl hB1.out rfl, below_drewN (Below.refl _ _) _⟩
   | false =>
    have hm' : ¬ z >= 0 := of_decide_eq_false hm
    clear hm
    by_cases h34 : n = 34
    . have k34 : ((n : Int) == 34) = true := by simp; omega
      have hO0 : Hid (R = (strS ((bys s).drop 1)).map fun x => (3, x.1, x.2 + 1)) := by show _ = _; rw [<- hR'.out]; exact one_str hwb'.out hnb'.out (by rw [hn.out]; exact h34)
      obtain ⟨S, hS⟩ : ∃ S, Hid (strS ((bys s).drop 1) = S) := ⟨_, rfl⟩
      have hO : Hid (R = S.map fun x => (3, x.1, x.2 + 1)) := by show _ = _; rw [hO0.out, hS.out]
      rw [hS.out] at HX
      clear h34 hO0
      cases S with
      | none =>
       have hU : unqS none = (⟨#[]⟩, 0) := rfl
       rw [hU] at HX
       go_enter Tryz.func78, Tryz.ntmps78
       go_wp2_with fail
       refine HR.out.mono ?_
       rintro e w' ⟨rfl, rfl⟩
       go_wp2_with fail
       refine HW.out.mono ?_
       rintro e w' ⟨rfl, rfl⟩
       go_wp2_with fail
       refine HN.out.mono ?_
       rintro e w' ⟨rfl, rfl⟩
       go_wp2_with fail
       refine HM.out.mono ?_
       rintro e w' ⟨rfl, rfl⟩
       go_wp2_with fail
       refine HX.out.mono ?_
       rintro e w' ⟨rfl, B⟩
       go_wp2_with fail
       go_ret3
       exact ⟨OneOut.none (k := 3) hO.out rfl, B⟩
      | some x =>
       obtain ⟨u, m⟩ := x
       have hU : unqS (some (u, m)) = (stg u, m + 1) := rfl
       rw [hU] at HX
       go_enter Tryz.func78, Tryz.ntmps78
       go_wp2_with fail
       refine HR.out.mono ?_
       rintro e w' ⟨rfl, rfl⟩
       go_wp2_with fail
       refine HW.out.mono ?_
       rintro e w' ⟨rfl, rfl⟩
       go_wp2_with fail
       refine HN.out.mono ?_
       rintro e w' ⟨rfl, rfl⟩
       go_wp2_with fail
       refine HM.out.mono ?_
       rintro e w' ⟨rfl, rfl⟩
       go_wp2_with fail
       refine HX.out.mono ?_
       rintro e w' ⟨rfl, B⟩
       go_wp2_with fail
       go_ret3
       exact ⟨OneOut.some (k := 3) (n := m + 1) hO.out rfl rfl rfl rfl rfl, B⟩
    . have k34 : ((n : Int) == 34) = false := by rw [beq_eq_false_iff_ne]; omega
      have hO : Hid (R = none) := by show _ = _; rw [<- hR'.out]; exact one_none hwb'.out hnb'.out hmb.out (by rw [hn.out]; exact h34)
      clear h34
      go_enter Tryz.func78, Tryz.ntmps78
      go_wp2_with fail
      refine HR.out.mono ?_
      rintro e w' ⟨rfl, rfl⟩
      go_wp2_with fail
      refine HW.out.mono ?_
      rintro e w' ⟨rfl, rfl⟩
      go_wp2_with fail
      refine HN.out.mono ?_
      rintro e w' ⟨rfl, rfl⟩
      go_wp2_with fail
      refine HM.out.mono ?_
      rintro e w' ⟨rfl, rfl⟩
      go_wp2_with fail
      go_ret3
      exact ⟨OneOut.none (k := 0) hO.out rfl, Below.refl _ _⟩
end Go.Proofs.YtemdkkphmldgjaaGreatDoor
namespace Go.Proofs.YtemdkkphmldgjaaGreatDoor
open Go.RowKit Lx
namespace Lx
def blN : Bool -> List UInt8 -> Nat
  | _, [] => 0
  | true, c :: r => blN (!decide (c.toNat = 10)) r + 1
  | false, c :: r => if c.toNat = 35 then blN true r + 1 else if blankB c then blN false r + 1 else 0
theorem blN_nil (b : Bool) : blN b [] = 0 := by cases b <;> rfl
theorem blN_c10 {c : UInt8} (h : c.toNat = 10) (r : List UInt8) : blN true (c :: r) = blN false r + 1 := by rw [blN, decide_eq_true h]; rfl
theorem blN_cno {c : UInt8} (h : ¬ c.toNat = 10) (r : List UInt8) : blN true (c :: r) = blN true r + 1 := by rw [blN, decide_eq_false h]; rfl
theorem blN_hash {c : UInt8} (h : c.toNat = 35) (r : List UInt8) : blN false (c :: r) = blN true r + 1 := by rw [blN, if_pos h]
theorem blN_blank {c : UInt8} (h : ¬ c.toNat = 35) (hb : blankB c = true) (r : List UInt8) : blN false (c :: r) = blN false r + 1 := by rw [blN, if_neg h, if_pos hb]
theorem blN_none {c : UInt8} (h : ¬ c.toNat = 35) (hb : blankB c = false) (r : List UInt8) : blN false (c :: r) = 0 := by rw [blN, if_neg h, hb, if_neg (by decide)]
theorem blN_le : ∀ (l : List UInt8) (b : Bool), blN b l <= l.length
  | [], b => by rw [blN_nil]; exact Nat.le_refl _
  | c :: r, true => by rw [blN]; have := blN_le r (!decide (c.toNat = 10)); simp; omega
  | c :: r, false => by
   have h1 := blN_le r true
   have h2 := blN_le r false
   rw [blN]
   split
   . simp; omega
   . split
     . simp; omega
     . exact Nat.zero_le _
def lexC (b : Bool) (l : List UInt8) (ln : Nat) : Res := if b then lexS (l.dropWhile notNl) ln else lexS l ln
theorem nlN_cons (c : UInt8) (l : List UInt8) : nlN (c :: l) = nlN l + (if c.toNat = 10 then 1 else 0) := by
 unfold nlN
 rw [List.countP_cons]
 by_cases h : c.toNat = 10 <;> simp [h]
theorem lexC_skip : ∀ (l : List UInt8) (b : Bool) (ln : Nat), lexC b l ln = lexS (l.drop (blN b l)) (ln + nlN (l.take (blN b l)))
  | [], b, ln => by cases b <;> simp [lexC, nlN]
  | c :: r, true, ln => by
   by_cases h : c.toNat = 10
   . rw [blN_c10 h, List.drop_succ_cons, List.take_succ_cons, nlN_cons, if_pos h]
     have := lexC_skip r false (ln + 1)
     unfold lexC at this |-
     rw [if_neg (by decide)] at this
     rw [if_pos rfl, List.dropWhile_cons, if_neg (by simp [notNl, h]), lexS_cons, if_neg (by omega), if_pos (by simp [blankB, h])]
     rw [show lineOf c ln = ln + 1 by unfold lineOf; rw [if_pos h], this]
     congr 1
     omega
   . rw [blN_cno h, List.drop_succ_cons, List.take_succ_cons, nlN_cons, if_neg h]
     have := lexC_skip r true ln
     unfold lexC at this |-
     rw [if_pos rfl] at this |-
     rw [List.dropWhile_cons, if_pos (by simp [notNl, h])]
     exact this
  | c :: r, false, ln => by
   by_cases h : c.toNat = 35
   . rw [blN_hash h, List.drop_succ_cons, List.take_succ_cons, nlN_cons, if_neg (by omega)]
     have := lexC_skip r true ln
     unfold lexC at this |-
     rw [if_pos rfl] at this
     rw [if_neg (by decide), lexS_cons, if_pos h]
     exact this
   . cases hb : blankB c with
     | true =>
      rw [blN_blank h hb, List.drop_succ_cons, List.take_succ_cons, nlN_cons]
      have := lexC_skip r false (lineOf c ln)
      unfold lexC at this |-
      rw [if_neg (by decide)] at this |-
      rw [lexS_cons, if_neg h, if_pos hb, this]
      congr 1
      unfold lineOf
      split <;> omega
     | false =>
      rw [blN_none h hb]
      simp [lexC, nlN]
theorem lexS_skip (l : List UInt8) (ln : Nat) : lexS l ln = lexS (l.drop (blN false l)) (ln + nlN (l.take (blN false l))) := lexC_skip l false ln
theorem blN_head : ∀ (l : List UInt8) (b : Bool) (c : UInt8) (r : List UInt8), l.drop (blN b l) = c :: r -> c.toNat ≠ 35 /\ blankB c = false
  | [], b, c, r, h => by rw [blN_nil] at h; cases h
  | d :: l, true, c, r, h => by
   rw [blN, List.drop_succ_cons] at h
   exact blN_head l _ c r h
  | d :: l, false, c, r, h => by
   by_cases h35 : d.toNat = 35
   . rw [blN_hash h35, List.drop_succ_cons] at h
     exact blN_head l _ c r h
   . cases hb : blankB d with
     | true =>
      rw [blN_blank h35 hb, List.drop_succ_cons] at h
      exact blN_head l _ c r h
     | false =>
      rw [blN_none h35 hb] at h
      injection h with h1 h2
      subst h1
      exact ⟨h35, hb⟩
theorem nlN_le (l : List UInt8) : nlN l <= l.length := List.countP_le_length
theorem lexS_tok {c : UInt8} {r : List UInt8} (h : c.toNat ≠ 35 /\ blankB c = false) (ln : Nat) : lexS (c :: r) ln = match oneS (c :: r) with
 | none => .err ln
 | some x => (lexS ((c :: r).drop x.2.2) ln).cons ⟨x.1, x.2.1, ln⟩ := by
 rw [lexS_cons, if_neg h.1, h.2, if_neg (by decide)]
 cases hx : oneS (c :: r) with
 | none => rfl
 | some x =>
  have := oneS_pos _ _ hx
  simp only
  rw [show x.2.2 = (x.2.2 - 1) + 1 by omega, List.drop_succ_cons]
  rfl
end Lx
theorem blankLength_c (s : ByteArray) (w : World) (hs : s.size <= 1000000) :
    Calls Tryz.prog 76 #[.string s] w fun e w' => e = .returned (.int .i64 ((blN false (bys s) : Nat) : Int)) /\ w = w' := by
 obtain ⟨R, hR⟩ : ∃ R, Hid (blN false (bys s) = R) := ⟨_, rfl⟩
 rw [hR.out]
 go_enter Tryz.func76, Tryz.ntmps76
 go_wp2_with fail
 go_loop [3, 7] (fun cm i => ∃ (j : Nat) (b : Bool), j <= s.size /\ i = .int .i64 j /\ cm = .bool b /\ Hid (R = j + blN b ((bys s).drop j))) (fun _ i => s.size - (intOf i).toNat)
 case atStart => exact ⟨0, false, Nat.zero_le _, rfl, rfl, by show _ = _; rw [List.drop_zero, hR.out, Nat.zero_add]⟩
 case round =>
  obtain ⟨j, b, hj, rfl, rfl, hI⟩ := hrel
  by_cases hlt : j < s.size
  . have hlt' : (j : Int) < (s.size : Int) := by omega
    obtain ⟨c, hc, x1⟩ := at_s s j hlt
    have HB := isBlank_c c w
    obtain ⟨n, hn⟩ : ∃ n : Nat, Hid (c.toNat = n) := ⟨_, rfl⟩
    obtain ⟨k, hk⟩ : ∃ k, Hid (blankB c = k) := ⟨_, rfl⟩
    rw [hn.out] at x1
    rw [hn.out, hk.out] at HB
    have HB := Lib.hid HB
    have HI : Hid (R = j + blN b (c :: (bys s).drop (j + 1))) := by show _ = _; rw [hI.out, hc.out]
    clear hI
    cases b with
    | true =>
     by_cases h10 : n = 10
     . have k10 : ((n : Int) != 10) = false := by simp; omega
       have hN : Hid (R = (j + 1) + blN false ((bys s).drop (j + 1))) := by show _ = _; rw [HI.out, blN_c10 (by rw [hn.out]; exact h10)]; omega
       clear HI h10
       go_wp2_with fail
       go_round
       case rel => exact ⟨j + 1, false, by omega, by go_num, rfl, hN⟩
       case measure => simp [intOf]; omega
     . have k10 : ((n : Int) != 10) = true := by simp; omega
       have hN : Hid (R = (j + 1) + blN true ((bys s).drop (j + 1))) := by show _ = _; rw [HI.out, blN_cno (by rw [hn.out]; exact h10)]; omega
       clear HI h10
       go_wp2_with fail
       go_round
       case rel => exact ⟨j + 1, true, by omega, by go_num, rfl, hN⟩
       case measure => simp [intOf]; omega
    | false =>
     by_cases h35 : n = 35
     . have k35 : ((n : Int) == 35) = true := by simp; omega
       have hN : Hid (R = (j + 1) + blN true ((bys s).drop (j + 1))) := by show _ = _; rw [HI.out, blN_hash (by rw [hn.out]; exact h35)]; omega
       clear HI h35
       go_wp2_with fail
       go_round
       case rel => exact ⟨j + 1, true, by omega, by go_num, rfl, hN⟩
       case measure => simp [intOf]; omega
     . have k35 : ((n : Int) == 35) = false := by rw [beq_eq_false_iff_ne]; omega
       cases k with
       | true =>
        have hN : Hid (R = (j + 1) + blN false ((bys s).drop (j + 1))) := by show _ = _; rw [HI.out, blN_blank (by rw [hn.out]; exact h35) hk.out]; omega
        clear HI h35
        go_wp2_with fail
        refine HB.out.mono ?_
        rintro e w' ⟨rfl, rfl⟩
        go_wp2_with fail
        go_round
        case rel => exact ⟨j + 1, false, by omega, by go_num, rfl, hN⟩
        case measure => simp [intOf]; omega
       | false =>
        have hN : Hid (R = j) := by show _ = _; rw [HI.out, blN_none (by rw [hn.out]; exact h35) hk.out]; omega
        clear HI h35
        go_wp2_with fail
        refine HB.out.mono ?_
        rintro e w' ⟨rfl, rfl⟩
        go_wp2_with fail
        go_ret
        exact ⟨i64_ret (by rw [hN.out]), rfl⟩
  . obtain rfl : j = s.size := by omega
    have hN : Hid (R = s.size) := by show _ = _; rw [hI.out, bys_end, blN_nil, Nat.add_zero]
    clear hI
    go_wp2_with fail
    go_ret
    exact ⟨i64_ret (by rw [hN.out]), rfl⟩
end Go.Proofs.YtemdkkphmldgjaaGreatDoor
