/-
  Texts of the proof, put together: NatMath.
-/
import Derived.Test.YtemdkkphmldgjaaGreatDoorPkA7
namespace Go.Proofs.YtemdkkphmldgjaaGreatDoor.Q.NatMath
def B : Nat := 4294967296
def val : List Int -> Nat
  | [] => 0
  | x :: xs => x.toNat + 4294967296 * val xs
def limbs (n : Nat) : List Int :=
 if h : n = 0 then [] else (↑(n % 4294967296) : Int) :: limbs (n / 4294967296)
termination_by n
decreasing_by omega
def Ok (xs : List Int) : Prop := ∀ x ∈ xs, 0 <= x /\ x <= 4294967295
theorem Ok.nil : Ok [] := fun _ h => by cases h
theorem Ok.cons {x : Int} {xs : List Int} (h0 : 0 <= x) (h1 : x <= 4294967295) (h : Ok xs) : Ok (x :: xs) := by
 intro y hy
 rcases List.mem_cons.1 hy with rfl | hy
 . exact ⟨h0, h1⟩
 . exact h y hy
theorem Ok.head {x : Int} {xs : List Int} (h : Ok (x :: xs)) : 0 <= x /\ x <= 4294967295 := h x (List.mem_cons_self ..)
theorem Ok.tail {x : Int} {xs : List Int} (h : Ok (x :: xs)) : Ok xs := fun y hy => h y (List.mem_cons_of_mem _ hy)
theorem Ok.take {xs : List Int} (h : Ok xs) (n : Nat) : Ok (xs.take n) := fun y hy => h y (List.mem_of_mem_take hy)
theorem Ok.append {xs ys : List Int} (h : Ok xs) (k : Ok ys) : Ok (xs ++ ys) := by
 intro y hy
 rcases List.mem_append.1 hy with hy | hy
 . exact h y hy
 . exact k y hy
theorem Ok.getD {xs : List Int} (h : Ok xs) (i : Nat) : 0 <= xs.getD i 0 /\ xs.getD i 0 <= 4294967295 := by
 by_cases hi : i < xs.length
 . have e : xs.getD i 0 = xs[i] := by simp [List.getD, hi]
   rw [e]; exact h _ (List.getElem_mem hi)
 . simp [List.getD, List.getElem?_eq_none (by omega : xs.length <= i)]
theorem limbs_zero : limbs 0 = [] := by rw [limbs]; simp
theorem limbs_pos {n : Nat} (h : n ≠ 0) : limbs n = (↑(n % 4294967296) : Int) :: limbs (n / 4294967296) := by rw [limbs]; simp [h]
theorem limbs_ok (n : Nat) : Ok (limbs n) := by
 induction n using Nat.strongRecOn with
 | ind n ih =>
  by_cases h : n = 0
  . subst h; rw [limbs_zero]; exact Ok.nil
  . rw [limbs_pos h]
    exact Ok.cons (by omega) (by omega) (ih _ (by omega))
theorem val_limbs (n : Nat) : val (limbs n) = n := by
 induction n using Nat.strongRecOn with
 | ind n ih =>
  by_cases h : n = 0
  . subst h; rw [limbs_zero]; rfl
  . rw [limbs_pos h, val, ih _ (by omega)]
    omega
def Nf (xs : List Int) : Prop := xs.getLast? ≠ some 0
theorem val_eq_zero {xs : List Int} (h : Ok xs) : val xs = 0 ↔ ∀ x ∈ xs, x = 0 := by
 induction xs with
 | nil => simp [val]
 | cons x xs ih =>
  have h0 := h.head
  rw [val]
  constructor
  . intro e
    have e1 : x.toNat = 0 := by omega
    have e2 : val xs = 0 := by omega
    intro y hy
    rcases List.mem_cons.1 hy with rfl | hy
    . omega
    . exact (ih h.tail).1 e2 y hy
  . intro e
    have e1 := e x (List.mem_cons_self ..)
    have e2 := (ih h.tail).2 (fun y hy => e y (List.mem_cons_of_mem _ hy))
    omega
theorem limbs_val {xs : List Int} (h : Ok xs) (hn : Nf xs) : limbs (val xs) = xs := by
 induction xs with
 | nil => exact limbs_zero
 | cons x xs ih =>
  have h0 := h.head
  have hne : val (x :: xs) ≠ 0 := by
   intro e
   have hz := (val_eq_zero h).1 e
   have hl := List.getLast?_isSome.2 (show (x :: xs) ≠ [] by simp)
   obtain ⟨y, hy⟩ := Option.isSome_iff_exists.1 hl
   have hy0 := hz y (List.mem_of_getLast? hy)
   subst hy0
   exact hn hy
  rw [limbs_pos hne]
  rw [val] at hne |-
  have e1 : (x.toNat + 4294967296 * val xs) % 4294967296 = x.toNat := by omega
  have e2 : (x.toNat + 4294967296 * val xs) / 4294967296 = val xs := by omega
  rw [e1, e2]
  congr 1
  . omega
  . cases xs with
    | nil => exact limbs_zero
    | cons y ys =>
     refine ih h.tail ?_
     intro e
     exact hn (by rw [List.getLast?_cons_cons]; exact e)
theorem limbs_nf (n : Nat) : Nf (limbs n) := by
 induction n using Nat.strongRecOn with
 | ind n ih =>
  by_cases h : n = 0
  . subst h; rw [limbs_zero]; simp [Nf]
  . rw [limbs_pos h]
    by_cases h2 : n / 4294967296 = 0
    . rw [h2, limbs_zero]
      simp [Nf]; omega
    . have := ih (n / 4294967296) (by omega)
      rw [limbs_pos h2] at this |-
      unfold Nf
      rw [List.getLast?_cons_cons]
      exact this
theorem val_append (xs ys : List Int) : val (xs ++ ys) = val xs + 4294967296 ^ xs.length * val ys := by
 induction xs with
 | nil => simp [val]
 | cons x xs ih =>
  rw [List.cons_append, val, val, ih, List.length_cons, Nat.pow_succ, Nat.mul_add, <- Nat.mul_assoc, Nat.mul_comm 4294967296 (4294967296 ^ xs.length), Nat.add_assoc]
theorem val_lt {xs : List Int} (h : Ok xs) : val xs < 4294967296 ^ xs.length := by
 induction xs with
 | nil => simp [val]
 | cons x xs ih =>
  have h0 := h.head
  have h1 := ih h.tail
  rw [val, List.length_cons, Nat.pow_succ]
  omega
theorem val_zeros (n : Nat) : val (List.replicate n 0) = 0 := by
 induction n with
 | zero => rfl
 | succ n ih => rw [List.replicate_succ, val, ih]; rfl
theorem limbs_length (n k : Nat) (h : n < 4294967296 ^ k) : (limbs n).length <= k := by
 induction k generalizing n with
 | zero =>
  have : n = 0 := by simpa using h
  subst this; rw [limbs_zero]; simp
 | succ k ih =>
  by_cases h0 : n = 0
  . subst h0; rw [limbs_zero]; simp
  . rw [limbs_pos h0, List.length_cons]
    have := ih (n / 4294967296) (by rw [Nat.pow_succ] at h; omega)
    omega
theorem trimL_eq_take {xs : List Int} (h : Ok xs) (n : Nat) (hn : n <= xs.length) (hz : ∀ i, n <= i -> xs.getD i 0 = 0) (hl : n = 0 \/ xs.getD (n - 1) 0 ≠ 0) : limbs (val xs) = xs.take n := by
 have e : xs = xs.take n ++ List.replicate (xs.length - n) 0 := by
  apply List.ext_getElem
  . simp; omega
  . intro i h1 h2
    by_cases hi : i < n
    . rw [List.getElem_append_left (by simp; omega)]; simp
    . rw [List.getElem_append_right (by simp; omega)]
      have := hz i (by omega)
      rw [List.getD, List.getElem?_eq_getElem h1] at this
      simpa using this
 have e2 : val xs = val (xs.take n) := by
  rw [e, val_append, val_zeros]
  simp [Nat.min_eq_left hn]
 rw [e2]
 refine limbs_val (h.take n) ?_
 intro hc
 rcases hl with h0 | h0
 . subst h0; simp at hc
 . apply h0
   have : n ≠ 0 := by intro e; subst e; simp at hc
   rw [List.getLast?_eq_getElem?] at hc
   simp only [List.length_take, Nat.min_eq_left hn] at hc
   rw [List.getElem?_take, if_pos (by omega)] at hc
   rw [List.getD, hc]
   rfl
theorem limbs_lt_of_length {m n : Nat} (h : (limbs m).length < (limbs n).length) : m < n := by
 have h1 := val_lt (limbs_ok m)
 rw [val_limbs] at h1
 by_cases hn : n < 4294967296 ^ (limbs m).length
 . have := limbs_length n _ hn
   omega
 . omega
theorem val_lt_at (L : List Int) : ∀ (M : List Int) (i : Nat), Ok L -> Ok M -> L.length = M.length -> (∀ j, i < j -> L.getD j 0 = M.getD j 0) -> L.getD i 0 < M.getD i 0 -> val L < val M := by
 induction L with
 | nil =>
  intro M i hL hM hl he hlt
  have : M = [] := List.eq_nil_of_length_eq_zero (by simpa using hl.symm)
  subst this
  simp at hlt
 | cons x L ih =>
  intro M i hL hM hl he hlt
  cases M with
  | nil => simp at hl
  | cons y M =>
   have hx := hL.head
   have hy := hM.head
   rw [val, val]
   cases i with
   | zero =>
    have e : L = M := by
     apply List.ext_getElem
     . simpa using hl
     . intro j h1 h2
       have := he (j + 1) (by omega)
       simpa [List.getD, h1, h2] using this
    rw [e]
    simp at hlt
    omega
   | succ i =>
    have := ih M i hL.tail hM.tail (by simpa using hl) (fun j hj => by simpa using he (j + 1) (by omega)) (by simpa using hlt)
    omega
theorem list_eq_of {L M : List Int} (hl : L.length = M.length) (he : ∀ j, L.getD j 0 = M.getD j 0) : L = M := by
 apply List.ext_getElem hl
 intro j h1 h2
 have := he j
 simpa [List.getD, h1, h2] using this
def cmpI (x y : Int) : Int := if x < y then -1 else if y < x then 1 else 0
theorem cmpI_len {m n : Nat} (h : (limbs m).length ≠ (limbs n).length) : cmpI ((limbs m).length : Int) ((limbs n).length : Int) = cmpI (m : Int) (n : Int) := by
 unfold cmpI
 by_cases hl : (limbs m).length < (limbs n).length
 . have := limbs_lt_of_length hl
   rw [if_pos (by omega), if_pos (by omega)]
 . have := limbs_lt_of_length (show (limbs n).length < (limbs m).length by omega)
   rw [if_neg (by omega), if_pos (by omega), if_neg (by omega), if_pos (by omega)]
theorem cmpI_at {L M : List Int} {i : Nat} (hL : Ok L) (hM : Ok M) (hl : L.length = M.length) (he : ∀ j, i < j -> L.getD j 0 = M.getD j 0) (hne : L.getD i 0 ≠ M.getD i 0) : cmpI (L.getD i 0) (M.getD i 0) = cmpI (val L : Int) (val M : Int) := by
 unfold cmpI
 by_cases hlt : L.getD i 0 < M.getD i 0
 . have := val_lt_at L M i hL hM hl he hlt
   rw [if_pos hlt, if_pos (by omega)]
 . have := val_lt_at M L i hM hL hl.symm (fun j hj => (he j hj).symm) (by omega)
   rw [if_neg hlt, if_pos (by omega), if_neg (by omega), if_pos (by omega)]
theorem cmpI_self (x : Int) : cmpI x x = 0 := by unfold cmpI; rw [if_neg (by omega), if_neg (by omega)]
theorem limbs_take {xs : List Int} (h : Ok xs) : limbs (val xs) = xs.take (limbs (val xs)).length := by
 induction xs with
 | nil => rw [val, limbs_zero]; rfl
 | cons x xs ih =>
  by_cases h0 : val (x :: xs) = 0
  . rw [h0, limbs_zero]; rfl
  . have hx := h.head
    have i := ih h.tail
    rw [limbs_pos h0]
    rw [val] at h0 |-
    have e1 : (x.toNat + 4294967296 * val xs) % 4294967296 = x.toNat := by omega
    have e2 : (x.toNat + 4294967296 * val xs) / 4294967296 = val xs := by omega
    rw [e1, e2, List.length_cons, List.take_succ_cons, <- i]
    congr 1
    omega
theorem limbs_val_length {xs : List Int} (h : Ok xs) : (limbs (val xs)).length <= xs.length := limbs_length _ _ (val_lt h)
theorem val_set : ∀ (D : List Int) (i : Nat) (d : Int), i < D.length -> val (D.set i d) + (D.getD i 0).toNat * 4294967296 ^ i = val D + d.toNat * 4294967296 ^ i := by
 intro D
 induction D with
 | nil => intro i d hi; simp at hi
 | cons x D ih =>
  intro i d hi
  cases i with
  | zero => simp [val]; omega
  | succ i =>
   have h := ih i d (by simpa using hi)
   rw [List.set_cons_succ, val, val, List.getD_cons_succ, Nat.pow_succ]
   generalize 4294967296 ^ i = P at h |-
   have e1 : (D.getD i 0).toNat * (P * 4294967296) = 4294967296 * ((D.getD i 0).toNat * P) := by rw [Nat.mul_comm P, <- Nat.mul_assoc, Nat.mul_comm _ 4294967296, Nat.mul_assoc]
   have e2 : d.toNat * (P * 4294967296) = 4294967296 * (d.toNat * P) := by rw [Nat.mul_comm P, <- Nat.mul_assoc, Nat.mul_comm _ 4294967296, Nat.mul_assoc]
   rw [e1, e2]
   omega
theorem val_take_succ (M : List Int) (i : Nat) : val (M.take (i + 1)) = val (M.take i) + (M.getD i 0).toNat * 4294967296 ^ i := by
 by_cases hi : i < M.length
 . rw [List.take_succ_eq_append_getElem hi, val_append, List.length_take, Nat.min_eq_left (by omega), show M.getD i 0 = M[i] by simp [List.getD, hi], Nat.mul_comm (M[i]).toNat]
   simp [val]
 . rw [List.take_of_length_le (by omega), List.take_of_length_le (by omega), List.getD, List.getElem?_eq_none (by omega)]
   simp
theorem Ok.set {D : List Int} (h : Ok D) (i : Nat) {d : Int} (h0 : 0 <= d) (h1 : d <= 4294967295) : Ok (D.set i d) := by
 intro y hy
 rcases List.mem_or_eq_of_mem_set hy with hy | rfl
 . exact h y hy
 . exact ⟨h0, h1⟩
structure SubInv (L M D : List Int) (r : Int) (i : Nat) : Prop where
 eq : val D + val (M.take i) = val L + r.toNat * 4294967296 ^ i
 len : D.length = L.length
 ok : Ok D
 r0 : 0 <= r
 r1 : r <= 1
theorem SubInv.start {L : List Int} (M : List Int) (h : Ok L) : SubInv L M L 0 0 := ⟨by simp [val], rfl, h, by omega, by omega⟩
theorem SubInv.step {L M D : List Int} {r : Int} {i : Nat} (h : SubInv L M D r i) (hM : Ok M) (hi : i < L.length) {x y : Int} (hx : x = D.getD i 0) (hy : y = M.getD i 0) {b : Int} (hb : b = if x < y + r then 1 else 0) :
    SubInv L M (D.set i ((x - y - r) % 4294967296)) b (i + 1) := by
 have hx1 := h.ok.getD i
 have hy1 := hM.getD i
 have r0 := h.r0
 have r1 := h.r1
 rw [<- hx] at hx1
 rw [<- hy] at hy1
 have hs := val_set D i ((x - y - r) % 4294967296) (by rw [h.len]; exact hi)
 have ht := val_take_succ M i
 have he := h.eq
 rw [<- hx] at hs
 rw [<- hy] at ht
 have hb01 : 0 <= b /\ b <= 1 := by rw [hb]; split <;> omega
 have hk : ((x - y - r) % 4294967296).toNat + y.toNat + r.toNat = x.toNat + b.toNat * 4294967296 := by
  rw [hb]; split <;> omega
 refine ⟨?_, by simpa using h.len, h.ok.set i (by omega) (by omega), hb01.1, hb01.2⟩
 rw [ht, Nat.pow_succ]
 generalize 4294967296 ^ i = P at hs he |-
 have hk2 := congrArg (· * P) hk
 simp only [Nat.add_mul] at hk2
 have e : b.toNat * (P * 4294967296) = b.toNat * 4294967296 * P := by rw [Nat.mul_comm P, Nat.mul_assoc]
 rw [e]
 omega
theorem SubInv.more {L M D : List Int} {r : Int} {i : Nat} (h : SubInv L M D r i) (hM : M.length <= i) (hle : val M <= val L) (hi : i <= L.length) (hr : r ≠ 0) : i < L.length := by
 have he := h.eq
 have r0 := h.r0
 have r1 := h.r1
 rw [List.take_of_length_le hM] at he
 rcases Nat.lt_or_ge i L.length with h1 | h1
 . exact h1
 . have : i = L.length := by omega
   subst this
   have hl := val_lt h.ok
   rw [h.len] at hl
   have : r.toNat = 1 := by omega
   rw [this] at he
   omega
theorem SubInv.done {L M D : List Int} {i : Nat} (h : SubInv L M D 0 i) (hM : M.length <= i) : val D = val L - val M := by
 have he := h.eq
 rw [List.take_of_length_le hM] at he
 simp at he
 omega
structure DivInv (L D : List Int) (W r : Nat) (j : Nat) : Prop where
 eq : val (D.drop j) * W + r = val (L.drop j)
 low : ∀ i, i < j -> D.getD i 0 = L.getD i 0
 len : D.length = L.length
 ok : Ok D
 lt : r < W
theorem DivInv.start {L : List Int} (h : Ok L) {W : Nat} (hW : 0 < W) {n : Nat} (hn : L.length <= n) : DivInv L L W 0 n := ⟨by rw [List.drop_of_length_le hn]; simp [val], fun _ _ => rfl, rfl, h, hW⟩
theorem drop_set_self {D : List Int} {i : Nat} (hi : i < D.length) (q : Int) : (D.set i q).drop i = q :: D.drop (i + 1) := by
 rw [List.drop_eq_getElem_cons (by simpa using hi), List.drop_set_of_lt (by omega)]
 simp
theorem drop_getD {D : List Int} {i : Nat} (hi : i < D.length) : D.drop i = D.getD i 0 :: D.drop (i + 1) := by
 rw [List.drop_eq_getElem_cons hi]
 simp [List.getD, hi]
theorem DivInv.step {L D : List Int} {W r j : Nat} (h : DivInv L D W r j) (hj : 0 < j) (hjl : j <= L.length) {x : Int} (hx : x = D.getD (j - 1) 0) (hW : W <= 4294967295) :
    DivInv L (D.set (j - 1) (((r : Int) * 4294967296 + x) / (W : Int))) W (((r : Int) * 4294967296 + x) % (W : Int)).toNat (j - 1) := by
 obtain ⟨i, rfl⟩ : ∃ i, j = i + 1 := ⟨j - 1, by omega⟩
 simp only [Nat.add_sub_cancel] at hx |-
 have hx1 := h.ok.getD i
 rw [<- hx] at hx1
 have he := h.eq
 have hlt := h.lt
 have hxl : L.getD i 0 = x := by rw [hx]; exact (h.low i (by omega)).symm
 obtain ⟨X, rfl⟩ := Int.eq_ofNat_of_zero_le hx1.1
 have e1 : ((r : Int) * 4294967296 + (X : Int)) / (W : Int) = ((r * 4294967296 + X) / W : Nat) := by simp
 have e2 : ((r : Int) * 4294967296 + (X : Int)) % (W : Int) = ((r * 4294967296 + X) % W : Nat) := by simp
 rw [e1, e2, Int.toNat_natCast]
 have hq : (r * 4294967296 + X) / W < 4294967296 := by
  rw [Nat.div_lt_iff_lt_mul (by omega)]
  have h5 := Nat.mul_le_mul_right 4294967296 (show r + 1 <= W by omega)
  omega
 have hdm := Nat.div_add_mod (r * 4294967296 + X) W
 have hml := Nat.mod_lt (r * 4294967296 + X) (show 0 < W by omega)
 generalize (r * 4294967296 + X) / W = q at *
 generalize (r * 4294967296 + X) % W = r2 at *
 refine ⟨?_, fun t ht => ?_, by simpa using h.len, h.ok.set i (by omega) (by omega), hml⟩
 . rw [drop_set_self (by rw [h.len]; omega), drop_getD (D := L) (by omega), val, val, hxl, <- he, Nat.add_mul, Nat.mul_comm _ W]
   simp only [Int.toNat_natCast]
   rw [Nat.mul_assoc, Nat.mul_add]
   omega
 . rw [<- h.low t (by omega)]
   simp [List.getD, show i ≠ t by omega]
theorem DivInv.done {L D : List Int} {W r : Nat} (h : DivInv L D W r 0) : val D = val L / W /\ r = val L % W := by
 have he := h.eq
 have hlt := h.lt
 simp only [List.drop_zero] at he
 rw [<- he]
 constructor
 . rw [Nat.mul_comm, Nat.mul_add_div (by omega), Nat.div_eq_of_lt hlt]; omega
 . rw [Nat.mul_comm, Nat.mul_add_mod, Nat.mod_eq_of_lt hlt]
theorem limbs_len_mono {a b : Nat} (h : a <= b) : (limbs a).length <= (limbs b).length := by
 rcases Nat.lt_or_ge (limbs b).length (limbs a).length with h1 | h1
 . have := limbs_lt_of_length h1
   omega
 . exact h1
theorem getD_set_self {D : List Int} {i : Nat} {d : Int} (h : i < D.length) : (D.set i d).getD i 0 = d := by simp [List.getD, h]
theorem getD_set_ne {D : List Int} {i j : Nat} {d : Int} (h : i ≠ j) : (D.set i d).getD j 0 = D.getD j 0 := by simp [List.getD, h]
end Go.Proofs.YtemdkkphmldgjaaGreatDoor.Q.NatMath
/-
  Plain mathematics for Add and Mul. No program, no world.
-/
namespace Go.Proofs.YtemdkkphmldgjaaGreatDoor.Q.NatMath
structure AddInv (L M D : List Int) (c : Int) (i : Nat) : Prop where
 eq : val D + c.toNat * 4294967296 ^ i = val L + val (M.take i)
 len : D.length = L.length + 1
 ok : Ok D
 c0 : 0 <= c
 c1 : c <= 1
theorem AddInv.start {L : List Int} (M : List Int) (h : Ok L) : AddInv L M (L ++ [0]) 0 0 := ⟨by simp [val, val_append], by simp, h.append (Ok.cons (by omega) (by omega) Ok.nil), by omega, by omega⟩
theorem AddInv.step {L M D : List Int} {c : Int} {i : Nat} (h : AddInv L M D c i) (hM : Ok M) (hi : i < L.length + 1) {x y : Int} (hx : x = D.getD i 0) (hy : y = M.getD i 0) :
    AddInv L M (D.set i ((x + y + c) % 4294967296)) ((x + y + c) / 4294967296) (i + 1) := by
 have hx1 := h.ok.getD i
 have hy1 := hM.getD i
 have c0 := h.c0
 have c1 := h.c1
 rw [<- hx] at hx1
 rw [<- hy] at hy1
 have hs := val_set D i ((x + y + c) % 4294967296) (by rw [h.len]; exact hi)
 have ht := val_take_succ M i
 have he := h.eq
 rw [<- hx] at hs
 rw [<- hy] at ht
 have hk : ((x + y + c) % 4294967296).toNat + ((x + y + c) / 4294967296).toNat * 4294967296 = x.toNat + y.toNat + c.toNat := by omega
 refine ⟨?_, by simpa using h.len, h.ok.set i (by omega) (by omega), by omega, by omega⟩
 rw [ht, Nat.pow_succ]
 generalize 4294967296 ^ i = P at hs he |-
 generalize ((x + y + c) / 4294967296).toNat = b at hk |-
 have hk2 := congrArg (· * P) hk
 simp only [Nat.add_mul] at hk2
 have e : b * (P * 4294967296) = b * 4294967296 * P := by rw [Nat.mul_comm P, Nat.mul_assoc]
 rw [e]
 omega
theorem AddInv.more {L M D : List Int} {c : Int} {i : Nat} (h : AddInv L M D c i) (hL : Ok L) (hM : Ok M) (hlen : M.length <= L.length) (hi : i <= L.length + 1) (hc : c ≠ 0) : i < L.length + 1 := by
 have he := h.eq
 have c0 := h.c0
 have c1 := h.c1
 rcases Nat.lt_or_ge i (L.length + 1) with h1 | h1
 . exact h1
 . have : i = L.length + 1 := by omega
   subst this
   have hl := val_lt hL
   have hm := val_lt hM
   have hp : 4294967296 ^ M.length <= 4294967296 ^ L.length := Nat.pow_le_pow_right (by omega) hlen
   rw [List.take_of_length_le (by omega), Nat.pow_succ] at he
   have : c.toNat = 1 := by omega
   rw [this] at he
   omega
theorem AddInv.done {L M D : List Int} {i : Nat} (h : AddInv L M D 0 i) (hM : M.length <= i) : val D = val L + val M := by
 have he := h.eq
 rw [List.take_of_length_le hM] at he
 simpa using he
structure OutInv (L M D : List Int) (i : Nat) : Prop where
 eq : val D = val (L.take i) * val M
 zero : ∀ t, i + M.length <= t -> D.getD t 0 = 0
 len : D.length = L.length + M.length
 ok : Ok D
structure InInv (L M D : List Int) (x : Nat) (i cy j : Nat) : Prop where
 eq : val D + cy * 4294967296 ^ (i + j) = val (L.take i) * val M + x * val (M.take j) * 4294967296 ^ i
 zero : ∀ t, i + M.length <= t -> D.getD t 0 = 0
 len : D.length = L.length + M.length
 ok : Ok D
 cy1 : cy <= 4294967295
theorem Ok.zeros (n : Nat) : Ok (List.replicate n 0) := by
 intro y hy
 have := List.eq_of_mem_replicate hy
 omega
theorem OutInv.start (L M : List Int) : OutInv L M (List.replicate (L.length + M.length) 0) 0 := by
 refine ⟨by simp [val, val_zeros], fun t _ => ?_, by simp, Ok.zeros _⟩
 rw [List.getD, List.getElem?_replicate]
 split <;> rfl
theorem InInv.start {L M D : List Int} {i : Nat} (h : OutInv L M D i) (x : Nat) : InInv L M D x i 0 0 := ⟨by rw [h.eq]; simp [val], h.zero, h.len, h.ok, by omega⟩
theorem mul3_bound {X Y p cy : Nat} (hX : X <= 4294967295) (hY : Y <= 4294967295) (hp : p <= 4294967295) (hc : cy <= 4294967295) : X * Y <= 18446744065119617025 /\ (X * Y + p + cy) / 4294967296 <= 4294967295 := by
 have h1 := Nat.mul_le_mul hX hY
 constructor <;> omega
theorem InInv.step {L M D : List Int} {x i cy j : Nat} (h : InInv L M D x i cy j) (hi : i < L.length) (hj : j < M.length) (hx : x <= 4294967295) (hM : Ok M) {p y : Nat} (hp : (p : Int) = D.getD (i + j) 0) (hy : (y : Int) = M.getD j 0) :
    InInv L M (D.set (i + j) (((x * y + p + cy) % 4294967296 : Nat) : Int)) x i ((x * y + p + cy) / 4294967296) (j + 1) := by
 have hp1 := h.ok.getD (i + j)
 have hy1 := hM.getD j
 rw [<- hp] at hp1
 rw [<- hy] at hy1
 have hb := mul3_bound hx (show y <= 4294967295 by omega) (show p <= 4294967295 by omega) h.cy1
 refine ⟨?_, fun t ht => ?_, by simpa using h.len, h.ok.set _ (by omega) (by omega), hb.2⟩
 . have hs := val_set D (i + j) (((x * y + p + cy) % 4294967296 : Nat) : Int) (by rw [h.len]; omega)
   have ht := val_take_succ M j
   have he := h.eq
   rw [<- hp, Int.toNat_natCast, Int.toNat_natCast] at hs
   rw [<- hy, Int.toNat_natCast] at ht
   rw [ht, show i + (j + 1) = i + j + 1 by omega, Nat.pow_succ]
   rw [Nat.pow_add] at hs he |-
   generalize 4294967296 ^ i = P at *
   generalize 4294967296 ^ j = R at *
   have hdm := Nat.div_add_mod (x * y + p + cy) 4294967296
   generalize (x * y + p + cy) / 4294967296 = q at hdm |-
   generalize (x * y + p + cy) % 4294967296 = r at hdm hs |-
   generalize val (L.take i) * val M = A at he |-
   generalize val (M.take j) = V at he |-
   generalize D.set (i + j) (r : Int) = D' at *
   have h2 := congrArg (· * (P * R)) hdm
   simp only [Nat.add_mul] at h2
   have e1 : q * (P * R * 4294967296) = 4294967296 * q * (P * R) := by
    rw [<- Nat.mul_assoc, Nat.mul_comm (q * (P * R)) 4294967296, Nat.mul_assoc]
   have e2 : x * (V + y * R) * P = x * V * P + x * y * (P * R) := by
    rw [Nat.mul_add, Nat.add_mul]
    congr 1
    rw [<- Nat.mul_assoc x y R, Nat.mul_assoc (x * y) R P, Nat.mul_comm R P]
   rw [e1, e2]
   omega
 . rw [getD_set_ne (by omega)]
   exact h.zero t ht
theorem InInv.done {L M D : List Int} {x i cy : Nat} (h : InInv L M D x i cy M.length) (hi : i < L.length) (hx : (x : Int) = L.getD i 0) : OutInv L M (D.set (i + M.length) (cy : Int)) (i + 1) := by
 have hc := h.cy1
 have hz := h.zero (i + M.length) (Nat.le_refl _)
 have hs := val_set D (i + M.length) (cy : Int) (by rw [h.len]; omega)
 have he := h.eq
 rw [hz, Int.toNat_natCast] at hs
 rw [List.take_of_length_le (Nat.le_refl _)] at he
 refine ⟨?_, fun t ht => ?_, by simpa using h.len, h.ok.set _ (by omega) (by omega)⟩
 . rw [val_take_succ L i, <- hx, Int.toNat_natCast, Nat.add_mul]
   have e : x * 4294967296 ^ i * val M = x * val M * 4294967296 ^ i := by rw [Nat.mul_assoc, Nat.mul_comm (4294967296 ^ i), <- Nat.mul_assoc]
   rw [e]
   simp at hs
   omega
 . rw [getD_set_ne (by omega)]
   exact h.zero t (by omega)
theorem OutInv.done {L M D : List Int} (h : OutInv L M D L.length) : val D = val L * val M := by
 have := h.eq
 rwa [List.take_of_length_le (Nat.le_refl _)] at this
end Go.Proofs.YtemdkkphmldgjaaGreatDoor.Q.NatMath
/-
  Numbers in binary, the least significant bit first. No program, no world.
-/
namespace Go.Proofs.YtemdkkphmldgjaaGreatDoor.Q.NatMath
def b2n (b : Bool) : Nat := if b then 1 else 0
theorem b2n_le (b : Bool) : b2n b <= 1 := by cases b <;> decide
def bval : List Bool -> Nat
  | [] => 0
  | b :: bs => b2n b + 2 * bval bs
def bitsN (n : Nat) : List Bool := if h : n = 0 then [] else decide (n % 2 = 1) :: bitsN (n / 2)
termination_by n
decreasing_by omega
theorem bitsN_zero : bitsN 0 = [] := by rw [bitsN]; simp
theorem bitsN_pos {n : Nat} (h : n ≠ 0) : bitsN n = decide (n % 2 = 1) :: bitsN (n / 2) := by rw [bitsN]; simp [h]
theorem bval_bitsN (n : Nat) : bval (bitsN n) = n := by
 induction n using Nat.strongRecOn with
 | ind n ih =>
  by_cases h : n = 0
  . subst h; rw [bitsN_zero]; rfl
  . rw [bitsN_pos h, bval, ih _ (by omega), b2n]
    by_cases h1 : n % 2 = 1
    . rw [if_pos (by simpa using h1)]; omega
    . rw [if_neg (by simpa using h1)]; omega
theorem bval_lt (xs : List Bool) : bval xs < 2 ^ xs.length := by
 induction xs with
 | nil => simp [bval]
 | cons x xs ih =>
  have := b2n_le x
  rw [bval, List.length_cons, Nat.pow_succ]
  omega
theorem bitsN_length (n k : Nat) (h : n < 2 ^ k) : (bitsN n).length <= k := by
 induction k generalizing n with
 | zero =>
  have : n = 0 := by simpa using h
  subst this; rw [bitsN_zero]; simp
 | succ k ih =>
  by_cases h0 : n = 0
  . subst h0; rw [bitsN_zero]; simp
  . rw [bitsN_pos h0, List.length_cons]
    have := ih (n / 2) (by rw [Nat.pow_succ] at h; omega)
    omega
theorem bitsN_len_ge {m k : Nat} (h : 2 ^ k <= m) : k < (bitsN m).length := by
 have h1 := bval_lt (bitsN m)
 rw [bval_bitsN] at h1
 have h2 : 2 ^ k < 2 ^ (bitsN m).length := by omega
 exact (Nat.pow_lt_pow_iff_right (by omega)).1 h2
def bitsTo (v k : Nat) : List Bool := (List.range k).map fun t => v.testBit t
end Go.Proofs.YtemdkkphmldgjaaGreatDoor.Q.NatMath
/-
  Plain mathematics for division by several limbs: the estimate of a digit, a step, and the whole. No program, no world.
-/
namespace Go.Proofs.YtemdkkphmldgjaaGreatDoor.Q.NatMath
structure SmInv (M S D : List Int) (f cy : Nat) (b : Int) (j : Nat) : Prop where
 eq : val D + val (M.take j) * f = val S + (cy + b.toNat) * 4294967296 ^ j
 len : D.length = S.length
 ok : Ok D
 cy1 : cy <= 4294967295
 b0 : 0 <= b
 b1 : b <= 1
theorem SmInv.start (M : List Int) {S : List Int} (h : Ok S) (f : Nat) : SmInv M S S f 0 0 0 := ⟨by simp [val], rfl, h, by omega, by omega, by omega⟩
theorem sm_bound {f y cy : Nat} (hf : f <= 4294967295) (hy : y <= 4294967295) (hc : cy <= 4294967295) : f * y <= 18446744065119617025 /\ (cy + f * y) / 4294967296 <= 4294967295 := by
 have h1 := Nat.mul_le_mul hf hy
 constructor <;> omega
theorem SmInv.step {M S D : List Int} {f cy j : Nat} {b : Int} (h : SmInv M S D f cy b j) (hj : j < S.length) {x : Int} {y : Nat} (hx : x = D.getD j 0) (hy : (y : Int) = M.getD j 0) (hy1 : y <= 4294967295) (hf : f <= 4294967295)
    {b' : Int} (hb : b' = if x < (((cy + f * y) % 4294967296 : Nat) : Int) + b then 1 else 0) :
    SmInv M S (D.set j ((x - (((cy + f * y) % 4294967296 : Nat) : Int) - b) % 4294967296)) f ((cy + f * y) / 4294967296) b' (j + 1) := by
 have hx1 := h.ok.getD j
 rw [<- hx] at hx1
 have b0 := h.b0
 have b1 := h.b1
 have hbd := sm_bound hf hy1 h.cy1
 have hs := val_set D j ((x - (((cy + f * y) % 4294967296 : Nat) : Int) - b) % 4294967296) (by rw [h.len]; exact hj)
 have ht := val_take_succ M j
 have he := h.eq
 rw [<- hx] at hs
 rw [<- hy, Int.toNat_natCast] at ht
 have hdm := Nat.div_add_mod (cy + f * y) 4294967296
 have hml := Nat.mod_lt (cy + f * y) (show 0 < 4294967296 by omega)
 generalize (cy + f * y) / 4294967296 = q at *
 generalize (cy + f * y) % 4294967296 = r at *
 have hb01 : 0 <= b' /\ b' <= 1 := by rw [hb]; split <;> omega
 have hk : ((x - (r : Int) - b) % 4294967296).toNat + r + b.toNat = x.toNat + b'.toNat * 4294967296 := by
  rw [hb]; split <;> omega
 refine ⟨?_, by simpa using h.len, h.ok.set j (by omega) (by omega), hbd.2, hb01.1, hb01.2⟩
 rw [ht, Nat.pow_succ]
 generalize 4294967296 ^ j = P at hs he |-
 generalize ((x - (r : Int) - b) % 4294967296).toNat = z at hs hk
 generalize D.set j ((x - (r : Int) - b) % 4294967296) = D' at hs |-
 have hk2 := congrArg (· * P) hk
 have hd2 := congrArg (· * P) hdm
 simp only [Nat.add_mul] at hk2 hd2 he |-
 have e1 : q * (P * 4294967296) = 4294967296 * q * P := by rw [Nat.mul_comm P, <- Nat.mul_assoc, Nat.mul_comm q]
 have e2 : b'.toNat * (P * 4294967296) = b'.toNat * 4294967296 * P := by rw [Nat.mul_comm P, Nat.mul_assoc]
 have e3 : y * P * f = f * y * P := by rw [Nat.mul_comm (y * P), <- Nat.mul_assoc]
 rw [e1, e2, e3]
 omega
theorem SmInv.last {M S D : List Int} {f cy m : Nat} {b : Int} (h : SmInv M S D f cy b m) (hM : M.length = m) (hS : S.length = m + 1) {x : Int} (hx : x = D.getD m 0) {b' : Int} (hb : b' = if x < (cy : Int) + b then 1 else 0) :
    val (D.set m ((x - (cy : Int) - b) % 4294967296)) + val M * f = val S + b'.toNat * 4294967296 ^ (m + 1) /\ Ok (D.set m ((x - (cy : Int) - b) % 4294967296)) /\ 0 <= b' /\ b' <= 1 := by
 have hx1 := h.ok.getD m
 rw [<- hx] at hx1
 have b0 := h.b0
 have b1 := h.b1
 have c1 := h.cy1
 have hs := val_set D m ((x - (cy : Int) - b) % 4294967296) (by rw [h.len]; omega)
 have he := h.eq
 rw [<- hx] at hs
 rw [List.take_of_length_le (by omega)] at he
 have hb01 : 0 <= b' /\ b' <= 1 := by rw [hb]; split <;> omega
 have hk : ((x - (cy : Int) - b) % 4294967296).toNat + cy + b.toNat = x.toNat + b'.toNat * 4294967296 := by
  rw [hb]; split <;> omega
 refine ⟨?_, h.ok.set m (by omega) (by omega), hb01.1, hb01.2⟩
 rw [Nat.pow_succ]
 generalize 4294967296 ^ m = P at hs he |-
 generalize ((x - (cy : Int) - b) % 4294967296).toNat = z at hs hk
 generalize D.set m ((x - (cy : Int) - b) % 4294967296) = D' at hs |-
 have hk2 := congrArg (· * P) hk
 simp only [Nat.add_mul] at hk2 he |-
 have e2 : b'.toNat * (P * 4294967296) = b'.toNat * 4294967296 * P := by rw [Nat.mul_comm P, Nat.mul_assoc]
 rw [e2]
 omega
structure AbInv (M S D : List Int) (c : Int) (j : Nat) : Prop where
 eq : val D + c.toNat * 4294967296 ^ j = val S + val (M.take j)
 len : D.length = S.length
 ok : Ok D
 c0 : 0 <= c
 c1 : c <= 1
theorem AbInv.start (M : List Int) {S : List Int} (h : Ok S) : AbInv M S S 0 0 := ⟨by simp [val], rfl, h, by omega, by omega⟩
theorem AbInv.step {M S D : List Int} {c : Int} {j : Nat} (h : AbInv M S D c j) (hM : Ok M) (hj : j < S.length) {x y : Int} (hx : x = D.getD j 0) (hy : y = M.getD j 0) :
    AbInv M S (D.set j ((x + y + c) % 4294967296)) ((x + y + c) / 4294967296) (j + 1) := by
 have hx1 := h.ok.getD j
 have hy1 := hM.getD j
 have c0 := h.c0
 have c1 := h.c1
 rw [<- hx] at hx1
 rw [<- hy] at hy1
 have hs := val_set D j ((x + y + c) % 4294967296) (by rw [h.len]; exact hj)
 have ht := val_take_succ M j
 have he := h.eq
 rw [<- hx] at hs
 rw [<- hy] at ht
 have hk : ((x + y + c) % 4294967296).toNat + ((x + y + c) / 4294967296).toNat * 4294967296 = x.toNat + y.toNat + c.toNat := by omega
 refine ⟨?_, by simpa using h.len, h.ok.set j (by omega) (by omega), by omega, by omega⟩
 rw [ht, Nat.pow_succ]
 generalize 4294967296 ^ j = P at hs he |-
 generalize ((x + y + c) / 4294967296).toNat = b at hk |-
 have hk2 := congrArg (· * P) hk
 simp only [Nat.add_mul] at hk2
 have e : b * (P * 4294967296) = b * 4294967296 * P := by rw [Nat.mul_comm P, Nat.mul_assoc]
 rw [e]
 omega
theorem AbInv.last {M S D : List Int} {c : Int} {m : Nat} (h : AbInv M S D c m) (hM : M.length = m) (hS : S.length = m + 1) {x : Int} (hx : x = D.getD m 0) :
    ∃ k : Nat, val (D.set m ((x + c) % 4294967296)) + k * 4294967296 ^ (m + 1) = val S + val M /\ Ok (D.set m ((x + c) % 4294967296)) := by
 have hx1 := h.ok.getD m
 rw [<- hx] at hx1
 have c0 := h.c0
 have c1 := h.c1
 have hs := val_set D m ((x + c) % 4294967296) (by rw [h.len]; omega)
 have he := h.eq
 rw [<- hx] at hs
 rw [List.take_of_length_le (by omega)] at he
 have hk : ((x + c) % 4294967296).toNat + ((x + c) / 4294967296).toNat * 4294967296 = x.toNat + c.toNat := by omega
 refine ⟨((x + c) / 4294967296).toNat, ?_, h.ok.set m (by omega) (by omega)⟩
 rw [Nat.pow_succ]
 generalize 4294967296 ^ m = P at hs he |-
 generalize ((x + c) / 4294967296).toNat = b at hk |-
 generalize ((x + c) % 4294967296).toNat = z at hs hk
 generalize D.set m ((x + c) % 4294967296) = D' at hs |-
 have hk2 := congrArg (· * P) hk
 simp only [Nat.add_mul] at hk2
 have e : b * (P * 4294967296) = b * 4294967296 * P := by rw [Nat.mul_comm P, Nat.mul_assoc]
 rw [e]
 omega
def qhat (rr vv : Nat) : Nat := min (rr / vv) 4294967295
theorem qhat_digit {rr vv P rl vl : Nat} (hrl : rl < P) (hvl : vl < P) (hvv : 4294967296 <= vv) (hlt : rr * P + rl < 4294967296 * (vv * P + vl)) :
    (rr * P + rl) / (vv * P + vl) <= qhat rr vv /\ qhat rr vv <= (rr * P + rl) / (vv * P + vl) + 1 := by
 have hP : 0 < P := by omega
 have hV : 0 < vv * P + vl := Nat.add_pos_left (Nat.mul_pos (by omega) hP) _
 have hd : (rr * P + rl) / (vv * P + vl) < 4294967296 := by
  rw [Nat.div_lt_iff_lt_mul hV]; exact hlt
 have hdm := Nat.div_add_mod (rr * P + rl) (vv * P + vl)
 have hml := Nat.mod_lt (rr * P + rl) hV
 generalize (rr * P + rl) / (vv * P + vl) = d at *
 generalize (rr * P + rl) % (vv * P + vl) = md at *
 unfold qhat
 constructor
 . refine Nat.le_min.2 ⟨?_, by omega⟩
   rw [Nat.le_div_iff_mul_le (by omega)]
   have h1 : d * vv * P < (rr + 1) * P := by
    rw [Nat.add_mul, Nat.one_mul]
    have : (vv * P + vl) * d = d * vv * P + vl * d := by
     rw [Nat.add_mul, Nat.mul_comm (vv * P) d, <- Nat.mul_assoc]
    omega
   have := Nat.lt_of_mul_lt_mul_right h1
   omega
 . have h1 : qhat rr vv * vv <= rr := by
    have : qhat rr vv <= rr / vv := Nat.min_le_left ..
    exact Nat.le_trans (Nat.mul_le_mul_right vv this) (Nat.div_mul_le_self rr vv)
   have h2 : qhat rr vv <= 4294967295 := Nat.min_le_right ..
   show qhat rr vv <= d + 1
   generalize qhat rr vv = q at h1 h2 |-
   rcases Nat.lt_or_ge (d + 1) q with h3 | h3
   . exfalso
     have a1 := Nat.mul_le_mul_right P h1
     have a2 : q * vl <= 4294967295 * P := Nat.mul_le_mul h2 (by omega)
     have a3 : 4294967296 * P <= vv * P := Nat.mul_le_mul_right P hvv
     have a4 : (d + 2) * (vv * P + vl) <= q * (vv * P + vl) := Nat.mul_le_mul_right _ (by omega)
     have a5 : q * (vv * P + vl) = q * vv * P + q * vl := by rw [Nat.mul_add, <- Nat.mul_assoc]
     have a6 : (d + 2) * (vv * P + vl) = (vv * P + vl) * d + 2 * (vv * P + vl) := by rw [Nat.add_mul, Nat.mul_comm d]
     omega
   . exact h3
structure EstInv (r0 high v1 v0 : Nat) (digit left : Nat) : Prop where
 eq : digit * v1 + left = high
 ge : qhat (high * 4294967296 + r0) (v1 * 4294967296 + v0) <= digit
 left : left <= 4294967295
theorem est_more {r0 high v1 v0 digit left : Nat} (he : digit * v1 + left = high) (hv : 0 < v1) : digit * v0 > left * 4294967296 + r0 ↔ (high * 4294967296 + r0) / (v1 * 4294967296 + v0) < digit := by
 rw [Nat.div_lt_iff_lt_mul (by omega), <- he]
 have e : digit * (v1 * 4294967296 + v0) = digit * v1 * 4294967296 + digit * v0 := by rw [Nat.mul_add, <- Nat.mul_assoc]
 rw [e, Nat.add_mul]
 omega
theorem EstInv.start {r0 high v1 v0 : Nat} (hr0 : r0 <= 4294967295) (hv : 0 < v1) (hv1 : v1 <= 4294967295) : EstInv r0 high v1 v0 (high / v1) (high % v1) := by
 refine ⟨by rw [Nat.mul_comm]; exact Nat.div_add_mod .., ?_, by have := Nat.mod_lt high hv; omega⟩
 refine Nat.le_trans (Nat.min_le_left ..) ?_
 refine Nat.le_trans (Nat.div_le_div_left (c := v1 * 4294967296) (by omega) (by omega)) ?_
 rw [Nat.mul_comm v1, <- Nat.div_div_eq_div_mul, Nat.mul_comm high, Nat.mul_add_div (by omega), Nat.div_eq_of_lt (show r0 < 4294967296 by omega)]
 exact Nat.le_refl _
theorem EstInv.down {r0 high v1 v0 digit left : Nat} (h : EstInv r0 high v1 v0 digit left) (hv : 0 < v1) (hm : 4294967295 < digit \/ digit * v0 > left * 4294967296 + r0) :
    0 < digit /\ (digit - 1) * v1 + (left + v1) = high /\ qhat (high * 4294967296 + r0) (v1 * 4294967296 + v0) <= digit - 1 := by
 have hq : qhat (high * 4294967296 + r0) (v1 * 4294967296 + v0) < digit := by
  unfold qhat
  rcases hm with hm | hm
  . exact Nat.lt_of_le_of_lt (Nat.min_le_right ..) hm
  . exact Nat.lt_of_le_of_lt (Nat.min_le_left ..) ((est_more h.eq hv).1 hm)
 refine ⟨by omega, ?_, by omega⟩
 obtain ⟨d, rfl⟩ : ∃ d, digit = d + 1 := ⟨digit - 1, by omega⟩
 have := h.eq
 rw [Nat.add_mul] at this
 simp only [Nat.add_sub_cancel]
 omega
theorem EstInv.next {r0 high v1 v0 digit left : Nat} (h : EstInv r0 high v1 v0 digit left) (hv : 0 < v1) (hm : 4294967295 < digit \/ digit * v0 > left * 4294967296 + r0) (hl : left + v1 <= 4294967295) :
    EstInv r0 high v1 v0 (digit - 1) (left + v1) := by
 have := h.down hv hm
 exact ⟨this.2.1, this.2.2, hl⟩
theorem EstInv.done {r0 high v1 v0 digit left : Nat} (h : EstInv r0 high v1 v0 digit left) (hv : 0 < v1) (hd : digit <= 4294967295) (hn : ¬ digit * v0 > left * 4294967296 + r0) :
    digit = qhat (high * 4294967296 + r0) (v1 * 4294967296 + v0) := by
 refine Nat.le_antisymm ?_ h.ge
 refine Nat.le_min.2 ⟨?_, hd⟩
 rcases Nat.lt_or_ge ((high * 4294967296 + r0) / (v1 * 4294967296 + v0)) digit with h1 | h1
 . exact absurd ((est_more h.eq hv).2 h1) hn
 . exact h1
theorem EstInv.break {r0 high v1 v0 digit left : Nat} (h : EstInv r0 high v1 v0 digit left) (hv : 0 < v1) (hv0 : v0 <= 4294967295) (hh : high <= v1 * 4294967296 + 4294967295) (hm : 4294967295 < digit \/ digit * v0 > left * 4294967296 + r0) (hl : 4294967295 < left + v1) :
    digit - 1 <= 4294967295 /\ digit - 1 = qhat (high * 4294967296 + r0) (v1 * 4294967296 + v0) := by
 have hd := h.down hv hm
 have h1 : digit - 1 <= 4294967295 := by
  rcases Nat.lt_or_ge 4294967295 (digit - 1) with h2 | h2
  . have := Nat.mul_le_mul_right v1 (show 4294967296 <= digit - 1 by omega)
    have := Nat.mul_comm v1 4294967296
    omega
  . exact h2
 refine ⟨h1, Nat.le_antisymm (Nat.le_min.2 ⟨?_, h1⟩) hd.2.2⟩
 rcases Nat.lt_or_ge ((high * 4294967296 + r0) / (v1 * 4294967296 + v0)) (digit - 1) with h2 | h2
 . have h3 := (est_more hd.2.1 hv).2 h2
   have := Nat.mul_le_mul h1 hv0
   omega
 . exact h2
theorem step_low {R V q P : Nat} (hq0 : R / V <= q) (hq1 : q <= R / V + 1) {z : Nat} {k : Nat} (h : z + V * q = R + k * P) (hz : z < P) (hk : k <= 1) (hV : 0 < V) :
    (k = 0 -> q = R / V /\ z = R % V) /\ (k = 1 -> q = R / V + 1 /\ R + P = z + V * (R / V + 1)) := by
 have hdm := Nat.div_add_mod R V
 have hml := Nat.mod_lt R hV
 generalize R / V = d at *
 generalize R % V = r at *
 rcases Nat.lt_or_ge d q with h1 | h1
 . obtain rfl : q = d + 1 := by omega
   have e : V * (d + 1) = V * d + V := by rw [Nat.mul_add, Nat.mul_one]
   constructor
   . intro hk0; subst hk0; omega
   . intro hk1; subst hk1; refine ⟨rfl, by omega⟩
 . obtain rfl : q = d := by omega
   constructor
   . intro hk0; subst hk0; omega
   . intro hk1; subst hk1; omega
theorem step_back {R V P z z2 k : Nat} (h : R + P = z + V * (R / V + 1)) (h2 : z2 + k * P = z + V) (hz2 : z2 < P) (hVP : V <= P) (hV : 0 < V) (hzP : z < P) : z2 = R % V := by
 have hdm := Nat.div_add_mod R V
 have hml := Nat.mod_lt R hV
 generalize R / V = d at *
 generalize R % V = r at *
 have e : V * (d + 1) = V * d + V := by rw [Nat.mul_add, Nat.mul_one]
 have h3 : r + P = z + V := by omega
 have hk : k = 1 := by
  rcases Nat.lt_trichotomy k 1 with h1 | h1 | h1
  . obtain rfl : k = 0 := by omega
    omega
  . exact h1
  . have := Nat.mul_le_mul_right P (show 2 <= k by omega)
    omega
 subst hk
 omega
structure LongInv (A V : Nat) (D Q : List Int) (i : Nat) : Prop where
 eq : val D + val (Q.drop i) * V * 4294967296 ^ i = A
 lt : val (D.drop i) < V
 okD : Ok D
 okQ : Ok Q
theorem val_drop_split (D : List Int) (i : Nat) : val D = val (D.take i) + 4294967296 ^ (D.take i).length * val (D.drop i) := by
 rw [<- val_append, List.take_append_drop]
theorem LongInv.step {A V : Nat} {P S S' Q : List Int} {i : Nat} (h : LongInv A V (P ++ S) Q (i + 1)) (hP : P.length = i) (hi : i < Q.length) (hV : 0 < V) (hS' : Ok S') (hv : val S' = val S % V) {d : Nat} (hd : d = val S / V) (hd1 : d <= 4294967295) :
    LongInv A V (P ++ S') (Q.set i (d : Int)) i := by
 have he := h.eq
 have okP : Ok P := fun x hx => h.okD x (List.mem_append.2 (Or.inl hx))
 refine ⟨?_, ?_, okP.append hS', h.okQ.set i (by omega) (by omega)⟩
 . rw [drop_set_self hi, val, Int.toNat_natCast]
   rw [val_append, hP, Nat.pow_succ] at he
   rw [val_append, hP, hv]
   have hdm := Nat.div_add_mod (val S) V
   rw [<- hd] at hdm
   generalize val (Q.drop (i + 1)) = T at *
   generalize 4294967296 ^ i = R at *
   generalize val S % V = z at *
   generalize val S = s at *
   rw [<- he, <- hdm]
   simp only [Nat.add_mul, Nat.mul_add]
   have e1 : 4294967296 * T * V * R = T * V * (R * 4294967296) := by
    rw [Nat.mul_comm R, <- Nat.mul_assoc, Nat.mul_comm (T * V), <- Nat.mul_assoc]
   have e2 : R * (V * d) = d * V * R := by rw [Nat.mul_comm V, Nat.mul_comm]
   rw [e1, e2]
   omega
 . rw [List.drop_left' hP, hv]
   exact Nat.mod_lt _ hV
theorem LongInv.bound {A V : Nat} {P S Q : List Int} {i : Nat} (h : LongInv A V (P ++ S) Q (i + 1)) (hP : P.length = i) : val S < 4294967296 * V := by
 have h1 := h.lt
 have okS : Ok S := fun x hx => h.okD x (List.mem_append.2 (Or.inr hx))
 rw [List.drop_append, List.drop_of_length_le (by omega), List.nil_append, hP, show i + 1 - i = 1 by omega] at h1
 cases S with
 | nil => rw [val]; exact Nat.mul_pos (by omega) (by omega)
 | cons x S =>
  have := okS.head
  rw [List.drop_succ_cons, List.drop_zero] at h1
  rw [val]
  have := Nat.mul_le_mul_left 4294967296 (show val S + 1 <= V by omega)
  omega
theorem LongInv.done {A V : Nat} {D Q : List Int} (h : LongInv A V D Q 0) : val Q = A / V /\ val D = A % V := by
 have he := h.eq
 have hlt := h.lt
 simp only [List.drop_zero, Nat.pow_zero, Nat.mul_one] at he hlt
 rw [<- he, Nat.add_comm, Nat.mul_comm]
 constructor
 . rw [Nat.mul_add_div (by omega), Nat.div_eq_of_lt hlt]; omega
 . rw [Nat.mul_add_mod, Nat.mod_eq_of_lt hlt]
end Go.Proofs.YtemdkkphmldgjaaGreatDoor.Q.NatMath
/-
  Plain mathematics for shifting numbers by less than a limb, and for the places of a long division. No program, no world.
-/
namespace Go.Proofs.YtemdkkphmldgjaaGreatDoor.Q.NatMath
structure ShlInv (xs D : List Int) (s i : Nat) : Prop where
 eq : val D = val (xs.take i) * 2 ^ s
 zero : ∀ t, i < t -> D.getD t 0 = 0
 len : D.length = xs.length + 1
 ok : Ok D
 low : (D.getD i 0).toNat < 2 ^ s
theorem ShlInv.start (xs : List Int) (s : Nat) : ShlInv xs (List.replicate (xs.length + 1) 0) s 0 := by
 have hz : ∀ t, (List.replicate (xs.length + 1) (0 : Int)).getD t 0 = 0 := by
  intro t
  rw [List.getD, List.getElem?_replicate]
  split <;> rfl
 refine ⟨by simp [val, val_zeros], fun t _ => hz t, by simp, Ok.zeros _, ?_⟩
 rw [hz]
 exact Nat.pow_pos (by omega)
theorem shl_bound {X s : Nat} (hX : X <= 4294967295) (hs : s < 32) : X * 2 ^ s / 4294967296 < 2 ^ s /\ X * 2 ^ s < 9223372036854775808 := by
 have h1 : 2 ^ s <= 2 ^ 31 := Nat.pow_le_pow_right (by omega) (by omega)
 have h0 : 0 < 2 ^ s := Nat.pow_pos (by omega)
 constructor
 . rw [Nat.div_lt_iff_lt_mul (by omega), Nat.mul_comm]
   exact Nat.mul_lt_mul_of_pos_left (by omega) h0
 . have h2 := Nat.mul_le_mul hX h1
   omega
theorem shl_or {X Y s : Nat} (hs : s < 32) (hY : Y < 2 ^ s) : Y ||| X * 2 ^ s % 4294967296 = Y + X * 2 ^ s % 4294967296 /\ Y + X * 2 ^ s % 4294967296 < 4294967296 := by
 obtain ⟨u, hu⟩ : ∃ u, u = 32 - s := ⟨_, rfl⟩
 have hB : (4294967296 : Nat) = 2 ^ s * 2 ^ u := by rw [<- Nat.pow_add, show s + u = 32 by omega]
 have e : X * 2 ^ s % 4294967296 = 2 ^ s * (X % 2 ^ u) := by
  rw [hB, Nat.mul_comm X, Nat.mul_mod_mul_left]
 have h1 : X % 2 ^ u < 2 ^ u := Nat.mod_lt _ (Nat.pow_pos (by omega))
 rw [e, Nat.or_comm, <- Nat.two_pow_add_eq_or_of_lt hY]
 refine ⟨Nat.add_comm .., ?_⟩
 rw [hB]
 have h2 := Nat.mul_le_mul_left (2 ^ s) (show X % 2 ^ u + 1 <= 2 ^ u by omega)
 rw [Nat.mul_add] at h2
 omega
theorem ShlInv.step {xs D : List Int} {s i : Nat} (h : ShlInv xs D s i) (hs : s < 32) (hi : i < xs.length) (hx : Ok xs) {X Y : Nat} (hX : (X : Int) = xs.getD i 0) (hY : (Y : Int) = D.getD i 0) :
    ShlInv xs ((D.set i ((Y ||| X * 2 ^ s % 4294967296 : Nat) : Int)).set (i + 1) ((X * 2 ^ s / 4294967296 : Nat) : Int)) s (i + 1) := by
 have hx1 := hx.getD i
 rw [<- hX] at hx1
 have hlow := h.low
 rw [<- hY, Int.toNat_natCast] at hlow
 have hb := shl_bound (show X <= 4294967295 by omega) hs
 have ho := shl_or (X := X) hs hlow
 have h31 : 2 ^ s <= 2 ^ 31 := Nat.pow_le_pow_right (by omega) (by omega)
 rw [ho.1]
 have hz := h.zero (i + 1) (by omega)
 have s1 := val_set D i ((Y + X * 2 ^ s % 4294967296 : Nat) : Int) (by rw [h.len]; omega)
 have s2 := val_set (D.set i ((Y + X * 2 ^ s % 4294967296 : Nat) : Int)) (i + 1) ((X * 2 ^ s / 4294967296 : Nat) : Int) (by rw [List.length_set, h.len]; omega)
 rw [getD_set_ne (by omega), hz] at s2
 rw [<- hY, Int.toNat_natCast, Int.toNat_natCast] at s1
 rw [Int.toNat_natCast] at s2
 have he := h.eq
 refine ⟨?_, fun t ht => ?_, by simpa using h.len, (h.ok.set i (by omega) (by omega)).set (i + 1) (by omega) (by omega), ?_⟩
 . rw [val_take_succ xs i, <- hX, Int.toNat_natCast, Nat.add_mul, <- he]
   have e3 : X * 4294967296 ^ i * 2 ^ s = X * 2 ^ s * 4294967296 ^ i := by rw [Nat.mul_assoc, Nat.mul_comm (4294967296 ^ i), <- Nat.mul_assoc]
   rw [e3]
   have hdm := Nat.div_add_mod (X * 2 ^ s) 4294967296
   rw [Nat.pow_succ] at s2
   generalize X * 2 ^ s % 4294967296 = r at *
   generalize X * 2 ^ s / 4294967296 = q at *
   generalize X * 2 ^ s = W at *
   generalize 4294967296 ^ i = P at *
   have h2 := congrArg (· * P) hdm
   simp only [Nat.add_mul, Nat.zero_mul, Nat.add_zero, Int.toNat_zero] at h2 s1 s2
   have e4 : q * (P * 4294967296) = 4294967296 * q * P := by rw [Nat.mul_comm P, <- Nat.mul_assoc, Nat.mul_comm q]
   rw [e4] at s2
   omega
 . rw [getD_set_ne (by omega), getD_set_ne (by omega)]
   exact h.zero t (by omega)
 . rw [getD_set_self (by rw [List.length_set, h.len]; omega), Int.toNat_natCast]
   exact hb.1
theorem ShlInv.done {xs D : List Int} {s : Nat} (h : ShlInv xs D s xs.length) : val D = val xs * 2 ^ s := by
 have := h.eq
 rwa [List.take_of_length_le (Nat.le_refl _)] at this
structure ShrInv (xs D : List Int) (s ab j : Nat) : Prop where
 eq : val (D.drop j) = val (xs.drop j) / 2 ^ s
 len : D.length = xs.length
 ok : Ok D
 above : ab = val (xs.drop j) % 4294967296
theorem ShrInv.start (xs : List Int) (s : Nat) : ShrInv xs (List.replicate xs.length 0) s 0 xs.length := by
 refine ⟨?_, by simp, Ok.zeros _, ?_⟩
 . rw [List.drop_of_length_le (by simp), List.drop_of_length_le (by simp)]
   simp [val]
 . rw [List.drop_of_length_le (by simp)]
   rfl
theorem shr_limb {x V T U : Nat} (hB : T * U = 4294967296) (hx : x < 4294967296) : (x + 4294967296 * V) / T = (V % 4294967296 * 4294967296 + x) / T % 4294967296 + 4294967296 * (V / T) := by
 have hT : 0 < T := by rcases Nat.eq_zero_or_pos T with h | h; · subst h; omega
                       . exact h
 have hU : 0 < U := by rcases Nat.eq_zero_or_pos U with h | h; · subst h; omega
                       . exact h
 have e1 : (x + 4294967296 * V) / T = x / T + U * V := by
  rw [<- hB, Nat.mul_assoc, Nat.add_mul_div_left _ _ hT]
 have e2 : (V % 4294967296 * 4294967296 + x) / T = x / T + U * (V % 4294967296) := by
  have : V % 4294967296 * 4294967296 = T * (U * (V % 4294967296)) := by rw [<- Nat.mul_assoc, hB, Nat.mul_comm]
  rw [this, Nat.add_comm, Nat.add_mul_div_left _ _ hT]
 have hxU : x / T < U := Nat.div_lt_of_lt_mul (by rw [hB]; exact hx)
 have hr : V % 4294967296 % T = V % T := Nat.mod_mod_of_dvd V ⟨U, hB.symm⟩
 have hrT := Nat.mod_lt V hT
 have d1 := Nat.div_add_mod (V % 4294967296) T
 have d2 := Nat.div_add_mod V T
 rw [hr] at d1
 have e3 : U * (V % 4294967296) = 4294967296 * (V % 4294967296 / T) + U * (V % T) := by
  rw [<- hB]
  calc U * (V % (T * U)) = U * (T * (V % (T * U) / T) + V % T) := by rw [hB, d1]
    _ = _ := by rw [Nat.mul_add, <- Nat.mul_assoc, Nat.mul_comm U T]
 have e4 : U * V = 4294967296 * (V / T) + U * (V % T) := by
  calc U * V = U * (T * (V / T) + V % T) := by rw [d2]
    _ = _ := by rw [Nat.mul_add, <- Nat.mul_assoc, Nat.mul_comm U T, hB]
 have hlt : x / T + U * (V % T) < 4294967296 := by
  have := Nat.mul_le_mul_left U (show V % T + 1 <= T by omega)
  rw [Nat.mul_add, Nat.mul_comm U T, hB] at this
  omega
 rw [e1, e2, e3, e4]
 clear e1 e2 e3 e4 d1 d2 hr hxU hrT
 generalize U * (V % T) = g at *
 generalize x / T = a at *
 generalize V / T = b
 generalize V % 4294967296 / T = c
 omega
theorem ShrInv.step {xs D : List Int} {s ab i : Nat} (h : ShrInv xs D s ab (i + 1)) (hs : s < 32) (hi : i < xs.length) (hx : Ok xs) {X : Nat} (hX : (X : Int) = xs.getD i 0) :
    ShrInv xs (D.set i (((ab * 4294967296 + X) / 2 ^ s % 4294967296 : Nat) : Int)) s X i := by
 have hx1 := hx.getD i
 rw [<- hX] at hx1
 have he := h.eq
 have ha := h.above
 refine ⟨?_, by simpa using h.len, h.ok.set i (by omega) (by omega), ?_⟩
 . rw [drop_set_self (by rw [h.len]; exact hi), drop_getD (D := xs) hi, val, val, he, ha, <- hX, Int.toNat_natCast, Int.toNat_natCast]
   refine (shr_limb (U := 2 ^ (32 - s)) ?_ (by omega)).symm
   rw [<- Nat.pow_add, show s + (32 - s) = 32 by omega]
 . rw [drop_getD (D := xs) hi, val, <- hX, Int.toNat_natCast]
   omega
theorem ShrInv.done {xs D : List Int} {s ab : Nat} (h : ShrInv xs D s ab 0) : val D = val xs / 2 ^ s := by simpa using h.eq
theorem top_shift {V m t s : Nat} (hl : (limbs V).length = m + 1) (ht : (t : Int) = (limbs V).getD m 0) (h0 : 2147483648 <= t * 2 ^ s) (h1 : t * 2 ^ s < 4294967296) (h2 : (t + 1) * 2 ^ s <= 4294967296) :
    2147483648 * 4294967296 ^ m <= V * 2 ^ s /\ V * 2 ^ s < 4294967296 ^ (m + 1) := by
 have hv := val_take_succ (limbs V) m
 rw [List.take_of_length_le (by omega), val_limbs, <- ht, Int.toNat_natCast] at hv
 have hlow := val_lt ((limbs_ok V).take m)
 rw [List.length_take, hl, Nat.min_eq_left (by omega)] at hlow
 rw [Nat.pow_succ]
 generalize 4294967296 ^ m = P at *
 generalize val ((limbs V).take m) = low at *
 generalize 2 ^ s = T at *
 subst hv
 constructor
 . have a1 := Nat.mul_le_mul_right P h0
   have e : (low + t * P) * T = low * T + t * T * P := by rw [Nat.add_mul, Nat.mul_assoc, Nat.mul_comm P, <- Nat.mul_assoc]
   rw [e]
   omega
 . have hT : 0 < T := by rcases Nat.eq_zero_or_pos T with h | h; · subst h; omega
                         . exact h
   have a1 := Nat.mul_le_mul_right P h2
   have a2 := Nat.mul_lt_mul_of_pos_right (show low + t * P < (t + 1) * P by rw [Nat.add_mul]; omega) hT
   have e : (t + 1) * P * T = (t + 1) * T * P := by rw [Nat.mul_assoc, Nat.mul_comm P, <- Nat.mul_assoc]
   rw [e] at a2
   omega
theorem bitLen_shift {t : Nat} {k : Nat} (hk : 2 ^ k <= t) (hk2 : t < 2 ^ (k + 1)) (hk3 : k < 32) : 2147483648 <= t * 2 ^ (31 - k) /\ t * 2 ^ (31 - k) < 4294967296 /\ (t + 1) * 2 ^ (31 - k) <= 4294967296 := by
 have e1 : 2 ^ k * 2 ^ (31 - k) = 2147483648 := by rw [<- Nat.pow_add, show k + (31 - k) = 31 by omega]
 have e2 : 2 ^ (k + 1) * 2 ^ (31 - k) = 4294967296 := by rw [<- Nat.pow_add, show k + 1 + (31 - k) = 32 by omega]
 have h1 := Nat.mul_le_mul_right (2 ^ (31 - k)) hk
 have h2 := Nat.mul_le_mul_right (2 ^ (31 - k)) (show t + 1 <= 2 ^ (k + 1) by omega)
 rw [e1] at h1
 rw [e2] at h2
 have hp : 0 < 2 ^ (31 - k) := Nat.pow_pos (by omega)
 refine ⟨h1, ?_, h2⟩
 rw [Nat.add_mul] at h2
 omega
theorem val_take_lt {D : List Int} {m : Nat} (hm : m <= D.length) (hv : val D < 4294967296 ^ m) : val (D.take m) = val D /\ val (D.drop m) = 0 := by
 have hs := val_drop_split D m
 rw [List.length_take, Nat.min_eq_left hm] at hs
 rcases Nat.eq_zero_or_pos (val (D.drop m)) with h0 | h0
 . rw [h0] at hs; exact ⟨by omega, h0⟩
 . have := Nat.le_mul_of_pos_right (4294967296 ^ m) h0
   omega
theorem val_top3 {S : List Int} {k : Nat} (hS : S.length = k + 3) {r0 r1 r2 : Nat} (h0 : (r0 : Int) = S.getD k 0) (h1 : (r1 : Int) = S.getD (k + 1) 0) (h2 : (r2 : Int) = S.getD (k + 2) 0) :
    val S = ((r2 * 4294967296 + r1) * 4294967296 + r0) * 4294967296 ^ k + val (S.take k) := by
 have a := val_take_succ S (k + 2)
 have b := val_take_succ S (k + 1)
 have c := val_take_succ S k
 rw [List.take_of_length_le (by omega), <- h2, Int.toNat_natCast, Nat.pow_succ, Nat.pow_succ] at a
 rw [<- h1, Int.toNat_natCast, Nat.pow_succ] at b
 rw [<- h0, Int.toNat_natCast] at c
 rw [a, b, c]
 generalize 4294967296 ^ k = P
 have e1 : r2 * (P * 4294967296 * 4294967296) = r2 * 4294967296 * 4294967296 * P := by
  rw [Nat.mul_comm P, Nat.mul_assoc 4294967296 P, Nat.mul_comm P, <- Nat.mul_assoc, <- Nat.mul_assoc]
 have e2 : r1 * (P * 4294967296) = r1 * 4294967296 * P := by rw [Nat.mul_comm P, <- Nat.mul_assoc]
 rw [e1, e2, Nat.add_mul, Nat.add_mul, Nat.add_mul]
 omega
theorem val_top2 {M : List Int} {k : Nat} (hM : M.length = k + 2) {v0 v1 : Nat} (h0 : (v0 : Int) = M.getD k 0) (h1 : (v1 : Int) = M.getD (k + 1) 0) :
    val M = (v1 * 4294967296 + v0) * 4294967296 ^ k + val (M.take k) := by
 have b := val_take_succ M (k + 1)
 have c := val_take_succ M k
 rw [List.take_of_length_le (by omega), <- h1, Int.toNat_natCast, Nat.pow_succ] at b
 rw [<- h0, Int.toNat_natCast] at c
 rw [b, c]
 generalize 4294967296 ^ k = P
 have e2 : v1 * (P * 4294967296) = v1 * 4294967296 * P := by rw [Nat.mul_comm P, <- Nat.mul_assoc]
 rw [e2, Nat.add_mul]
 omega
theorem top_ge {M : List Int} {k : Nat} (hok : Ok M) (hM : M.length = k + 1) {v : Nat} (h1 : (v : Int) = M.getD k 0) (hv : 2147483648 * 4294967296 ^ k <= val M) : 2147483648 <= v := by
 have b := val_take_succ M k
 rw [List.take_of_length_le (by omega), <- h1, Int.toNat_natCast] at b
 have hlow := val_lt (hok.take k)
 rw [List.length_take, hM, Nat.min_eq_left (by omega)] at hlow
 rw [b] at hv
 rcases Nat.lt_or_ge v 2147483648 with h | h
 . have := Nat.mul_le_mul_right (4294967296 ^ k) (show v + 1 <= 2147483648 by omega)
   rw [Nat.add_mul] at this
   omega
 . exact h
theorem digit_est {S M : List Int} {k : Nat} (hSok : Ok S) (hMok : Ok M) (hS : S.length = k + 3) (hM : M.length = k + 2) {r0 r1 r2 v0 v1 : Nat} (h0 : (r0 : Int) = S.getD k 0) (h1 : (r1 : Int) = S.getD (k + 1) 0) (h2 : (r2 : Int) = S.getD (k + 2) 0)
    (g0 : (v0 : Int) = M.getD k 0) (g1 : (v1 : Int) = M.getD (k + 1) 0) (hv : 2147483648 <= v1) (hlt : val S < 4294967296 * val M) :
    r2 <= v1 /\ val S / val M <= qhat ((r2 * 4294967296 + r1) * 4294967296 + r0) (v1 * 4294967296 + v0) /\ qhat ((r2 * 4294967296 + r1) * 4294967296 + r0) (v1 * 4294967296 + v0) <= val S / val M + 1 := by
 have eS := val_top3 hS h0 h1 h2
 have eM := val_top2 hM g0 g1
 have lS := val_lt (hSok.take k)
 have lM := val_lt (hMok.take k)
 have b0 := hMok.getD k
 have b1 := hSok.getD (k + 1)
 rw [<- g0] at b0
 rw [<- h1] at b1
 rw [List.length_take, Nat.min_eq_left (by omega)] at lS lM
 rw [eS, eM] at hlt |-
 refine ⟨?_, qhat_digit lS lM (by omega) hlt⟩
 rcases Nat.lt_or_ge v1 r2 with h | h
 . exfalso
   generalize 4294967296 ^ k = P at *
   generalize val (S.take k) = sl at *
   generalize val (M.take k) = ml at *
   have a1 := Nat.mul_le_mul_right P (show ((v1 + 1) * 4294967296) * 4294967296 <= (r2 * 4294967296 + r1) * 4294967296 + r0 by omega)
   have a2 := Nat.mul_le_mul_right P (show v1 * 4294967296 + v0 + 1 <= (v1 + 1) * 4294967296 by omega)
   have e1 : (v1 + 1) * 4294967296 * 4294967296 * P = 4294967296 * ((v1 + 1) * 4294967296 * P) := by
    rw [Nat.mul_comm ((v1 + 1) * 4294967296) 4294967296, Nat.mul_assoc 4294967296]
   rw [Nat.add_mul (v1 * 4294967296 + v0), Nat.one_mul] at a2
   rw [e1] at a1
   omega
 . exact h
theorem long_start {A V' s n m : Nat} {D : List Int} (hok : Ok D) (hD : D.length = n + 1) (hv : val D = A * 2 ^ s) (hA : A < 4294967296 ^ n) (hs : s < 32) (hmn : m <= n) (hm : 0 < m) (hV : 2147483648 * 4294967296 ^ (m - 1) <= V') (Q : List Int) (hQ : Q.length = n + 1 - m) (okQ : Ok Q) :
    LongInv (A * 2 ^ s) V' D Q (n + 1 - m) := by
 refine ⟨?_, ?_, hok, okQ⟩
 . rw [List.drop_of_length_le (by omega)]
   simp [val, hv]
 . have hs1 := val_drop_split D (n + 1 - m)
   rw [List.length_take, hD, Nat.min_eq_left (by omega), hv] at hs1
   have h31 : 2 ^ s <= 2 ^ 31 := Nat.pow_le_pow_right (by omega) (by omega)
   have h1 : A * 2 ^ s < 4294967296 ^ n * 2147483648 := by
    refine Nat.lt_of_lt_of_le (Nat.mul_lt_mul_of_pos_right hA (Nat.pow_pos (by omega))) (Nat.mul_le_mul_left _ h31)
   have e : 4294967296 ^ n = 4294967296 ^ (n + 1 - m) * 4294967296 ^ (m - 1) := by rw [<- Nat.pow_add]; congr 1; omega
   rw [e, Nat.mul_assoc] at h1
   rcases Nat.lt_or_ge (val (D.drop (n + 1 - m))) V' with h | h
   . exact h
   . have h2 : 4294967296 ^ (m - 1) * 2147483648 <= val (D.drop (n + 1 - m)) := by rw [Nat.mul_comm]; exact Nat.le_trans hV h
     have h3 := Nat.mul_le_mul_left (4294967296 ^ (n + 1 - m)) h2
     omega
end Go.Proofs.YtemdkkphmldgjaaGreatDoor.Q.NatMath
