/-
  Plain mathematics for layer 1: limbs in base 2^32, bits, decimal digits. No program, no world.
-/
namespace Go.Proofs.YtmojcnlddfijjaaDoor.NatMath

/-- The base of a limb. -/
def B : Nat := 4294967296

/-- What a list of limbs denotes. -/
def val : List Int → Nat
  | [] => 0
  | x :: xs => x.toNat + 4294967296 * val xs

/-- The limbs of a number in normal form. -/
def limbs (n : Nat) : List Int :=
  if h : n = 0 then [] else (↑(n % 4294967296) : Int) :: limbs (n / 4294967296)
termination_by n
decreasing_by omega

/-- Each limb is one of 32 bits. -/
def Ok (xs : List Int) : Prop := ∀ x ∈ xs, 0 ≤ x ∧ x ≤ 4294967295

theorem Ok.nil : Ok [] := fun _ h => by cases h
theorem Ok.cons {x : Int} {xs : List Int} (h0 : 0 ≤ x) (h1 : x ≤ 4294967295) (h : Ok xs) : Ok (x :: xs) := by
  intro y hy
  rcases List.mem_cons.1 hy with rfl | hy
  · exact ⟨h0, h1⟩
  · exact h y hy
theorem Ok.head {x : Int} {xs : List Int} (h : Ok (x :: xs)) : 0 ≤ x ∧ x ≤ 4294967295 := h x (List.mem_cons_self ..)
theorem Ok.tail {x : Int} {xs : List Int} (h : Ok (x :: xs)) : Ok xs := fun y hy => h y (List.mem_cons_of_mem _ hy)
theorem Ok.take {xs : List Int} (h : Ok xs) (n : Nat) : Ok (xs.take n) := fun y hy => h y (List.mem_of_mem_take hy)
theorem Ok.drop {xs : List Int} (h : Ok xs) (n : Nat) : Ok (xs.drop n) := fun y hy => h y (List.mem_of_mem_drop hy)
theorem Ok.append {xs ys : List Int} (h : Ok xs) (k : Ok ys) : Ok (xs ++ ys) := by
  intro y hy
  rcases List.mem_append.1 hy with hy | hy
  · exact h y hy
  · exact k y hy
theorem Ok.getD {xs : List Int} (h : Ok xs) (i : Nat) : 0 ≤ xs.getD i 0 ∧ xs.getD i 0 ≤ 4294967295 := by
  by_cases hi : i < xs.length
  · have e : xs.getD i 0 = xs[i] := by simp [List.getD, hi]
    rw [e]; exact h _ (List.getElem_mem hi)
  · simp [List.getD, List.getElem?_eq_none (by omega : xs.length ≤ i)]

theorem limbs_zero : limbs 0 = [] := by rw [limbs]; simp
theorem limbs_pos {n : Nat} (h : n ≠ 0) : limbs n = (↑(n % 4294967296) : Int) :: limbs (n / 4294967296) := by rw [limbs]; simp [h]

theorem limbs_ok (n : Nat) : Ok (limbs n) := by
  induction n using Nat.strongRecOn with
  | ind n ih =>
    by_cases h : n = 0
    · subst h; rw [limbs_zero]; exact Ok.nil
    · rw [limbs_pos h]
      exact Ok.cons (by omega) (by omega) (ih _ (by omega))

theorem val_limbs (n : Nat) : val (limbs n) = n := by
  induction n using Nat.strongRecOn with
  | ind n ih =>
    by_cases h : n = 0
    · subst h; rw [limbs_zero]; rfl
    · rw [limbs_pos h, val, ih _ (by omega)]
      omega

/-- Normal form: no zero limb at the end. -/
def Nf (xs : List Int) : Prop := xs.getLast? ≠ some 0

theorem val_eq_zero {xs : List Int} (h : Ok xs) : val xs = 0 ↔ ∀ x ∈ xs, x = 0 := by
  induction xs with
  | nil => simp [val]
  | cons x xs ih =>
    have h0 := h.head
    rw [val]
    constructor
    · intro e
      have e1 : x.toNat = 0 := by omega
      have e2 : val xs = 0 := by omega
      intro y hy
      rcases List.mem_cons.1 hy with rfl | hy
      · omega
      · exact (ih h.tail).1 e2 y hy
    · intro e
      have e1 := e x (List.mem_cons_self ..)
      have e2 := (ih h.tail).2 (fun y hy => e y (List.mem_cons_of_mem _ hy))
      omega

theorem limbs_val {xs : List Int} (h : Ok xs) (hn : Nf xs) : limbs (val xs) = xs := by
  induction xs with
  | nil => exact limbs_zero
  | cons x xs ih =>
    have h0 := h.head
    have hne : val (x :: xs) ≠ 0 := by
      intro e
      have hz := (val_eq_zero h).1 e
      have hl := List.getLast?_isSome.2 (show (x :: xs) ≠ [] by simp)
      obtain ⟨y, hy⟩ := Option.isSome_iff_exists.1 hl
      have hy0 := hz y (List.mem_of_getLast? hy)
      subst hy0
      exact hn hy
    rw [limbs_pos hne]
    rw [val] at hne ⊢
    have e1 : (x.toNat + 4294967296 * val xs) % 4294967296 = x.toNat := by omega
    have e2 : (x.toNat + 4294967296 * val xs) / 4294967296 = val xs := by omega
    rw [e1, e2]
    congr 1
    · omega
    · cases xs with
      | nil => exact limbs_zero
      | cons y ys =>
        refine ih h.tail ?_
        intro e
        exact hn (by rw [List.getLast?_cons_cons]; exact e)

theorem limbs_nf (n : Nat) : Nf (limbs n) := by
  induction n using Nat.strongRecOn with
  | ind n ih =>
    by_cases h : n = 0
    · subst h; rw [limbs_zero]; simp [Nf]
    · rw [limbs_pos h]
      by_cases h2 : n / 4294967296 = 0
      · rw [h2, limbs_zero]
        simp [Nf]; omega
      · have := ih (n / 4294967296) (by omega)
        rw [limbs_pos h2] at this ⊢
        unfold Nf
        rw [List.getLast?_cons_cons]
        exact this

theorem val_append (xs ys : List Int) : val (xs ++ ys) = val xs + 4294967296 ^ xs.length * val ys := by
  induction xs with
  | nil => simp [val]
  | cons x xs ih =>
    rw [List.cons_append, val, val, ih, List.length_cons, Nat.pow_succ, Nat.mul_add, ← Nat.mul_assoc, Nat.mul_comm 4294967296 (4294967296 ^ xs.length), Nat.add_assoc]

theorem val_lt {xs : List Int} (h : Ok xs) : val xs < 4294967296 ^ xs.length := by
  induction xs with
  | nil => simp [val]
  | cons x xs ih =>
    have h0 := h.head
    have h1 := ih h.tail
    rw [val, List.length_cons, Nat.pow_succ]
    omega

theorem val_zeros (n : Nat) : val (List.replicate n 0) = 0 := by
  induction n with
  | zero => rfl
  | succ n ih => rw [List.replicate_succ, val, ih]; rfl

theorem limbs_length (n k : Nat) (h : n < 4294967296 ^ k) : (limbs n).length ≤ k := by
  induction k generalizing n with
  | zero =>
    have : n = 0 := by simpa using h
    subst this; rw [limbs_zero]; simp
  | succ k ih =>
    by_cases h0 : n = 0
    · subst h0; rw [limbs_zero]; simp
    · rw [limbs_pos h0, List.length_cons]
      have := ih (n / 4294967296) (by rw [Nat.pow_succ] at h; omega)
      omega

/-- What 'trim' leaves: the list without zeros at its end. -/
def trimL (xs : List Int) : List Int := limbs (val xs)

theorem trimL_eq_take {xs : List Int} (h : Ok xs) (n : Nat) (hn : n ≤ xs.length) (hz : ∀ i, n ≤ i → xs.getD i 0 = 0) (hl : n = 0 ∨ xs.getD (n - 1) 0 ≠ 0) : limbs (val xs) = xs.take n := by
  have e : xs = xs.take n ++ List.replicate (xs.length - n) 0 := by
    apply List.ext_getElem
    · simp; omega
    · intro i h1 h2
      by_cases hi : i < n
      · rw [List.getElem_append_left (by simp; omega)]; simp
      · rw [List.getElem_append_right (by simp; omega)]
        have := hz i (by omega)
        rw [List.getD, List.getElem?_eq_getElem h1] at this
        simpa using this
  have e2 : val xs = val (xs.take n) := by
    rw [e, val_append, val_zeros]
    simp [Nat.min_eq_left hn]
  rw [e2]
  refine limbs_val (h.take n) ?_
  intro hc
  rcases hl with h0 | h0
  · subst h0; simp at hc
  · apply h0
    have : n ≠ 0 := by intro e; subst e; simp at hc
    rw [List.getLast?_eq_getElem?] at hc
    simp only [List.length_take, Nat.min_eq_left hn] at hc
    rw [List.getElem?_take, if_pos (by omega)] at hc
    rw [List.getD, hc]
    rfl

theorem limbs_lt_of_length {m n : Nat} (h : (limbs m).length < (limbs n).length) : m < n := by
  have h1 := val_lt (limbs_ok m)
  rw [val_limbs] at h1
  by_cases hn : n < 4294967296 ^ (limbs m).length
  · have := limbs_length n _ hn
    omega
  · omega

theorem val_lt_at (L : List Int) : ∀ (M : List Int) (i : Nat), Ok L → Ok M → L.length = M.length → (∀ j, i < j → L.getD j 0 = M.getD j 0) → L.getD i 0 < M.getD i 0 → val L < val M := by
  induction L with
  | nil =>
    intro M i hL hM hl he hlt
    have : M = [] := List.eq_nil_of_length_eq_zero (by simpa using hl.symm)
    subst this
    simp at hlt
  | cons x L ih =>
    intro M i hL hM hl he hlt
    cases M with
    | nil => simp at hl
    | cons y M =>
      have hx := hL.head
      have hy := hM.head
      rw [val, val]
      cases i with
      | zero =>
        have e : L = M := by
          apply List.ext_getElem
          · simpa using hl
          · intro j h1 h2
            have := he (j + 1) (by omega)
            simpa [List.getD, h1, h2] using this
        rw [e]
        simp at hlt
        omega
      | succ i =>
        have := ih M i hL.tail hM.tail (by simpa using hl) (fun j hj => by simpa using he (j + 1) (by omega)) (by simpa using hlt)
        omega

theorem list_eq_of {L M : List Int} (hl : L.length = M.length) (he : ∀ j, L.getD j 0 = M.getD j 0) : L = M := by
  apply List.ext_getElem hl
  intro j h1 h2
  have := he j
  simpa [List.getD, h1, h2] using this

/-- How two integers are ordered. -/
def cmpI (x y : Int) : Int := if x < y then -1 else if y < x then 1 else 0

theorem cmpI_len {m n : Nat} (h : (limbs m).length ≠ (limbs n).length) : cmpI ((limbs m).length : Int) ((limbs n).length : Int) = cmpI (m : Int) (n : Int) := by
  unfold cmpI
  by_cases hl : (limbs m).length < (limbs n).length
  · have := limbs_lt_of_length hl
    rw [if_pos (by omega), if_pos (by omega)]
  · have := limbs_lt_of_length (show (limbs n).length < (limbs m).length by omega)
    rw [if_neg (by omega), if_pos (by omega), if_neg (by omega), if_pos (by omega)]

theorem cmpI_at {L M : List Int} {i : Nat} (hL : Ok L) (hM : Ok M) (hl : L.length = M.length) (he : ∀ j, i < j → L.getD j 0 = M.getD j 0) (hne : L.getD i 0 ≠ M.getD i 0) : cmpI (L.getD i 0) (M.getD i 0) = cmpI (val L : Int) (val M : Int) := by
  unfold cmpI
  by_cases hlt : L.getD i 0 < M.getD i 0
  · have := val_lt_at L M i hL hM hl he hlt
    rw [if_pos hlt, if_pos (by omega)]
  · have := val_lt_at M L i hM hL hl.symm (fun j hj => (he j hj).symm) (by omega)
    rw [if_neg hlt, if_pos (by omega), if_neg (by omega), if_pos (by omega)]

theorem cmpI_self (x : Int) : cmpI x x = 0 := by unfold cmpI; rw [if_neg (by omega), if_neg (by omega)]

theorem limbs_take {xs : List Int} (h : Ok xs) : limbs (val xs) = xs.take (limbs (val xs)).length := by
  induction xs with
  | nil => rw [val, limbs_zero]; rfl
  | cons x xs ih =>
    by_cases h0 : val (x :: xs) = 0
    · rw [h0, limbs_zero]; rfl
    · have hx := h.head
      have i := ih h.tail
      rw [limbs_pos h0]
      rw [val] at h0 ⊢
      have e1 : (x.toNat + 4294967296 * val xs) % 4294967296 = x.toNat := by omega
      have e2 : (x.toNat + 4294967296 * val xs) / 4294967296 = val xs := by omega
      rw [e1, e2, List.length_cons, List.take_succ_cons, ← i]
      congr 1
      omega
theorem limbs_val_length {xs : List Int} (h : Ok xs) : (limbs (val xs)).length ≤ xs.length := limbs_length _ _ (val_lt h)

theorem val_set : ∀ (D : List Int) (i : Nat) (d : Int), i < D.length → val (D.set i d) + (D.getD i 0).toNat * 4294967296 ^ i = val D + d.toNat * 4294967296 ^ i := by
  intro D
  induction D with
  | nil => intro i d hi; simp at hi
  | cons x D ih =>
    intro i d hi
    cases i with
    | zero => simp [val]; omega
    | succ i =>
      have h := ih i d (by simpa using hi)
      rw [List.set_cons_succ, val, val, List.getD_cons_succ, Nat.pow_succ]
      generalize 4294967296 ^ i = P at h ⊢
      have e1 : (D.getD i 0).toNat * (P * 4294967296) = 4294967296 * ((D.getD i 0).toNat * P) := by rw [Nat.mul_comm P, ← Nat.mul_assoc, Nat.mul_comm _ 4294967296, Nat.mul_assoc]
      have e2 : d.toNat * (P * 4294967296) = 4294967296 * (d.toNat * P) := by rw [Nat.mul_comm P, ← Nat.mul_assoc, Nat.mul_comm _ 4294967296, Nat.mul_assoc]
      rw [e1, e2]
      omega

theorem val_take_succ (M : List Int) (i : Nat) : val (M.take (i + 1)) = val (M.take i) + (M.getD i 0).toNat * 4294967296 ^ i := by
  by_cases hi : i < M.length
  · rw [List.take_succ_eq_append_getElem hi, val_append, List.length_take, Nat.min_eq_left (by omega), show M.getD i 0 = M[i] by simp [List.getD, hi], Nat.mul_comm (M[i]).toNat]
    simp [val]
  · rw [List.take_of_length_le (by omega), List.take_of_length_le (by omega), List.getD, List.getElem?_eq_none (by omega)]
    simp

theorem Ok.set {D : List Int} (h : Ok D) (i : Nat) {d : Int} (h0 : 0 ≤ d) (h1 : d ≤ 4294967295) : Ok (D.set i d) := by
  intro y hy
  rcases List.mem_or_eq_of_mem_set hy with hy | rfl
  · exact h y hy
  · exact ⟨h0, h1⟩

/-- Behind i rounds of a subtraction: what has been subtracted, and what is borrowed. -/
structure SubInv (L M D : List Int) (r : Int) (i : Nat) : Prop where
  eq : val D + val (M.take i) = val L + r.toNat * 4294967296 ^ i
  len : D.length = L.length
  ok : Ok D
  r0 : 0 ≤ r
  r1 : r ≤ 1

theorem SubInv.start {L : List Int} (M : List Int) (h : Ok L) : SubInv L M L 0 0 := ⟨by simp [val], rfl, h, by omega, by omega⟩

theorem SubInv.step {L M D : List Int} {r : Int} {i : Nat} (h : SubInv L M D r i) (hM : Ok M) (hi : i < L.length) {x y : Int} (hx : x = D.getD i 0) (hy : y = M.getD i 0) {b : Int} (hb : b = if x < y + r then 1 else 0) :
    SubInv L M (D.set i ((x - y - r) % 4294967296)) b (i + 1) := by
  have hx1 := h.ok.getD i
  have hy1 := hM.getD i
  have r0 := h.r0
  have r1 := h.r1
  rw [← hx] at hx1
  rw [← hy] at hy1
  have hs := val_set D i ((x - y - r) % 4294967296) (by rw [h.len]; exact hi)
  have ht := val_take_succ M i
  have he := h.eq
  rw [← hx] at hs
  rw [← hy] at ht
  have hb01 : 0 ≤ b ∧ b ≤ 1 := by rw [hb]; split <;> omega
  have hk : ((x - y - r) % 4294967296).toNat + y.toNat + r.toNat = x.toNat + b.toNat * 4294967296 := by
    rw [hb]; split <;> omega
  refine ⟨?_, by simpa using h.len, h.ok.set i (by omega) (by omega), hb01.1, hb01.2⟩
  rw [ht, Nat.pow_succ]
  generalize 4294967296 ^ i = P at hs he ⊢
  have hk2 := congrArg (· * P) hk
  simp only [Nat.add_mul] at hk2
  have e : b.toNat * (P * 4294967296) = b.toNat * 4294967296 * P := by rw [Nat.mul_comm P, Nat.mul_assoc]
  rw [e]
  omega

theorem SubInv.more {L M D : List Int} {r : Int} {i : Nat} (h : SubInv L M D r i) (hM : M.length ≤ i) (hle : val M ≤ val L) (hi : i ≤ L.length) (hr : r ≠ 0) : i < L.length := by
  have he := h.eq
  have r0 := h.r0
  have r1 := h.r1
  rw [List.take_of_length_le hM] at he
  rcases Nat.lt_or_ge i L.length with h1 | h1
  · exact h1
  · have : i = L.length := by omega
    subst this
    have hl := val_lt h.ok
    rw [h.len] at hl
    have : r.toNat = 1 := by omega
    rw [this] at he
    omega

theorem SubInv.done {L M D : List Int} {i : Nat} (h : SubInv L M D 0 i) (hM : M.length ≤ i) : val D = val L - val M := by
  have he := h.eq
  rw [List.take_of_length_le hM] at he
  simp at he
  omega

/-- Behind the limbs from j on of a division by a word. -/
structure DivInv (L D : List Int) (W r : Nat) (j : Nat) : Prop where
  eq : val (D.drop j) * W + r = val (L.drop j)
  low : ∀ i, i < j → D.getD i 0 = L.getD i 0
  len : D.length = L.length
  ok : Ok D
  lt : r < W

theorem DivInv.start {L : List Int} (h : Ok L) {W : Nat} (hW : 0 < W) {n : Nat} (hn : L.length ≤ n) : DivInv L L W 0 n := ⟨by rw [List.drop_of_length_le hn]; simp [val], fun _ _ => rfl, rfl, h, hW⟩

theorem drop_set_self {D : List Int} {i : Nat} (hi : i < D.length) (q : Int) : (D.set i q).drop i = q :: D.drop (i + 1) := by
  rw [List.drop_eq_getElem_cons (by simpa using hi), List.drop_set_of_lt (by omega)]
  simp
theorem drop_getD {D : List Int} {i : Nat} (hi : i < D.length) : D.drop i = D.getD i 0 :: D.drop (i + 1) := by
  rw [List.drop_eq_getElem_cons hi]
  simp [List.getD, hi]

theorem DivInv.step {L D : List Int} {W r j : Nat} (h : DivInv L D W r j) (hj : 0 < j) (hjl : j ≤ L.length) {x : Int} (hx : x = D.getD (j - 1) 0) (hW : W ≤ 4294967295) :
    DivInv L (D.set (j - 1) (((r : Int) * 4294967296 + x) / (W : Int))) W (((r : Int) * 4294967296 + x) % (W : Int)).toNat (j - 1) := by
  obtain ⟨i, rfl⟩ : ∃ i, j = i + 1 := ⟨j - 1, by omega⟩
  simp only [Nat.add_sub_cancel] at hx ⊢
  have hx1 := h.ok.getD i
  rw [← hx] at hx1
  have he := h.eq
  have hlt := h.lt
  have hxl : L.getD i 0 = x := by rw [hx]; exact (h.low i (by omega)).symm
  obtain ⟨X, rfl⟩ := Int.eq_ofNat_of_zero_le hx1.1
  have e1 : ((r : Int) * 4294967296 + (X : Int)) / (W : Int) = ((r * 4294967296 + X) / W : Nat) := by simp
  have e2 : ((r : Int) * 4294967296 + (X : Int)) % (W : Int) = ((r * 4294967296 + X) % W : Nat) := by simp
  rw [e1, e2, Int.toNat_natCast]
  have hq : (r * 4294967296 + X) / W < 4294967296 := by
    rw [Nat.div_lt_iff_lt_mul (by omega)]
    have h5 := Nat.mul_le_mul_right 4294967296 (show r + 1 ≤ W by omega)
    omega
  have hdm := Nat.div_add_mod (r * 4294967296 + X) W
  have hml := Nat.mod_lt (r * 4294967296 + X) (show 0 < W by omega)
  generalize (r * 4294967296 + X) / W = q at *
  generalize (r * 4294967296 + X) % W = r2 at *
  refine ⟨?_, fun t ht => ?_, by simpa using h.len, h.ok.set i (by omega) (by omega), hml⟩
  · rw [drop_set_self (by rw [h.len]; omega), drop_getD (D := L) (by omega), val, val, hxl, ← he, Nat.add_mul, Nat.mul_comm _ W]
    simp only [Int.toNat_natCast]
    rw [Nat.mul_assoc, Nat.mul_add]
    omega
  · rw [← h.low t (by omega)]
    simp [List.getD, show i ≠ t by omega]

theorem DivInv.done {L D : List Int} {W r : Nat} (h : DivInv L D W r 0) : val D = val L / W ∧ r = val L % W := by
  have he := h.eq
  have hlt := h.lt
  simp only [List.drop_zero] at he
  rw [← he]
  constructor
  · rw [Nat.mul_comm, Nat.mul_add_div (by omega), Nat.div_eq_of_lt hlt]; omega
  · rw [Nat.mul_comm, Nat.mul_add_mod, Nat.mod_eq_of_lt hlt]

theorem limbs_len_ge {m k : Nat} (h : 4294967296 ^ k ≤ m) : k < (limbs m).length := by
  have h1 := val_lt (limbs_ok m)
  rw [val_limbs] at h1
  have h2 : 4294967296 ^ k < 4294967296 ^ (limbs m).length := by omega
  exact (Nat.pow_lt_pow_iff_right (by omega)).1 h2
theorem limbs_len_mono {a b : Nat} (h : a ≤ b) : (limbs a).length ≤ (limbs b).length := by
  rcases Nat.lt_or_ge (limbs b).length (limbs a).length with h1 | h1
  · have := limbs_lt_of_length h1
    omega
  · exact h1
theorem limbs_of_length {ys : List Int} (h : Ok ys) (hl : ys.length ≤ (limbs (val ys)).length) : limbs (val ys) = ys := by
  rw [limbs_take h, List.take_of_length_le hl]

theorem getD_set_self {D : List Int} {i : Nat} {d : Int} (h : i < D.length) : (D.set i d).getD i 0 = d := by simp [List.getD, h]
theorem getD_set_ne {D : List Int} {i j : Nat} {d : Int} (h : i ≠ j) : (D.set i d).getD j 0 = D.getD j 0 := by simp [List.getD, h]
theorem take_set_le {D : List Int} {i : Nat} {d : Int} : (D.set i d).take i = D.take i := List.take_set_of_le (Nat.le_refl _)
theorem val_take_set {D : List Int} {i : Nat} {d : Int} (h : i < D.length) : val ((D.set i d).take (i + 1)) = val (D.take i) + d.toNat * 4294967296 ^ i := by
  rw [val_take_succ, take_set_le, getD_set_self h]

/-- Behind j rounds of a multiplication by a word. -/
structure MulInv (xs D : List Int) (f ad cy j : Nat) : Prop where
  eq : val (D.take j) + cy * 4294967296 ^ j = val (xs.take j) * f + ad
  high : ∀ t, j ≤ t → D.getD t 0 = xs.getD t 0
  len : D.length = xs.length
  ok : Ok D
  cy1 : cy ≤ 4294967295

theorem MulInv.start {xs : List Int} (h : Ok xs) (f : Nat) {ad : Nat} (ha : ad ≤ 4294967295) : MulInv xs xs f ad ad 0 := ⟨by simp [val], fun _ _ => rfl, rfl, h, ha⟩

theorem mul_bound {X f cy : Nat} (hX : X ≤ 4294967295) (hf : f ≤ 4294967295) (hc : cy ≤ 4294967295) : X * f ≤ 18446744065119617025 ∧ (cy + X * f) / 4294967296 ≤ 4294967295 := by
  have h1 := Nat.mul_le_mul hX hf
  constructor <;> omega

theorem MulInv.step {xs D : List Int} {f ad cy j : Nat} (h : MulInv xs D f ad cy j) (hj : j < xs.length) {X : Nat} (hx : (X : Int) = D.getD j 0) (hf : f ≤ 4294967295) :
    MulInv xs (D.set j (((cy + X * f) % 4294967296 : Nat) : Int)) f ad ((cy + X * f) / 4294967296) (j + 1) := by
  have hX := h.ok.getD j
  rw [← hx] at hX
  have hb := mul_bound (show X ≤ 4294967295 by omega) hf h.cy1
  refine ⟨?_, fun t ht => ?_, by simpa using h.len, h.ok.set j (by omega) (by omega), hb.2⟩
  · have hxs : (xs.getD j 0).toNat = X := by rw [← h.high j (Nat.le_refl _), ← hx]; omega
    have he := h.eq
    rw [val_take_set (by rw [h.len]; exact hj), val_take_succ xs, hxs, Int.toNat_natCast, Nat.pow_succ]
    generalize 4294967296 ^ j = P at he ⊢
    have hdm := Nat.div_add_mod (cy + X * f) 4294967296
    generalize (cy + X * f) / 4294967296 = q at hdm ⊢
    generalize (cy + X * f) % 4294967296 = r at hdm ⊢
    have h2 := congrArg (· * P) hdm
    simp only [Nat.add_mul] at h2 ⊢
    have e1 : q * (P * 4294967296) = 4294967296 * q * P := by rw [Nat.mul_comm P, ← Nat.mul_assoc, Nat.mul_comm q]
    have e2 : X * P * f = X * f * P := by rw [Nat.mul_assoc, Nat.mul_comm P, ← Nat.mul_assoc]
    rw [e1, e2]
    omega
  · rw [getD_set_ne (by omega)]
    exact h.high t (by omega)

theorem MulInv.done0 {xs D : List Int} {f ad : Nat} (h : MulInv xs D f ad 0 xs.length) : val D = val xs * f + ad := by
  have := h.eq
  rw [List.take_of_length_le (by rw [h.len]; exact Nat.le_refl _), List.take_of_length_le (Nat.le_refl _)] at this
  omega
theorem MulInv.done1 {xs D : List Int} {f ad cy : Nat} (h : MulInv xs D f ad cy xs.length) : val (D ++ [(cy : Int)]) = val xs * f + ad := by
  have := h.eq
  rw [List.take_of_length_le (by rw [h.len]; exact Nat.le_refl _), List.take_of_length_le (Nat.le_refl _)] at this
  rw [val_append, h.len, ← this]
  simp [val, Nat.mul_comm]
/-- The product in normal form. -/
theorem MulInv.fin0 {v : Nat} {D : List Int} {f ad : Nat} (h : MulInv (limbs v) D f ad 0 (limbs v).length) (hf : 0 < f) : limbs (v * f + ad) = D := by
  have hv := h.done0
  rw [val_limbs] at hv
  rw [← hv]
  refine limbs_of_length h.ok ?_
  rw [h.len]
  refine limbs_len_mono ?_
  rw [hv]
  have := Nat.le_mul_of_pos_right v hf
  omega
theorem MulInv.fin1 {v : Nat} {D : List Int} {f ad cy : Nat} (h : MulInv (limbs v) D f ad cy (limbs v).length) (hc : cy ≠ 0) : limbs (v * f + ad) = D ++ [(cy : Int)] := by
  have hv := h.done1
  rw [val_limbs] at hv
  rw [← hv]
  have hc1 := h.cy1
  refine limbs_of_length (h.ok.append (Ok.cons (by omega) (by omega) Ok.nil)) ?_
  rw [List.length_append, List.length_singleton, h.len]
  refine limbs_len_ge ?_
  rw [val_append, h.len]
  simp only [val, Int.toNat_natCast]
  generalize 4294967296 ^ (limbs v).length = P
  have := Nat.le_mul_of_pos_right P (show 0 < cy + 4294967296 * 0 by omega)
  omega
end Go.Proofs.YtmojcnlddfijjaaDoor.NatMath
