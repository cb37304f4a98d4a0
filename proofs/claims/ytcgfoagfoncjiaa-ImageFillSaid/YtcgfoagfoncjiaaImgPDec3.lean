/-
  The program's Decode.
-/
import Derived.Test.YtcgfoagfoncjiaaImgPDec2
import Derived.Test.YtcgfoagfoncjiaaImgReg
namespace Go.Proofs.Ytcgfoagfoncjiaa
open Go.RowKit Im

theorem join_two (x y : Nat) (hx : x ≤ 255) (hy : y ≤ 255) : bits BinOp.or IntKind.i64 ((x : Int) * 256) (y : Int) = ((x * 256 + y : Nat) : Int) := by
  rw [bits_join .i64 16 (by decide) (fun n h0 h1 => by rw [IntKind.wrap_i64]; omega) 8 _ _ (by omega) (by omega) (by omega) (by omega) (by omega) (by omega)]
  omega
theorem intsN_get (b : List Nat) (i : Nat) : ((intsN b).getD i 0).toNat = b.getD i 0 := by
  unfold intsN
  rw [List.getD_eq_getElem?_getD, List.getElem?_map, List.getD_eq_getElem?_getD]
  cases b[i]? <;> rfl
/-- The side that two bytes say. -/
def sideL (b : List Nat) : Nat := b.getD 0 0 * 256 + b.getD 1 0
/-- What New left in an image: its parts, and the bytes behind. -/
def NewR (B : Nat) (x y : Int) (X Y Sv : Value) (eno : Int) (w : World) : Prop :=
  (∃ v u m gc : Nat, x = v ∧ y = u ∧ 1 ≤ v ∧ v ≤ 512 ∧ 1 ≤ u ∧ u ≤ 512 ∧ m = (v * u + 7) / 8 ∧ X = .int .i64 (v : Int) ∧ Y = .int .i64 (u : Int) ∧ Sv = .slice (some ⟨gc, 0, none⟩) m m ∧ eno = 0 ∧ Own 5 .u8 B w (some ⟨gc, 0, none⟩) m m (packP noB m)) ∨
  (¬ (1 ≤ x ∧ x ≤ 512 ∧ 1 ≤ y ∧ y ≤ 512) ∧ X = .int .i64 0 ∧ Y = .int .i64 0 ∧ Sv = .slice none 0 0 ∧ eno = 4)
/-- Block g is none of an image's bytes. -/
def NeG (g : Nat) (Sv : Value) : Prop := ∀ gc m : Nat, Sv = .slice (some ⟨gc, 0, none⟩) m m → gc ≠ g
theorem newR_of {B : Nat} {x y : Int} {e : Ending} {w : World} (h : NewOut B x y e w) : ∃ X Y Sv eno, e = .returned (.tuple #[.agg #[X, Y, Sv], .int .i64 eno]) ∧ NewR B x y X Y Sv eno w ∧ ∀ v ∈ [X, Y, Sv], v.oneCell' = true := by
  rcases h with ⟨v, u, m, gc, h1, h2, h3, h4, h5, h6, h7, rfl, O⟩ | ⟨h1, rfl⟩
  · exact ⟨_, _, _, _, rfl, Or.inl ⟨v, u, m, gc, h1, h2, h3, h4, h5, h6, h7, rfl, rfl, rfl, rfl, O⟩, by intro v hv; simp at hv; rcases hv with rfl | rfl | rfl <;> rfl⟩
  · exact ⟨_, _, _, _, rfl, Or.inr ⟨h1, rfl, rfl, rfl, rfl⟩, by intro v hv; simp at hv; rcases hv with rfl | rfl <;> rfl⟩
section
variable {B : Nat} {x y : Int} {X Y Sv : Value} {eno : Int} {w w' : World} {g : Nat}
theorem NewR.kept (h : NewR B x y X Y Sv eno w) (k : Below w.heap.size w w') : NewR B x y X Y Sv eno w' := by
  rcases h with ⟨v, u, m, gc, h1, h2, h3, h4, h5, h6, h7, h8, h9, ha, hb, O⟩ | h
  · exact Or.inl ⟨v, u, m, gc, h1, h2, h3, h4, h5, h6, h7, h8, h9, ha, hb, O.kept k⟩
  · exact Or.inr h
theorem NewR.mono {B' : Nat} (h : NewR B x y X Y Sv eno w) (k : B' ≤ B) : NewR B' x y X Y Sv eno w := by
  rcases h with ⟨v, u, m, gc, h1, h2, h3, h4, h5, h6, h7, h8, h9, ha, hb, O⟩ | h
  · exact Or.inl ⟨v, u, m, gc, h1, h2, h3, h4, h5, h6, h7, h8, h9, ha, hb, ⟨O.1.mono k, O.2⟩⟩
  · exact Or.inr h
theorem NewR.ne_lo (h : NewR B x y X Y Sv eno w) (hg : g < B) : NeG g Sv := by
  intro gc m e
  rcases h with ⟨v, u, m', gc', h1, h2, h3, h4, h5, h6, h7, h8, h9, ha, hb, O⟩ | ⟨_, _, _, ha, _⟩
  · rw [ha] at e
    injection e with e _ _
    injection e with e
    injection e with e
    have := (World.ownsRow.lt O.1 gc' rfl).1
    omega
  · rw [ha] at e
    injection e with e _ _
    cases e
theorem NewR.ne_hi (h : NewR B x y X Y Sv eno w) (hg : w.heap.size ≤ g) : NeG g Sv := by
  intro gc m e
  rcases h with ⟨v, u, m', gc', h1, h2, h3, h4, h5, h6, h7, h8, h9, ha, hb, O⟩ | ⟨_, _, _, ha, _⟩
  · rw [ha] at e
    injection e with e _ _
    injection e with e
    injection e with e
    have := (World.ownsRow.lt O.1 gc' rfl).2
    omega
  · rw [ha] at e
    injection e with e _ _
    cases e
theorem NewR.grown (h : NewR B x y X Y Sv eno w) (k : w.grownBy w' (some g)) (hne : NeG g Sv) : NewR B x y X Y Sv eno w' := by
  rcases h with ⟨v, u, m, gc, h1, h2, h3, h4, h5, h6, h7, h8, h9, ha, hb, O⟩ | h
  · refine Or.inl ⟨v, u, m, gc, h1, h2, h3, h4, h5, h6, h7, h8, h9, ha, hb, ⟨O.1.kept k (Or.inr (fun e => ?_)), O.2⟩⟩
    have := hne gc m ha
    injection e with e
    exact this e
  · exact Or.inr h
end
/-- No image has this encoding. -/
def NoImg (b : List Nat) : Prop := ∀ (v u : Nat) (bs : List Int), OkI v u bs → (∀ x ∈ bs, 0 ≤ x ∧ x ≤ 255) → encP v u (bitL bs) ≠ b
/-- What an encoding begins with. -/
theorem enc_head {v u : Nat} {f : Nat → Bool} {b : List Nat} (hv : v ≤ 512) (hu : u ≤ 512) (h : encP v u f = b) : sideL b = v ∧ sideL (b.drop 2) = u ∧ b.drop 4 = encR (bitsFrom f 0 (v * u)) 0 false ∧ 4 ≤ b.length := by
  obtain ⟨R, hR⟩ : ∃ R, encR (bitsFrom f 0 (v * u)) 0 false = R := ⟨_, rfl⟩
  have e : b = (v / 256 % 256) :: (v % 256) :: (u / 256 % 256) :: (u % 256) :: encR (bitsFrom f 0 (v * u)) 0 false := h.symm
  rw [hR] at e ⊢
  clear h hR
  subst e
  refine ⟨?_, ?_, rfl, by simp only [List.length_cons]; omega⟩
  · show v / 256 % 256 * 256 + v % 256 = v
    omega
  · show u / 256 % 256 * 256 + u % 256 = u
    omega
theorem enc_of {v u : Nat} {f : Nat → Bool} {b : List Nat} (hv : v ≤ 512) (hu : u ≤ 512) (h4 : 4 ≤ b.length) (hb : ∀ x ∈ b, x ≤ 255) (h1 : sideL b = v) (h2 : sideL (b.drop 2) = u) (h3 : encR (bitsFrom f 0 (v * u)) 0 false = b.drop 4) : encP v u f = b := by
  obtain ⟨b0, b1, b2, b3, r, rfl⟩ : ∃ b0 b1 b2 b3 r, b = b0 :: b1 :: b2 :: b3 :: r := by
    rcases b with _ | ⟨b0, _ | ⟨b1, _ | ⟨b2, _ | ⟨b3, r⟩⟩⟩⟩
    · simp at h4
    · simp at h4
    · simp at h4
    · simp at h4
    · exact ⟨b0, b1, b2, b3, r, rfl⟩
  have q0 := hb b0 (by simp)
  have q1 := hb b1 (by simp)
  have q2 := hb b2 (by simp)
  have q3 := hb b3 (by simp)
  have h1 : b0 * 256 + b1 = v := h1
  have h2 : b2 * 256 + b3 = u := h2
  have h3 : encR (bitsFrom f 0 (v * u)) 0 false = r := h3
  unfold encP two
  rw [h3]
  clear hb h4 h3
  have e1 : v / 256 % 256 = b0 := by omega
  have e2 : v % 256 = b1 := by omega
  have e3 : u / 256 % 256 = b2 := by omega
  have e4 : u % 256 = b3 := by omega
  rw [e1, e2, e3, e4]
  rfl
/-- What Decode hands back. -/
def DecOut (B : Nat) (w' : World) (b : List Nat) (e : Ending) : Prop :=
  (∃ (v u : Nat) (bs : List Int) (gc m d : Nat), e = .returned (.tuple #[.agg #[.int .i64 (v : Int), .int .i64 (u : Int), .slice (some ⟨gc, 0, none⟩) m d], .bool true]) ∧ OkI v u bs ∧ (∀ x ∈ bs, 0 ≤ x ∧ x ≤ 255) ∧ encP v u (bitL bs) = b ∧ Own 5 .u8 B w' (some ⟨gc, 0, none⟩) m d bs) ∨
  (e = .returned (.tuple #[.agg #[.int .i64 0, .int .i64 0, .slice none 0 0], .bool false]) ∧ NoImg b)
end Go.Proofs.Ytcgfoagfoncjiaa
