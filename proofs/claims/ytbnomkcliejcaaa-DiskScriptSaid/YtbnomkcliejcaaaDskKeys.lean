/-
  slices.Sorted(maps.Keys(m)) of the map of the dirty sectors: their numbers in ascending order.
-/
import Derived.Test.YtbnomkcliejcaaaDskBase
import Derived.Deep.Onto
import Derived.Test.YtbnomkcliejcaaaShelf
namespace Go.Proofs.Ytbnomkcliejcaaa
open Go.RowKit Go.Maps Go.Sort Go.Shelf Ds

theorem sorts_c (k : Nat) : AnyZI.SortsIn Try.prog Try.laysSorted_ren Fence.wide k :=
  ⟨fun blk off cap ss W hH hblk hsz => callsIn_wide.2 (AnyM.slices_Sort_int Try.laysSort blk off cap ss W hH hblk hsz),
   fun p cap W => callsIn_wide.2 (AnyM.slices_Sort_int_none Try.laysSort p cap W)⟩
theorem keys_c (m : Nat) (w : World) : Calls Try.prog 33 #[.map (some m)] w fun e w' =>
    e = .returned (.func (.func 37) #[] #[.pointer (some ⟨w.heap.size, 0, none⟩)]) ∧ w' = w.alloc (.cells #[.map (some m)] 58) :=
  (callsIn_wide (n := 5)).1 (AnyZI.keys_in Try.laysKeys Fence.wide 5 trivial rfl (some m) w)
set_option maxHeartbeats 1000000 in
theorem sorted_c {w : World} {m : Nat} {old : List (Option Sec)} (h : MapD w m old) (hl : old.length ≤ 4096) :
    Calls Try.prog 32 #[.func (.func 37) #[] #[.pointer (some ⟨w.heap.size, 0, none⟩)]] (w.alloc (.cells #[.map (some m)] 58)) fun e w' =>
      ∃ ao c, e = .returned (.slice ao (dirt old) c) ∧ Own 3 .i64 w.heap.size w' ao (dirt old) c ((dirtN 0 old).map Int.ofNat) ∧ Below w.heap.size w w' := by
  obtain ⟨D, hown, hh, ha⟩ := h
  have hsz := size_dirt hown hh
  have hle := dirtN_le old 0
  have hd : dirt old ≤ 4096 := by unfold dirt; omega
  have hbl := hown.lt
  have hseq : SeqGives Fence.wide 2 Try.prog 37 #[.pointer (some ⟨w.heap.size, 0, none⟩)] encZ (fun ss => ss.Perm (intKeys D)) (Maps.size D) (w.alloc (.cells #[.map (some m)] 58)) :=
    AnyZI.keys_gives (ρ := Try.laysKeys_ren) { Try.laysKeys with } Fence.wide _ trivial rfl (by omega) w.heap.size m (Maps.size D) D _ (by simp) (by simp) (by
      obtain ⟨es, clock, hb, Ft, hs, hD⟩ := hown
      exact ⟨es, clock, (Below.heap_alloc _ _ m hbl).trans hb, Ft, hs, hD⟩)
  have cS := AnyZI.sorted_in Try.laysSorted Fence.wide 5 trivial trivial trivial trivial rfl (by omega) (sorts_c _) (enters_of Try.func36 (by kernel_rfl) rfl) 37 #[.pointer (some ⟨w.heap.size, 0, none⟩)] trivial (enters_of Try.func37 (by kernel_rfl) rfl) _ _ (by rw [hsz]; unfold maxLen; omega) (by rw [hsz]; omega) _ hseq
  refine ((callsIn_wide (n := 5)).1 cS).mono ?_
  rintro e w' ⟨v, ss, rfl, hS, hrow, hnil, hb⟩
  have hp := (keys_perm hown hh).trans hS.symm
  have hss : ss.length = dirt old := by rw [← hp.length_eq]; simp [dirt]
  rw [sorted_dirt hp, hss] at hrow
  have b1 : Below w.heap.size w (w.alloc (.cells #[.map (some m)] 58)) := (Below.refl _ _).alloc (Nat.le_refl _) _
  have hrow' : w'.ownsRow w.heap.size 3 1 v (dirt old) (((dirtN 0 old).map Int.ofNat).map (Value.int .i64)) := World.ownsRow.mono hrow b1.size
  obtain ⟨ao, c, rfl⟩ := own_shape hrow'
  refine ⟨ao, c, rfl, ⟨hrow', fun x hx => ?_⟩, b1.trans (hb.mono b1.size)⟩
  obtain ⟨i, hi, rfl⟩ := List.mem_map.1 hx
  obtain ⟨j, o, rfl, hj⟩ := (mem_dirtN old 0 i).1 hi
  have := (List.getElem?_eq_some_iff.1 hj).1
  simp [Lit.wf, IntKind.min, IntKind.max, IntKind.signed, IntKind.bits]
  omega
end Go.Proofs.Ytbnomkcliejcaaa
