/-
  RandomPerm: Order returns every number from 0 to n - 1 exactly once.
  Conditions: none beside those of the row (the listed package variables start as the program lays them; the card ties that to the text).
-/
import Derived.Test.YtgomconcfjllcaaDoorCards
import Derived.Test.YtgomconcfjllcaaDoorTie
import Derived.ProofKit
import Derived.OpenShut
import Derived.Deep.DeepHandedRow
import Derived.Lib.LaidTab
import Derived.Lib.LaidU8
import Derived.Test.YtgomconcfjllcaaDoorDigView
import Derived.Test.YtgomconcfjllcaaDoorRndPermLaw
namespace Go.Proofs.YtgomconcfjllcaaDoor.randomPerm
open Go.ChangeShapes Go.WideShapes Go.ChangeAt Go.RowKit
open Go.ChangeMaps (open_string shut_string)

theorem own : ownKnob Tryd.prog.godebug = none := by kernel_rfl
theorem laidOut : laidOutB Tryd.prog = true := by kernel_rfl
theorem cellsArr : Tryd.prog.cellsOf 67 = 64 := by kernel_rfl
theorem cellsElem : Tryd.prog.cellsOf 58 = 1 := by kernel_rfl
theorem g_digest : Tryd.prog.globalNamed "election/digest.roundConstants" = some 1 := by kernel_rfl
theorem gt_digest : (Tryd.prog.globals[1]?).map (·.type) = some 67 := by kernel_rfl
/-- What the row lists gives: the round constants. -/
theorem table_digest {W : World} (h : laidMetH Tryd.prog Rows.randomPermRow.laid W) : KTab 1 W := by
  have hm : laidMet Tryd.prog Rows.randomPermRow.laid W := h
  obtain ⟨g', t', cs, fuel, p, hg', ht', hvar, hd⟩ := Lib.laidMet.reads hm (n := "election/digest.roundConstants") (d := Rows.laid_election_digest_roundConstants) (by simp [Rows.randomPermRow])
  obtain rfl := Option.some.inj (g_digest.symm.trans hg')
  obtain rfl := Option.some.inj (gt_digest.symm.trans ht')
  have e : (Rows.laid_election_digest_roundConstants : DataW Unit) = Lib.tabData .u32 (Dig.kTab.map fun x : Nat => (x : Int)) := by kernel_rfl
  rw [e] at hd
  have ht : Lib.TabIs Tryd.prog W "election/digest.roundConstants" .u32 (Dig.kTab.map fun x : Nat => (x : Int)) := by
    unfold Lib.TabIs
    rw [hvar, ← Lib.cells_of_tab Tryd.underlying67 Tryd.underlying58 cellsElem cellsArr hd]
  intro i hi
  have := ht.cell g_digest i (by simpa [Dig.kTab] using hi)
  rw [this, map_cast]

theorem g_ref : Tryd.prog.globalNamed "election/electionref04.k" = some 0 := by kernel_rfl
theorem gt_ref : (Tryd.prog.globals[0]?).map (·.type) = some 67 := by kernel_rfl
/-- What the row lists gives: the round constants. -/
theorem table_ref {W : World} (h : laidMetH Tryd.prog Rows.randomPermRow.laid W) : KTab 0 W := by
  have hm : laidMet Tryd.prog Rows.randomPermRow.laid W := h
  obtain ⟨g', t', cs, fuel, p, hg', ht', hvar, hd⟩ := Lib.laidMet.reads hm (n := "election/electionref04.k") (d := Rows.laid_election_electionref04_k) (by simp [Rows.randomPermRow])
  obtain rfl := Option.some.inj (g_ref.symm.trans hg')
  obtain rfl := Option.some.inj (gt_ref.symm.trans ht')
  have e : (Rows.laid_election_electionref04_k : DataW Unit) = Lib.tabData .u32 (Dig.kTab.map fun x : Nat => (x : Int)) := by kernel_rfl
  rw [e] at hd
  have ht : Lib.TabIs Tryd.prog W "election/electionref04.k" .u32 (Dig.kTab.map fun x : Nat => (x : Int)) := by
    unfold Lib.TabIs
    rw [hvar, ← Lib.cells_of_tab Tryd.underlying67 Tryd.underlying58 cellsElem cellsArr hd]
  intro i hi
  have := ht.cell g_ref i (by simpa [Dig.kTab] using hi)
  rw [this, map_cast]

set_option maxHeartbeats 800000 in
set_option maxRecDepth 100000 in
theorem contract (H : Type) (enc : TypeId × Value → H) (W : World) (base : Nat) (args : Array Value) (ds gs : List (DataW H)) (before : List MemPlace)
    (hval : ∀ (j : Nat) t v, Tryd.f4.params[j]? = some t → args[j]? = some v → Value.okWide Tryd.prog W .any base t v)
    (hW : DataW.Whole enc Tryd.prog Tryd.f4.params.toList Rows.randomPermSpec.vars false W args.toList ds gs before) (hL : laidMetH Tryd.prog Rows.randomPermRow.laid W) :
    Calls Tryd.prog 4 args W fun e W' => ∃ v, e = .returned v ∧ Rows.randomPermSpec.post enc Tryd.prog Tryd.f4 false true false false W args v W' := by
  have hW' := hW
  obtain ⟨p, q, hA0, hV, rfl, _, _⟩ := hW
  have hA : DataW.TrodAll enc Tryd.prog W 0 (fun _ => true) true Tryd.f4.params.toList args.toList ds p := hA0
  rw [Tryd.params4] at hA hval
  obtain ⟨v0, vs0, d0, ds0, p0, q0, hargs, rfl, rfl, h0, r0⟩ := trodAll_cons hA
  obtain ⟨v1, vs1, d1, ds1, p1, q1, rfl, rfl, rfl, h1, r1⟩ := trodAll_cons r0
  obtain ⟨rfl, rfl, rfl⟩ := trodAll_nil r1
  obtain rfl : args = #[v0, v1] := by cases args; simp_all
  obtain ⟨rfl, rfl⟩ := trodVars_none hV
  clear hA0 hA r0 r1
  have k0 := h0
  have k1 := h1
  simp only [List.append_nil] at hW'
  have hlt : ∀ x ∈ p0 ++ p1, x.block < W.heap.size := fun x hx => by simpa using hW'.lt x (by simpa using hx)
  have htab_digest := table_digest hL
  have htab_ref := table_ref hL
  obtain ⟨s0, rfl, rfl, rfl, m0⟩ := open_string Tryd.underlying9 (hval 0 9 v0 rfl rfl) h0
  obtain ⟨x1, rfl, rfl, rfl, _⟩ := open_int Tryd.underlying3 (hval 1 3 v1 rfl rfl) h1
  refine (permLaw_c s0 x1 W m0 htab_digest htab_ref).mono fun e W' ⟨he, hb⟩ => ?_
  subst he
  refine ⟨_, rfl, _, _, _, _, _, [], hW', trodAll_cons_mk (shut_bool Tryd.underlying4 _) trodAll_mk0, (trodAll_cons_mk (Below.trod laidOut (by kernel_rfl) (of_decide_eq_true (by kernel_rfl)) k0 hb (fun x hx => by cases hx)) (trodAll_cons_mk (Below.trod laidOut (by kernel_rfl) (of_decide_eq_true (by kernel_rfl)) k1 hb (fun x hx => by cases hx)) trodAll_mk0)), rfl, hb.frame _, fun h => by cases h⟩

/-- The cells of a listed variable. -/
def aggCells : DataW Unit → Array Value
  | .agg ds => (ds.map fun d => match d with
    | .lit (.int k z) => Value.int k z
    | _ => undef).toArray
  | _ => #[]
/-- A world for the witness: the settled one, each listed variable holding what its initialiser lays. -/
def fillAt (cs : Array Value) (o : Obj) : Obj := match o with
  | .cells _ t frozen => .cells cs t frozen
  | o => o
noncomputable def laidWorld (os : Os) : World :=
  { World.holding Tryd.prog os ⟨#[], #[], []⟩ with heap := (((World.holding Tryd.prog os ⟨#[], #[], []⟩).heap.modify 1 (fillAt (aggCells Rows.laid_election_digest_roundConstants))).modify 0 (fillAt (aggCells Rows.laid_election_electionref04_k))) }
theorem laid_met (os : Os) : laidMet Tryd.prog Rows.randomPermRow.laid ((laidWorld os).forCall (fun _ _ => 0) ⟨#[], #[.string .empty, .int .i64 0], []⟩).memory :=
  laidMet_of_run' 8 (by kernel_rfl) (by kernel_rfl)
theorem reads (os : Os) {H : Type} (enc : TypeId × Value → H) : ∃ places, DataW.whole enc Tryd.prog ((laidWorld os).forCall (fun _ _ => 0) ⟨#[], #[.string .empty, .int .i64 0], []⟩).memory Tryd.f4.params.toList Rows.randomPermSpec.vars false (#[.string .empty, .int .i64 0] : Array Value).toList 8 = some ([.lit (.string []), .lit (.int .i64 0)], [], places) :=
  ⟨[], by kernel_rfl⟩

set_option maxRecDepth 100000 in
theorem lifted (os : Os) (started : os.Started) (H : Type) (enc : TypeId × Value → H) (F : Stop.Interp) :
    ReturnsInHanded {} Tryd.checked os 4 .any ((OpenSpec.ofChange Rows.randomPermSpec).preRow enc Tryd.prog Tryd.f4 Rows.randomPermRow.domain false Rows.randomPermRow.laid) (((OpenSpec.ofChange Rows.randomPermSpec).at F).post enc Tryd.prog Tryd.f4 false true false false) := by
  obtain ⟨places, hx⟩ := reads os enc
  refine returnsInHanded_of_row (C := Tryd.checked) (s := OpenSpec.ofChange Rows.randomPermSpec) own started (by kernel_rfl) Tryd.func4
    (witness_row_at (enc := enc) (C := Tryd.checked) false (laidWorld os) #[.string .empty, .int .i64 0] rfl (by kernel_rfl) (by kernel_rfl) (by kernel_rfl)
      (OpenSpec.preRow_of_cond 8 hx (by kernel_rfl) (fun k hk => by cases hk) (by kernel_rfl) (laid_met os))) ?_
  intro W base args ds gs before hval hW _ _ _ hL _ _
  exact contract H enc W base args ds gs before hval hW hL

theorem said : Rows.RandomPermSaid :=
  OpenClaim.holds_of_cond 4 Tryd.f4 rfl rfl rfl rfl rfl rfl rfl ⟨rfl, rfl, rfl, rfl, rfl⟩ rfl rfl rfl rfl rfl (by kernel_rfl) Tryd.func4 (by kernel_rfl)
    (of_decide_eq_true (by kernel_rfl)) (by unfold Func.isWrapper; first | (rw [if_pos (by decide +kernel)]; kernel_rfl) | (rw [if_neg (by decide +kernel)]; exact ⟨rfl, rfl⟩))
    (fun os started H enc _ F => by rw [OpenClaim.pre_eq_preRow]; exact lifted os started H enc F)

theorem plain (f : FuncId) (fn : Func) (hf : Tryd.pinned.checked.prog.funcNamed "election/electionlaw05.RandomPerm" = some f) (hfn : Tryd.pinned.checked.prog.funcs[f]? = some fn) :
    false = Tryd.pinned.checked.prog.looks [] ∧ ∀ (j : Nat) t, fn.params[j]? = some t → Tryd.pinned.checked.prog.wantsStandIn t = false := by
  obtain rfl : f = 4 := Option.some.inj ((show Tryd.prog.funcNamed "election/electionlaw05.RandomPerm" = some 4 by kernel_rfl).symm.trans hf) |>.symm
  obtain rfl : fn = Tryd.f4 := (Option.some.inj (Tryd.func4.symm.trans hfn)).symm
  refine ⟨by kernel_rfl, fun j t ht => ?_⟩
  rw [Tryd.params4] at ht
  have hm : t = 9 ∨ t = 3 := by simpa using Array.mem_of_getElem? ht
  rcases hm with rfl | rfl
  · exact (show Tryd.prog.wantsStandIn 9 = false by kernel_rfl)
  · exact (show Tryd.prog.wantsStandIn 3 = false by kernel_rfl)

theorem card : Rows.RandomPermCardSaid :=
  Claim7.holds_tied_plain_at .later [] _ _ _ _ said (fun _ h => by cases h) (by kernel_rfl) (fun _ h => by cases h) randomPerm_row_tie rfl ⟨rfl, rfl⟩ (by kernel_rfl) rfl plain (by kernel_rfl)
#print axioms card
end Go.Proofs.YtgomconcfjllcaaDoor.randomPerm
