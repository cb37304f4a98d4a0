/-
  SchemaLines: line breaks ahead of a definition move the line of its fault, if it has one, by their number.
  Conditions: none beside those of the row (the listed package variables start as the program lays them; the card ties that to the text).
-/
import Derived.Test.YtemdkkphmldgjaaGreatDoorCards
import Derived.Test.YtemdkkphmldgjaaGreatDoorTie
import Derived.Lay
import Derived.ProofKit
import Derived.OpenShut
import Derived.Deep.DeepHandedRow
import Derived.Lib.LaidTab
import Derived.Lib.LaidU8
import Derived.Test.YtemdkkphmldgjaaGreatDoorPkA37
set_option maxRecDepth 100000
set_option maxHeartbeats 3200000
namespace Go.Proofs.YtemdkkphmldgjaaGreatDoor.schemaLines
open Go.ChangeShapes Go.WideShapes Go.ChangeAt Go.RowKit
open Go.ChangeMaps (open_string shut_string)
open Lx
theorem own : ownKnob Tryz.prog.godebug = none := by kernel_rfl
theorem laidOut : laidOutB Tryz.prog = true := by kernel_rfl
theorem gPow : Tryz.prog.globalNamed "internal/strconv.uint64pow10" = some 6 := by kernel_rfl
theorem gPowT : (Tryz.prog.globals[6]?).map (·.type) = some 284 := by kernel_rfl
theorem gBlk : Tryz.prog.globalNamed "election/schema.blockRules" = some 0 := by kernel_rfl
theorem gBlkT : (Tryz.prog.globals[0]?).map (·.type) = some 113 := by kernel_rfl
theorem gFld : Tryz.prog.globalNamed "election/schema.fieldRules" = some 1 := by kernel_rfl
theorem gFldT : (Tryz.prog.globals[1]?).map (·.type) = some 218 := by kernel_rfl
theorem gErr : Tryz.prog.globalNamed "strconv.ErrSyntax" = some 4 := by kernel_rfl
theorem gErrT : (Tryz.prog.globals[4]?).map (·.type) = some 200 := by kernel_rfl
theorem cellsArr : Tryz.prog.cellsOf 284 = 20 := by kernel_rfl
theorem cellsElem : Tryz.prog.cellsOf 192 = 1 := by kernel_rfl
theorem blkFields : ∃ fs : Array Field, Tryz.prog.underlying 112 = some (.struct fs) /\ fs.size = 3 /\ ∀ (i : Nat) (f : Field), fs[i]? = some f -> Leaf Tryz.prog f.type /\ f.offset = i /\ Tryz.prog.cellsOf f.type = 1 := by
 refine ⟨_, Tryz.underlying112, rfl, fun i f hf => ?_⟩
 rcases i with _ | _ | _ | i
 . obtain rfl := Option.some.inj hf
   exact ⟨Or.inl (by kernel_rfl), rfl, by kernel_rfl⟩
 . obtain rfl := Option.some.inj hf
   exact ⟨Or.inr (Or.inr ⟨.i64, by kernel_rfl⟩), rfl, by kernel_rfl⟩
 . obtain rfl := Option.some.inj hf
   exact ⟨Or.inr (Or.inl (by kernel_rfl)), rfl, by kernel_rfl⟩
 . rw [Array.getElem?_eq_none (by simp)] at hf
   cases hf
theorem fldFields : ∃ fs : Array Field, Tryz.prog.underlying 212 = some (.struct fs) /\ fs.size = 5 /\ ∀ (i : Nat) (f : Field), fs[i]? = some f -> Leaf Tryz.prog f.type /\ f.offset = i /\ Tryz.prog.cellsOf f.type = 1 := by
 refine ⟨_, Tryz.underlying212, rfl, fun i f hf => ?_⟩
 rcases i with _ | _ | _ | _ | _ | i
 . obtain rfl := Option.some.inj hf
   exact ⟨Or.inl (by kernel_rfl), rfl, by kernel_rfl⟩
 . obtain rfl := Option.some.inj hf
   exact ⟨Or.inl (by kernel_rfl), rfl, by kernel_rfl⟩
 . obtain rfl := Option.some.inj hf
   exact ⟨Or.inr (Or.inr ⟨.i64, by kernel_rfl⟩), rfl, by kernel_rfl⟩
 . obtain rfl := Option.some.inj hf
   exact ⟨Or.inr (Or.inr ⟨.i64, by kernel_rfl⟩), rfl, by kernel_rfl⟩
 . obtain rfl := Option.some.inj hf
   exact ⟨Or.inr (Or.inr ⟨.i64, by kernel_rfl⟩), rfl, by kernel_rfl⟩
 . rw [Array.getElem?_eq_none (by simp)] at hf
   cases hf
theorem table {W : World} (h : laidMetH Tryz.prog Rows.schemaLinesRow.laid W) : Tabs W := by
 have hm : laidMet Tryz.prog Rows.schemaLinesRow.laid W := h
 refine ⟨?_, ?_, ?_, ?_⟩
 . obtain ⟨g', t', cs, fuel, p, hg', ht', hvar, hd⟩ := Lib.laidMet.reads hm (n := "internal/strconv.uint64pow10") (d := Rows.laid_internal_strconv_uint64pow10) (by simp [Rows.schemaLinesRow])
   obtain rfl := Option.some.inj (gPow.symm.trans hg')
   obtain rfl := Option.some.inj (gPowT.symm.trans ht')
   have e : (Rows.laid_internal_strconv_uint64pow10 : DataW Unit) = Lib.tabData .u64 Lib.pow10Tab := by kernel_rfl
   rw [e] at hd
   unfold Q.Tab Lib.TabIs
   rw [hvar, <- Lib.cells_of_tab Tryz.underlying284 Tryz.underlying192 cellsElem cellsArr hd]
 . obtain ⟨g', t', cs, fuel, p, hg', ht', hvar, hd⟩ := Lib.laidMet.reads hm (n := "strconv.ErrSyntax") (d := Rows.laid_strconv_ErrSyntax) (by simp [Rows.schemaLinesRow])
   obtain rfl := Option.some.inj (gErr.symm.trans hg')
   obtain rfl := Option.some.inj (gErrT.symm.trans ht')
   obtain ⟨u, v, e⟩ := face_of Tryz.underlying200 hd ⟨_, _, rfl⟩
   refine ⟨u, v, ?_⟩
   rw [hvar]
   exact congrArg some (Array.toList_inj.1 e)
 . obtain ⟨g', t', cs, fuel, p, hg', ht', hvar, hd⟩ := Lib.laidMet.reads hm (n := "election/schema.blockRules") (d := Rows.laid_election_schema_blockRules) (by simp [Rows.schemaLinesRow])
   obtain rfl := Option.some.inj (gBlk.symm.trans hg')
   obtain rfl := Option.some.inj (gBlkT.symm.trans ht')
   obtain ⟨fs, h1, h2, h3⟩ := blkFields
   have e := table_of Tryz.underlying113 h1 h3 (by rw [h2]; kernel_rfl) (by rw [h2]; kernel_rfl) hd
   obtain ⟨t, fr, hb⟩ := var_block gBlk hvar
   refine ⟨t, fr, ?_⟩
   rw [hb]
   have e2 : cs = bCells.toArray := by
    apply Array.toList_inj.1
    rw [e]
    kernel_rfl
   rw [e2]
 . obtain ⟨g', t', cs, fuel, p, hg', ht', hvar, hd⟩ := Lib.laidMet.reads hm (n := "election/schema.fieldRules") (d := Rows.laid_election_schema_fieldRules) (by simp [Rows.schemaLinesRow])
   obtain rfl := Option.some.inj (gFld.symm.trans hg')
   obtain rfl := Option.some.inj (gFldT.symm.trans ht')
   obtain ⟨fs, h1, h2, h3⟩ := fldFields
   have e := table_of Tryz.underlying218 h1 h3 (by rw [h2]; kernel_rfl) (by rw [h2]; kernel_rfl) hd
   obtain ⟨t, fr, hb⟩ := var_block gFld hvar
   refine ⟨t, fr, ?_⟩
   rw [hb]
   have e2 : cs = fCells.toArray := by
    apply Array.toList_inj.1
    rw [e]
    kernel_rfl
   rw [e2]
def greats : List String := ["math/bits.deBruijn32tab", "math/bits.deBruijn64tab", "internal/strconv.uint64pow10", "strconv.ErrRange", "strconv.ErrSyntax", "election/schema.blockRules", "election/schema.fieldRules"]
theorem contract (H : Type) (enc : TypeId × Value -> H) (W : World) (base : Nat) (args : Array Value) (ds gs : List (DataW H)) (before : List MemPlace)
    (hval : ∀ (j : Nat) t v, Tryz.f5.params[j]? = some t -> args[j]? = some v -> Value.okWide Tryz.prog W .any base t v)
    (hW : DataW.Whole enc Tryz.prog Tryz.f5.params.toList Rows.schemaLinesSpec.vars false W args.toList ds gs before) (hL : laidMetH Tryz.prog Rows.schemaLinesRow.laid W) :
    Calls Tryz.prog 5 args W fun e W' => ∃ v, e = .returned v /\ Rows.schemaLinesSpec.post enc Tryz.prog Tryz.f5 false true false false W args v W' := by
 have hW' := hW
 obtain ⟨p, q, hA0, hV, rfl, _, _⟩ := hW
 have hA : DataW.TrodAll enc Tryz.prog W 0 (fun _ => true) true Tryz.f5.params.toList args.toList ds p := hA0
 rw [Tryz.params5] at hA hval
 obtain ⟨v0, vs0, d0, ds0, p0, q0, hargs, rfl, rfl, h0, r0⟩ := trodAll_cons hA
 obtain ⟨v1, vs1, d1, ds1, p1, q1, rfl, rfl, rfl, h1, r1⟩ := trodAll_cons r0
 obtain ⟨rfl, rfl, rfl⟩ := trodAll_nil r1
 obtain rfl : args = #[v0, v1] := by cases args; simp_all
 obtain ⟨rfl, rfl⟩ := trodVars_none hV
 clear hA0 hA r0 r1
 have k0 := h0
 have k1 := h1
 simp only [List.append_nil] at hW'
 have hlt : ∀ x ∈ p0 ++ p1, x.block < W.heap.size := fun x hx => by simpa using hW'.lt x (by simpa using hx)
 have htab := table hL
 obtain ⟨s0, rfl, rfl, rfl, m0⟩ := open_string Tryz.underlying9 (hval 0 9 v0 rfl rfl) h0
 obtain ⟨x1, rfl, rfl, rfl, _⟩ := open_int Tryz.underlying3 (hval 1 3 v1 rfl rfl) h1
 refine (linesS_c s0 x1 W  htab).mono fun e W' ⟨he, hb⟩ => ?_
 subst he
 refine ⟨_, rfl, _, _, _, _, _, [], hW', trodAll_cons_mk (shut_bool Tryz.underlying4 _) trodAll_mk0, (trodAll_cons_mk (Below.trod laidOut (by kernel_rfl) (of_decide_eq_true (by kernel_rfl)) k0 hb (fun x hx => by cases hx)) (trodAll_cons_mk (Below.trod laidOut (by kernel_rfl) (of_decide_eq_true (by kernel_rfl)) k1 hb (fun x hx => by cases hx)) trodAll_mk0)), rfl, hb.frame _, fun h => by cases h⟩
noncomputable def laidWorld (os : Os) : World := (World.holding Tryz.prog os ⟨#[], #[], []⟩).layVars Tryz.prog (Rows.schemaLinesRow.laid.filter fun x => greats.contains x.1)
theorem laid_met (os : Os) : laidMet Tryz.prog Rows.schemaLinesRow.laid ((laidWorld os).forCall (fun _ _ => 0) ⟨#[], #[.string .empty, .int .i64 0], []⟩).memory :=
 by
 refine laidMet_layVars (w0 := World.holding Tryz.prog os ⟨#[], #[], []⟩) greats [] rfl (by kernel_rfl) (by kernel_rfl) ?_
 have e : (Rows.schemaLinesRow.laid.filter fun x => !greats.contains x.1) = [] := by kernel_rfl
 rw [e]
 exact LaidIn.none
theorem reads (os : Os) {H : Type} (enc : TypeId × Value -> H) : ∃ places, DataW.whole enc Tryz.prog ((laidWorld os).forCall (fun _ _ => 0) ⟨#[], #[.string .empty, .int .i64 0], []⟩).memory Tryz.f5.params.toList Rows.schemaLinesSpec.vars false (#[.string .empty, .int .i64 0] : Array Value).toList 8 = some ([.lit (.string []), .lit (.int .i64 0)], [], places) :=
 ⟨[], by kernel_rfl⟩
theorem lifted (os : Os) (started : os.Started) (H : Type) (enc : TypeId × Value -> H) (F : Stop.Interp) :
    ReturnsInHanded {} Tryz.checked os 5 .any ((OpenSpec.ofChange Rows.schemaLinesSpec).preRow enc Tryz.prog Tryz.f5 Rows.schemaLinesRow.domain false Rows.schemaLinesRow.laid) (((OpenSpec.ofChange Rows.schemaLinesSpec).at F).post enc Tryz.prog Tryz.f5 false true false false) := by
 obtain ⟨places, hx⟩ := reads os enc
 refine returnsInHanded_of_row (C := Tryz.checked) (s := OpenSpec.ofChange Rows.schemaLinesSpec) own started (by kernel_rfl) Tryz.func5
   (witness_row_at (enc := enc) (C := Tryz.checked) false (laidWorld os) #[.string .empty, .int .i64 0] rfl (by kernel_rfl) (by kernel_rfl) (by kernel_rfl)
     (OpenSpec.preRow_of_cond 8 hx (by kernel_rfl) (fun k hk => by cases hk) (by kernel_rfl) (laid_met os))) ?_
 intro W base args ds gs before hval hW _ _ _ hL _ _
 exact contract H enc W base args ds gs before hval hW hL
theorem said : Rows.SchemaLinesSaid :=
 OpenClaim.holds_of_cond 5 Tryz.f5 rfl rfl rfl rfl rfl rfl rfl ⟨rfl, rfl, rfl, rfl, rfl⟩ rfl rfl rfl rfl rfl (by kernel_rfl) Tryz.func5 (by kernel_rfl)
   (of_decide_eq_true (by kernel_rfl)) (by unfold Func.isWrapper; first | (rw [if_pos (by decide +kernel)]; kernel_rfl) | (rw [if_neg (by decide +kernel)]; exact ⟨rfl, rfl⟩))
   (fun os started H enc _ F => by rw [OpenClaim.pre_eq_preRow]; exact lifted os started H enc F)
theorem plain (f : FuncId) (fn : Func) (hf : Tryz.pinned.checked.prog.funcNamed "election/electionlaw08.SchemaLines" = some f) (hfn : Tryz.pinned.checked.prog.funcs[f]? = some fn) :
    true = Tryz.pinned.checked.prog.looks [] /\ ∀ (j : Nat) t, fn.params[j]? = some t -> Tryz.pinned.checked.prog.wantsStandIn t = false := by
 obtain rfl : f = 5 := Option.some.inj ((show Tryz.prog.funcNamed "election/electionlaw08.SchemaLines" = some 5 by kernel_rfl).symm.trans hf) |>.symm
 obtain rfl : fn = Tryz.f5 := (Option.some.inj (Tryz.func5.symm.trans hfn)).symm
 refine ⟨by kernel_rfl, fun j t ht => ?_⟩
 rw [Tryz.params5] at ht
 have hm : t = 9 \/ t = 3 := by simpa using Array.mem_of_getElem? ht
 rcases hm with rfl | rfl
 . exact (show Tryz.prog.wantsStandIn 9 = false by kernel_rfl)
 . exact (show Tryz.prog.wantsStandIn 3 = false by kernel_rfl)
theorem card : Rows.SchemaLinesCardSaid :=
 Claim7.holds_tied_plain_at .later [] _ _ _ _ said (fun _ h => by cases h) (by kernel_rfl) (fun _ h => by cases h) schemaLines_row_tie rfl ⟨rfl, rfl⟩ (by kernel_rfl) rfl plain (by kernel_rfl)
#print axioms card
end Go.Proofs.YtemdkkphmldgjaaGreatDoor.schemaLines
