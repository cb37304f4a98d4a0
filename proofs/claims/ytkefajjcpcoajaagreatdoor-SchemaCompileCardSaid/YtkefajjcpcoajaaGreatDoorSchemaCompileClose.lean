/-
  SchemaCompile: the election and the fault agree with the reference,for definitions of up to twelve blocks with up to twelve fields.
  Conditions: none beside those of the row (the listed package variables start as the program lays them;the card ties that to the text).
-/
import Derived.Test.YtkefajjcpcoajaaGreatDoorPkA0
import Derived.Test.YtkefajjcpcoajaaGreatDoorCards
import Derived.Test.YtkefajjcpcoajaaGreatDoorTie
import Derived.Test.YtkefajjcpcoajaaGreatDoorPkA49
set_option linter.all false
namespace Go.Proofs.YtkefajjcpcoajaaGreatDoor.schemaCompile
open Go.ChangeShapes Go.WideShapes Go.ChangeAt Go.RowKit
open Go.ChangeMaps (open_string shut_string)
open Lx
theorem named:Tryz.pinned.checked.prog.funcNamed Rows.schemaCompileRow.func=some 3 := by kernel_rfl
theorem instOf:Tryz.f3.isInstance Tryz.pinned.checked.prog Rows.schemaCompileRow.origin Rows.schemaCompileRow.targs:=of_decide_eq_true (by kernel_rfl)
theorem wrapOf:Tryz.f3.isWrapper Tryz.pinned.checked.prog Rows.schemaCompileRow.wrapper Rows.schemaCompileRow.mainSum:=by unfold Func.isWrapper;first|(rw[if_pos (by decide +kernel)];kernel_rfl)|(rw[if_neg (by decide +kernel)];exact⟨rfl,rfl⟩)
theorem said:Rows.SchemaCompileSaid :=
 OpenClaim.holds_of_cond 3 Tryz.f3 rfl rfl rfl rfl rfl rfl rfl ⟨rfl,rfl,rfl,rfl,rfl⟩ rfl rfl rfl rfl rfl named Tryz.func3 Pe instOf wrapOf
   (fun os started H enc _ F=>by rw[OpenClaim.pre_eq_preRow];exact Pd os started H enc F)
theorem plain (f : FuncId) (fn : Func) (hf : Tryz.pinned.checked.prog.funcNamed "election/electionlaw08.SchemaCompile" = some f) (hfn : Tryz.pinned.checked.prog.funcs[f]? = some fn) :
    true=Tryz.pinned.checked.prog.looks []/\∀ (j:Nat) t,fn.params[j]? = some t->Tryz.pinned.checked.prog.wantsStandIn t=false:=by
 obtain rfl : f = 3 := Option.some.inj ((show Tryz.prog.funcNamed "election/electionlaw08.SchemaCompile" = some 3 by kernel_rfl).symm.trans hf) |>.symm
 obtain rfl:fn=Tryz.f3 := (Option.some.inj (Tryz.func3.symm.trans hfn)).symm;refine⟨by kernel_rfl,fun j t ht=>?_⟩;rw[Tryz.params3] at ht;have hm:t=24 := by simpa using Array.mem_of_getElem? ht
 subst hm;exact(show Tryz.prog.wantsStandIn 24 = false by kernel_rfl)
theorem card:Rows.SchemaCompileCardSaid :=
 Claim7.holds_tied_plain_at .later [] _ _ _ _ said (fun _ h=>by cases h) (by kernel_rfl) (fun _ h=>by cases h) schemaCompile_row_tie rfl ⟨rfl,rfl⟩ (by kernel_rfl) rfl plain (by kernel_rfl)
#print axioms card
end Go.Proofs.YtkefajjcpcoajaaGreatDoor.schemaCompile
