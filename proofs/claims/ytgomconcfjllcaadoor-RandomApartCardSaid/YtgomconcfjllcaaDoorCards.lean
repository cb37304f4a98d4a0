/-
  DERIVED. GIVEN WITH THE SEED: THE CARDS: each row of YtgomconcfjllcaaDoorRows.lean that lists a variable, with what it lists TIED to the program's text (the seventh form; the later family's looks); each row that meets fmt, with fmt's text TOLD by the authors' own Lean function (tested against real Go, not proved from fmt's source: count such statements apart). THE CARD IS WHAT COUNTS. Prove the row's statement (the work); the ties are given (YtgomconcfjllcaaDoorTie.lean); close each card by the builder's one call (the guide's Derived/Test/ToyasCard.lean, 'card_holds'). Laid BY PROGRAM, IN A SANDBOX (cutbox-door.mjs). By AI agents, Wed Nov 11 2026. No macro, syntax, notation, axiom, sorry.
-/
import Derived.Test.YtgomconcfjllcaaDoorRows
import GoSem.ClaimSeven
namespace Go.Proofs.YtgomconcfjllcaaDoor
namespace Rows

/-- THE TIED CARD OF 'electionlaw05.RandomScript'. -/
def randomScriptCard : Claim7 := { stood := { row := randomScriptRow, standIns := [], harness := (true, "cc83ad81493afbd95069d61f51a702bd02743f8093b33d226ec2188d39fa4cab"), looks := false }, kinds := [], alts := [], laidByText := true, laidKinds := [.data, .data], laidTests := true, laidLooks := .later }
def RandomScriptCardSaid : Prop := Claim7.holds Tryd.pinned (.plain (OpenSpec.ofChange randomScriptSpec)) randomScriptCard

/-- THE TIED CARD OF 'electionlaw05.RandomPerm'. -/
def randomPermCard : Claim7 := { stood := { row := randomPermRow, standIns := [], harness := (true, "cc83ad81493afbd95069d61f51a702bd02743f8093b33d226ec2188d39fa4cab"), looks := false }, kinds := [], alts := [], laidByText := true, laidKinds := [.data, .data], laidTests := true, laidLooks := .later }
def RandomPermCardSaid : Prop := Claim7.holds Tryd.pinned (.plain (OpenSpec.ofChange randomPermSpec)) randomPermCard

/-- THE TIED CARD OF 'electionlaw05.RandomBelow'. -/
def randomBelowCard : Claim7 := { stood := { row := randomBelowRow, standIns := [], harness := (true, "cc83ad81493afbd95069d61f51a702bd02743f8093b33d226ec2188d39fa4cab"), looks := false }, kinds := [], alts := [], laidByText := true, laidKinds := [.data, .data], laidTests := true, laidLooks := .later }
def RandomBelowCardSaid : Prop := Claim7.holds Tryd.pinned (.plain (OpenSpec.ofChange randomBelowSpec)) randomBelowCard

/-- THE TIED CARD OF 'electionlaw05.RandomOrder'. -/
def randomOrderCard : Claim7 := { stood := { row := randomOrderRow, standIns := [], harness := (true, "cc83ad81493afbd95069d61f51a702bd02743f8093b33d226ec2188d39fa4cab"), looks := false }, kinds := [], alts := [], laidByText := true, laidKinds := [.data, .data], laidTests := true, laidLooks := .later }
def RandomOrderCardSaid : Prop := Claim7.holds Tryd.pinned (.plain (OpenSpec.ofChange randomOrderSpec)) randomOrderCard

/-- THE TIED CARD OF 'electionlaw05.RandomApart'. -/
def randomApartCard : Claim7 := { stood := { row := randomApartRow, standIns := [], harness := (true, "cc83ad81493afbd95069d61f51a702bd02743f8093b33d226ec2188d39fa4cab"), looks := false }, kinds := [], alts := [], laidByText := true, laidKinds := [.data, .data], laidTests := true, laidLooks := .later }
def RandomApartCardSaid : Prop := Claim7.holds Tryd.pinned (.plain (OpenSpec.ofChange randomApartSpec)) randomApartCard

/-- THE TIED CARD OF 'electionlaw05.RandomNone'. -/
def randomNoneCard : Claim7 := { stood := { row := randomNoneRow, standIns := [], harness := (true, "cc83ad81493afbd95069d61f51a702bd02743f8093b33d226ec2188d39fa4cab"), looks := false }, kinds := [], alts := [], laidByText := true, laidKinds := [.data, .data], laidTests := true, laidLooks := .later }
def RandomNoneCardSaid : Prop := Claim7.holds Tryd.pinned (.plain (OpenSpec.ofChange randomNoneSpec)) randomNoneCard

/-- THE SECOND FORM's CARD OF 'electionlaw05.RandomScript'. -/
def randomScriptUptoCard : Claim7 := { stood := { row := randomScriptUptoRow, standIns := [], harness := (true, "cc83ad81493afbd95069d61f51a702bd02743f8093b33d226ec2188d39fa4cab"), looks := false }, kinds := [], alts := [], laidByText := true, laidKinds := [.data, .data], laidTests := true, laidLooks := .later }
def RandomScriptUptoCardSaid : Prop := Claim7.holds Tryd.pinned (.plain (OpenSpec.upto randomScriptSpec)) randomScriptUptoCard

/-- THE SECOND FORM's CARD OF 'electionlaw05.RandomPerm'. -/
def randomPermUptoCard : Claim7 := { stood := { row := randomPermUptoRow, standIns := [], harness := (true, "cc83ad81493afbd95069d61f51a702bd02743f8093b33d226ec2188d39fa4cab"), looks := false }, kinds := [], alts := [], laidByText := true, laidKinds := [.data, .data], laidTests := true, laidLooks := .later }
def RandomPermUptoCardSaid : Prop := Claim7.holds Tryd.pinned (.plain (OpenSpec.upto randomPermSpec)) randomPermUptoCard

/-- THE SECOND FORM's CARD OF 'electionlaw05.RandomBelow'. -/
def randomBelowUptoCard : Claim7 := { stood := { row := randomBelowUptoRow, standIns := [], harness := (true, "cc83ad81493afbd95069d61f51a702bd02743f8093b33d226ec2188d39fa4cab"), looks := false }, kinds := [], alts := [], laidByText := true, laidKinds := [.data, .data], laidTests := true, laidLooks := .later }
def RandomBelowUptoCardSaid : Prop := Claim7.holds Tryd.pinned (.plain (OpenSpec.upto randomBelowSpec)) randomBelowUptoCard

/-- THE SECOND FORM's CARD OF 'electionlaw05.RandomOrder'. -/
def randomOrderUptoCard : Claim7 := { stood := { row := randomOrderUptoRow, standIns := [], harness := (true, "cc83ad81493afbd95069d61f51a702bd02743f8093b33d226ec2188d39fa4cab"), looks := false }, kinds := [], alts := [], laidByText := true, laidKinds := [.data, .data], laidTests := true, laidLooks := .later }
def RandomOrderUptoCardSaid : Prop := Claim7.holds Tryd.pinned (.plain (OpenSpec.upto randomOrderSpec)) randomOrderUptoCard

/-- THE SECOND FORM's CARD OF 'electionlaw05.RandomApart'. -/
def randomApartUptoCard : Claim7 := { stood := { row := randomApartUptoRow, standIns := [], harness := (true, "cc83ad81493afbd95069d61f51a702bd02743f8093b33d226ec2188d39fa4cab"), looks := false }, kinds := [], alts := [], laidByText := true, laidKinds := [.data, .data], laidTests := true, laidLooks := .later }
def RandomApartUptoCardSaid : Prop := Claim7.holds Tryd.pinned (.plain (OpenSpec.upto randomApartSpec)) randomApartUptoCard

/-- THE SECOND FORM's CARD OF 'electionlaw05.RandomNone'. -/
def randomNoneUptoCard : Claim7 := { stood := { row := randomNoneUptoRow, standIns := [], harness := (true, "cc83ad81493afbd95069d61f51a702bd02743f8093b33d226ec2188d39fa4cab"), looks := false }, kinds := [], alts := [], laidByText := true, laidKinds := [.data, .data], laidTests := true, laidLooks := .later }
def RandomNoneUptoCardSaid : Prop := Claim7.holds Tryd.pinned (.plain (OpenSpec.upto randomNoneSpec)) randomNoneUptoCard
end Rows
end Go.Proofs.YtgomconcfjllcaaDoor
