/-
  DERIVED. GIVEN WITH THE SEED: THE CARDS: each row of YtkefajjcpcoajaaGreatDoorRows.lean that lists a variable, with what it lists TIED to the program's text (the seventh form; the later family's looks); each row that meets fmt, with fmt's text TOLD by the authors' own Lean function (tested against real Go, not proved from fmt's source: count such statements apart). THE CARD IS WHAT COUNTS. Prove the row's statement (the work); the ties are given (YtkefajjcpcoajaaGreatDoorTie.lean); close each card by the builder's one call (the guide's Derived/Test/ToyasCard.lean, 'card_holds'). Laid BY PROGRAM, IN A SANDBOX (cutbox-door.mjs). By AI agents, Wed Nov 11 2026. No macro, syntax, notation, axiom, sorry.
-/
import Derived.Test.YtkefajjcpcoajaaGreatDoorRows
import GoSem.ClaimSeven
namespace Go.Proofs.YtkefajjcpcoajaaGreatDoor
namespace Rows

/-- THE TIED CARD OF 'electionlaw08.SchemaCompile'. -/
def schemaCompileCard : Claim7 := { stood := { row := schemaCompileRow, standIns := [], harness := (true, "1ceeecaa4d08350a95a44b36c4c267324f22169df38221591d6520c8cdbf0c86"), looks := true }, kinds := [], alts := [], laidByText := true, laidKinds := [.data, .data, .data, .sentinel, .sentinel, .data, .data], laidTests := true, laidLooks := .later }
def SchemaCompileCardSaid : Prop := Claim7.holds Tryz.pinned (.plain (OpenSpec.ofChange schemaCompileSpec)) schemaCompileCard

/-- THE TIED CARD OF 'electionlaw08.SchemaText'. -/
def schemaTextCard : Claim7 := { stood := { row := schemaTextRow, standIns := [], harness := (true, "1ceeecaa4d08350a95a44b36c4c267324f22169df38221591d6520c8cdbf0c86"), looks := true }, kinds := [], alts := [], laidByText := true, laidKinds := [.data, .data, .data, .sentinel, .sentinel, .data, .data], laidTests := true, laidLooks := .later }
def SchemaTextCardSaid : Prop := Claim7.holds Tryz.pinned (.plain (OpenSpec.ofChange schemaTextSpec)) schemaTextCard

/-- THE TIED CARD OF 'electionlaw08.SchemaLines'. -/
def schemaLinesCard : Claim7 := { stood := { row := schemaLinesRow, standIns := [], harness := (true, "1ceeecaa4d08350a95a44b36c4c267324f22169df38221591d6520c8cdbf0c86"), looks := true }, kinds := [], alts := [], laidByText := true, laidKinds := [.data, .data, .data, .sentinel, .sentinel, .data, .data], laidTests := true, laidLooks := .later }
def SchemaLinesCardSaid : Prop := Claim7.holds Tryz.pinned (.plain (OpenSpec.ofChange schemaLinesSpec)) schemaLinesCard

/-- THE TIED CARD OF 'electionlaw08.SchemaValid'. -/
def schemaValidCard : Claim7 := { stood := { row := schemaValidRow, standIns := [], harness := (true, "1ceeecaa4d08350a95a44b36c4c267324f22169df38221591d6520c8cdbf0c86"), looks := true }, kinds := [], alts := [], laidByText := true, laidKinds := [.data, .data, .data, .sentinel, .sentinel, .data, .data], laidTests := true, laidLooks := .later }
def SchemaValidCardSaid : Prop := Claim7.holds Tryz.pinned (.plain (OpenSpec.ofChange schemaValidSpec)) schemaValidCard

/-- THE TIED CARD OF 'electionlaw08.SchemaRound'. -/
def schemaRoundCard : Claim7 := { stood := { row := schemaRoundRow, standIns := [], harness := (true, "1ceeecaa4d08350a95a44b36c4c267324f22169df38221591d6520c8cdbf0c86"), looks := true }, kinds := [], alts := [], laidByText := true, laidKinds := [.data, .data, .data, .sentinel, .sentinel, .data, .data], laidTests := true, laidLooks := .later }
def SchemaRoundCardSaid : Prop := Claim7.holds Tryz.pinned (.plain (OpenSpec.ofChange schemaRoundSpec)) schemaRoundCard

/-- THE TIED CARD OF 'electionlaw08.SchemaOrder'. -/
def schemaOrderCard : Claim7 := { stood := { row := schemaOrderRow, standIns := [], harness := (true, "1ceeecaa4d08350a95a44b36c4c267324f22169df38221591d6520c8cdbf0c86"), looks := true }, kinds := [], alts := [], laidByText := true, laidKinds := [.data, .data, .data, .sentinel, .sentinel, .data, .data], laidTests := true, laidLooks := .later }
def SchemaOrderCardSaid : Prop := Claim7.holds Tryz.pinned (.plain (OpenSpec.ofChange schemaOrderSpec)) schemaOrderCard

/-- THE TIED CARD OF 'electionlaw08.SchemaStyle'. -/
def schemaStyleCard : Claim7 := { stood := { row := schemaStyleRow, standIns := [], harness := (true, "1ceeecaa4d08350a95a44b36c4c267324f22169df38221591d6520c8cdbf0c86"), looks := true }, kinds := [], alts := [], laidByText := true, laidKinds := [.data, .data, .data, .sentinel, .sentinel, .data, .data], laidTests := true, laidLooks := .later }
def SchemaStyleCardSaid : Prop := Claim7.holds Tryz.pinned (.plain (OpenSpec.ofChange schemaStyleSpec)) schemaStyleCard

/-- THE TIED CARD OF 'electionlaw08.SchemaEqual'. -/
def schemaEqualCard : Claim7 := { stood := { row := schemaEqualRow, standIns := [], harness := (true, "1ceeecaa4d08350a95a44b36c4c267324f22169df38221591d6520c8cdbf0c86"), looks := true }, kinds := [], alts := [], laidByText := true, laidKinds := [.data, .data, .data, .sentinel, .sentinel, .data, .data], laidTests := true, laidLooks := .later }
def SchemaEqualCardSaid : Prop := Claim7.holds Tryz.pinned (.plain (OpenSpec.ofChange schemaEqualSpec)) schemaEqualCard

/-- THE SECOND FORM's CARD OF 'electionlaw08.SchemaCompile'. -/
def schemaCompileUptoCard : Claim7 := { stood := { row := schemaCompileUptoRow, standIns := [], harness := (true, "1ceeecaa4d08350a95a44b36c4c267324f22169df38221591d6520c8cdbf0c86"), looks := true }, kinds := [], alts := [], laidByText := true, laidKinds := [.data, .data, .data, .sentinel, .sentinel, .data, .data], laidTests := true, laidLooks := .later }
def SchemaCompileUptoCardSaid : Prop := Claim7.holds Tryz.pinned (.plain (OpenSpec.upto schemaCompileSpec)) schemaCompileUptoCard

/-- THE SECOND FORM's CARD OF 'electionlaw08.SchemaText'. -/
def schemaTextUptoCard : Claim7 := { stood := { row := schemaTextUptoRow, standIns := [], harness := (true, "1ceeecaa4d08350a95a44b36c4c267324f22169df38221591d6520c8cdbf0c86"), looks := true }, kinds := [], alts := [], laidByText := true, laidKinds := [.data, .data, .data, .sentinel, .sentinel, .data, .data], laidTests := true, laidLooks := .later }
def SchemaTextUptoCardSaid : Prop := Claim7.holds Tryz.pinned (.plain (OpenSpec.upto schemaTextSpec)) schemaTextUptoCard

/-- THE SECOND FORM's CARD OF 'electionlaw08.SchemaLines'. -/
def schemaLinesUptoCard : Claim7 := { stood := { row := schemaLinesUptoRow, standIns := [], harness := (true, "1ceeecaa4d08350a95a44b36c4c267324f22169df38221591d6520c8cdbf0c86"), looks := true }, kinds := [], alts := [], laidByText := true, laidKinds := [.data, .data, .data, .sentinel, .sentinel, .data, .data], laidTests := true, laidLooks := .later }
def SchemaLinesUptoCardSaid : Prop := Claim7.holds Tryz.pinned (.plain (OpenSpec.upto schemaLinesSpec)) schemaLinesUptoCard

/-- THE SECOND FORM's CARD OF 'electionlaw08.SchemaValid'. -/
def schemaValidUptoCard : Claim7 := { stood := { row := schemaValidUptoRow, standIns := [], harness := (true, "1ceeecaa4d08350a95a44b36c4c267324f22169df38221591d6520c8cdbf0c86"), looks := true }, kinds := [], alts := [], laidByText := true, laidKinds := [.data, .data, .data, .sentinel, .sentinel, .data, .data], laidTests := true, laidLooks := .later }
def SchemaValidUptoCardSaid : Prop := Claim7.holds Tryz.pinned (.plain (OpenSpec.upto schemaValidSpec)) schemaValidUptoCard

/-- THE SECOND FORM's CARD OF 'electionlaw08.SchemaRound'. -/
def schemaRoundUptoCard : Claim7 := { stood := { row := schemaRoundUptoRow, standIns := [], harness := (true, "1ceeecaa4d08350a95a44b36c4c267324f22169df38221591d6520c8cdbf0c86"), looks := true }, kinds := [], alts := [], laidByText := true, laidKinds := [.data, .data, .data, .sentinel, .sentinel, .data, .data], laidTests := true, laidLooks := .later }
def SchemaRoundUptoCardSaid : Prop := Claim7.holds Tryz.pinned (.plain (OpenSpec.upto schemaRoundSpec)) schemaRoundUptoCard

/-- THE SECOND FORM's CARD OF 'electionlaw08.SchemaOrder'. -/
def schemaOrderUptoCard : Claim7 := { stood := { row := schemaOrderUptoRow, standIns := [], harness := (true, "1ceeecaa4d08350a95a44b36c4c267324f22169df38221591d6520c8cdbf0c86"), looks := true }, kinds := [], alts := [], laidByText := true, laidKinds := [.data, .data, .data, .sentinel, .sentinel, .data, .data], laidTests := true, laidLooks := .later }
def SchemaOrderUptoCardSaid : Prop := Claim7.holds Tryz.pinned (.plain (OpenSpec.upto schemaOrderSpec)) schemaOrderUptoCard

/-- THE SECOND FORM's CARD OF 'electionlaw08.SchemaStyle'. -/
def schemaStyleUptoCard : Claim7 := { stood := { row := schemaStyleUptoRow, standIns := [], harness := (true, "1ceeecaa4d08350a95a44b36c4c267324f22169df38221591d6520c8cdbf0c86"), looks := true }, kinds := [], alts := [], laidByText := true, laidKinds := [.data, .data, .data, .sentinel, .sentinel, .data, .data], laidTests := true, laidLooks := .later }
def SchemaStyleUptoCardSaid : Prop := Claim7.holds Tryz.pinned (.plain (OpenSpec.upto schemaStyleSpec)) schemaStyleUptoCard

/-- THE SECOND FORM's CARD OF 'electionlaw08.SchemaEqual'. -/
def schemaEqualUptoCard : Claim7 := { stood := { row := schemaEqualUptoRow, standIns := [], harness := (true, "1ceeecaa4d08350a95a44b36c4c267324f22169df38221591d6520c8cdbf0c86"), looks := true }, kinds := [], alts := [], laidByText := true, laidKinds := [.data, .data, .data, .sentinel, .sentinel, .data, .data], laidTests := true, laidLooks := .later }
def SchemaEqualUptoCardSaid : Prop := Claim7.holds Tryz.pinned (.plain (OpenSpec.upto schemaEqualSpec)) schemaEqualUptoCard
end Rows
end Go.Proofs.YtkefajjcpcoajaaGreatDoor
