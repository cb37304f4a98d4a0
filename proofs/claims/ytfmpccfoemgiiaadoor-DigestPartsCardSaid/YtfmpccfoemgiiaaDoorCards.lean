/-
  DERIVED. GIVEN WITH THE SEED: THE CARDS: each row of YtfmpccfoemgiiaaDoorRows.lean that lists a variable, with what it lists TIED to the program's text (the seventh form; the later family's looks); each row that meets fmt, with fmt's text TOLD by the authors' own Lean function (tested against real Go, not proved from fmt's source: count such statements apart). THE CARD IS WHAT COUNTS. Prove the row's statement (the work); the ties are given (YtfmpccfoemgiiaaDoorTie.lean); close each card by the builder's one call (the guide's Derived/Test/ToyasCard.lean, 'card_holds'). Laid BY PROGRAM, IN A SANDBOX (cutbox-door.mjs). By AI agents, Wed Nov 11 2026. No macro, syntax, notation, axiom, sorry.
-/
import Derived.Test.YtfmpccfoemgiiaaDoorRows
import GoSem.ClaimSeven
namespace Go.Proofs.YtfmpccfoemgiiaaDoor
namespace Rows

/-- THE TIED CARD OF 'electionlaw04.DigestSum'. -/
def digestSumCard : Claim7 := { stood := { row := digestSumRow, standIns := [], harness := (true, "23668f034452dc9f9df19797cd594284cdf2f2d98b71dfb316dfd94afe111078"), looks := false }, kinds := [], alts := [], laidByText := true, laidKinds := [.data, .data], laidTests := true, laidLooks := .later }
def DigestSumCardSaid : Prop := Claim7.holds Tryd.pinned (.plain (OpenSpec.ofChange digestSumSpec)) digestSumCard

/-- THE TIED CARD OF 'electionlaw04.DigestJoin'. -/
def digestJoinCard : Claim7 := { stood := { row := digestJoinRow, standIns := [], harness := (true, "23668f034452dc9f9df19797cd594284cdf2f2d98b71dfb316dfd94afe111078"), looks := false }, kinds := [], alts := [], laidByText := true, laidKinds := [.data, .data], laidTests := true, laidLooks := .later }
def DigestJoinCardSaid : Prop := Claim7.holds Tryd.pinned (.plain (OpenSpec.ofChange digestJoinSpec)) digestJoinCard

/-- THE TIED CARD OF 'electionlaw04.DigestParts'. -/
def digestPartsCard : Claim7 := { stood := { row := digestPartsRow, standIns := [], harness := (true, "23668f034452dc9f9df19797cd594284cdf2f2d98b71dfb316dfd94afe111078"), looks := false }, kinds := [], alts := [], laidByText := true, laidKinds := [.data], laidTests := true, laidLooks := .later }
def DigestPartsCardSaid : Prop := Claim7.holds Tryd.pinned (.plain (OpenSpec.ofChange digestPartsSpec)) digestPartsCard

/-- THE TIED CARD OF 'electionlaw04.DigestText'. -/
def digestTextCard : Claim7 := { stood := { row := digestTextRow, standIns := [], harness := (true, "23668f034452dc9f9df19797cd594284cdf2f2d98b71dfb316dfd94afe111078"), looks := false }, kinds := [], alts := [], laidByText := true, laidKinds := [.data], laidTests := true, laidLooks := .later }
def DigestTextCardSaid : Prop := Claim7.holds Tryd.pinned (.plain (OpenSpec.ofChange digestTextSpec)) digestTextCard

/-- THE TIED CARD OF 'electionlaw04.DigestParse'. -/
def digestParseCard : Claim7 := { stood := { row := digestParseRow, standIns := [], harness := (true, "23668f034452dc9f9df19797cd594284cdf2f2d98b71dfb316dfd94afe111078"), looks := false }, kinds := [], alts := [], laidByText := true, laidKinds := [.data], laidTests := true, laidLooks := .later }
def DigestParseCardSaid : Prop := Claim7.holds Tryd.pinned (.plain (OpenSpec.ofChange digestParseSpec)) digestParseCard

/-- THE TIED CARD OF 'electionlaw04.DigestKnown'. -/
def digestKnownCard : Claim7 := { stood := { row := digestKnownRow, standIns := [], harness := (true, "23668f034452dc9f9df19797cd594284cdf2f2d98b71dfb316dfd94afe111078"), looks := false }, kinds := [], alts := [], laidByText := true, laidKinds := [.data], laidTests := true, laidLooks := .later }
def DigestKnownCardSaid : Prop := Claim7.holds Tryd.pinned (.plain (OpenSpec.ofChange digestKnownSpec)) digestKnownCard

/-- THE SECOND FORM's CARD OF 'electionlaw04.DigestSum'. -/
def digestSumUptoCard : Claim7 := { stood := { row := digestSumUptoRow, standIns := [], harness := (true, "23668f034452dc9f9df19797cd594284cdf2f2d98b71dfb316dfd94afe111078"), looks := false }, kinds := [], alts := [], laidByText := true, laidKinds := [.data, .data], laidTests := true, laidLooks := .later }
def DigestSumUptoCardSaid : Prop := Claim7.holds Tryd.pinned (.plain (OpenSpec.upto digestSumSpec)) digestSumUptoCard

/-- THE SECOND FORM's CARD OF 'electionlaw04.DigestJoin'. -/
def digestJoinUptoCard : Claim7 := { stood := { row := digestJoinUptoRow, standIns := [], harness := (true, "23668f034452dc9f9df19797cd594284cdf2f2d98b71dfb316dfd94afe111078"), looks := false }, kinds := [], alts := [], laidByText := true, laidKinds := [.data, .data], laidTests := true, laidLooks := .later }
def DigestJoinUptoCardSaid : Prop := Claim7.holds Tryd.pinned (.plain (OpenSpec.upto digestJoinSpec)) digestJoinUptoCard

/-- THE SECOND FORM's CARD OF 'electionlaw04.DigestParts'. -/
def digestPartsUptoCard : Claim7 := { stood := { row := digestPartsUptoRow, standIns := [], harness := (true, "23668f034452dc9f9df19797cd594284cdf2f2d98b71dfb316dfd94afe111078"), looks := false }, kinds := [], alts := [], laidByText := true, laidKinds := [.data], laidTests := true, laidLooks := .later }
def DigestPartsUptoCardSaid : Prop := Claim7.holds Tryd.pinned (.plain (OpenSpec.upto digestPartsSpec)) digestPartsUptoCard

/-- THE SECOND FORM's CARD OF 'electionlaw04.DigestText'. -/
def digestTextUptoCard : Claim7 := { stood := { row := digestTextUptoRow, standIns := [], harness := (true, "23668f034452dc9f9df19797cd594284cdf2f2d98b71dfb316dfd94afe111078"), looks := false }, kinds := [], alts := [], laidByText := true, laidKinds := [.data], laidTests := true, laidLooks := .later }
def DigestTextUptoCardSaid : Prop := Claim7.holds Tryd.pinned (.plain (OpenSpec.upto digestTextSpec)) digestTextUptoCard

/-- THE SECOND FORM's CARD OF 'electionlaw04.DigestParse'. -/
def digestParseUptoCard : Claim7 := { stood := { row := digestParseUptoRow, standIns := [], harness := (true, "23668f034452dc9f9df19797cd594284cdf2f2d98b71dfb316dfd94afe111078"), looks := false }, kinds := [], alts := [], laidByText := true, laidKinds := [.data], laidTests := true, laidLooks := .later }
def DigestParseUptoCardSaid : Prop := Claim7.holds Tryd.pinned (.plain (OpenSpec.upto digestParseSpec)) digestParseUptoCard

/-- THE SECOND FORM's CARD OF 'electionlaw04.DigestKnown'. -/
def digestKnownUptoCard : Claim7 := { stood := { row := digestKnownUptoRow, standIns := [], harness := (true, "23668f034452dc9f9df19797cd594284cdf2f2d98b71dfb316dfd94afe111078"), looks := false }, kinds := [], alts := [], laidByText := true, laidKinds := [.data], laidTests := true, laidLooks := .later }
def DigestKnownUptoCardSaid : Prop := Claim7.holds Tryd.pinned (.plain (OpenSpec.upto digestKnownSpec)) digestKnownUptoCard
end Rows
end Go.Proofs.YtfmpccfoemgiiaaDoor
