/-
  DERIVED. GIVEN WITH THE SEED: THE CARDS: each row of YtgjndondonehhaaDoorRows.lean that lists a variable, with what it lists TIED to the program's text (the seventh form; the later family's looks); each row that meets fmt, with fmt's text TOLD by the authors' own Lean function (tested against real Go, not proved from fmt's source: count such statements apart). THE CARD IS WHAT COUNTS. Prove the row's statement (the work); the ties are given (YtgjndondonehhaaDoorTie.lean); close each card by the builder's one call (the guide's Derived/Test/ToyasCard.lean, 'card_holds'). Laid BY PROGRAM, IN A SANDBOX (cutbox-door.mjs). By AI agents, Wed Nov 11 2026. No macro, syntax, notation, axiom, sorry.
-/
import Derived.Test.YtgjndondonehhaaDoorRows
import GoSem.ClaimSeven
namespace Go.Proofs.YtgjndondonehhaaDoor
namespace Rows

/-- THE TIED CARD OF 'electionlaw01.NatQuotient'. -/
def natQuotientCard : Claim7 := { stood := { row := natQuotientRow, standIns := [], harness := (true, "abe1a7fa1b116b655bb8a16b3990ec2c937c556588cd79bae766877805d16a94"), looks := false }, kinds := [], alts := [], laidByText := true, laidKinds := [.data, .data, .data], laidTests := true, laidLooks := .later }
def NatQuotientCardSaid : Prop := Claim7.holds Tryd.pinned (.plain (OpenSpec.ofChange natQuotientSpec)) natQuotientCard

/-- THE TIED CARD OF 'electionlaw01.NatInverse'. -/
def natInverseCard : Claim7 := { stood := { row := natInverseRow, standIns := [], harness := (true, "abe1a7fa1b116b655bb8a16b3990ec2c937c556588cd79bae766877805d16a94"), looks := false }, kinds := [], alts := [], laidByText := true, laidKinds := [.data, .data, .data], laidTests := true, laidLooks := .later }
def NatInverseCardSaid : Prop := Claim7.holds Tryd.pinned (.plain (OpenSpec.ofChange natInverseSpec)) natInverseCard

/-- THE TIED CARD OF 'electionlaw01.NatCommon'. -/
def natCommonCard : Claim7 := { stood := { row := natCommonRow, standIns := [], harness := (true, "abe1a7fa1b116b655bb8a16b3990ec2c937c556588cd79bae766877805d16a94"), looks := false }, kinds := [], alts := [], laidByText := true, laidKinds := [.data, .data, .data], laidTests := true, laidLooks := .later }
def NatCommonCardSaid : Prop := Claim7.holds Tryd.pinned (.plain (OpenSpec.ofChange natCommonSpec)) natCommonCard

/-- THE TIED CARD OF 'electionlaw01.NatForm'. -/
def natFormCard : Claim7 := { stood := { row := natFormRow, standIns := [], harness := (true, "abe1a7fa1b116b655bb8a16b3990ec2c937c556588cd79bae766877805d16a94"), looks := false }, kinds := [], alts := [], laidByText := true, laidKinds := [.data, .data, .data], laidTests := true, laidLooks := .later }
def NatFormCardSaid : Prop := Claim7.holds Tryd.pinned (.plain (OpenSpec.ofChange natFormSpec)) natFormCard

/-- THE TIED CARD OF 'electionlaw02.RatioForm'. -/
def ratioFormCard : Claim7 := { stood := { row := ratioFormRow, standIns := [], harness := (true, "abe1a7fa1b116b655bb8a16b3990ec2c937c556588cd79bae766877805d16a94"), looks := false }, kinds := [], alts := [], laidByText := true, laidKinds := [.data, .data, .data], laidTests := true, laidLooks := .later }
def RatioFormCardSaid : Prop := Claim7.holds Tryd.pinned (.plain (OpenSpec.ofChange ratioFormSpec)) ratioFormCard

/-- THE TIED CARD OF 'electionlaw02.RatioField'. -/
def ratioFieldCard : Claim7 := { stood := { row := ratioFieldRow, standIns := [], harness := (true, "abe1a7fa1b116b655bb8a16b3990ec2c937c556588cd79bae766877805d16a94"), looks := false }, kinds := [], alts := [], laidByText := true, laidKinds := [.data, .data, .data], laidTests := true, laidLooks := .later }
def RatioFieldCardSaid : Prop := Claim7.holds Tryd.pinned (.plain (OpenSpec.ofChange ratioFieldSpec)) ratioFieldCard

/-- THE TIED CARD OF 'electionlaw02.RatioFloor'. -/
def ratioFloorCard : Claim7 := { stood := { row := ratioFloorRow, standIns := [], harness := (true, "abe1a7fa1b116b655bb8a16b3990ec2c937c556588cd79bae766877805d16a94"), looks := false }, kinds := [], alts := [], laidByText := true, laidKinds := [.data, .data, .data], laidTests := true, laidLooks := .later }
def RatioFloorCardSaid : Prop := Claim7.holds Tryd.pinned (.plain (OpenSpec.ofChange ratioFloorSpec)) ratioFloorCard

/-- THE TIED CARD OF 'electionlaw02.RatioText'. -/
def ratioTextCard : Claim7 := { stood := { row := ratioTextRow, standIns := [], harness := (true, "abe1a7fa1b116b655bb8a16b3990ec2c937c556588cd79bae766877805d16a94"), looks := false }, kinds := [], alts := [], laidByText := true, laidKinds := [.data, .data, .data], laidTests := true, laidLooks := .later }
def RatioTextCardSaid : Prop := Claim7.holds Tryd.pinned (.plain (OpenSpec.ofChange ratioTextSpec)) ratioTextCard

/-- THE TIED CARD OF 'electionlaw02.RatioParse'. -/
def ratioParseCard : Claim7 := { stood := { row := ratioParseRow, standIns := [], harness := (true, "abe1a7fa1b116b655bb8a16b3990ec2c937c556588cd79bae766877805d16a94"), looks := false }, kinds := [], alts := [], laidByText := true, laidKinds := [.data, .data, .data], laidTests := true, laidLooks := .later }
def RatioParseCardSaid : Prop := Claim7.holds Tryd.pinned (.plain (OpenSpec.ofChange ratioParseSpec)) ratioParseCard

/-- THE TIED CARD OF 'electionlaw02.RatioInts'. -/
def ratioIntsCard : Claim7 := { stood := { row := ratioIntsRow, standIns := [], harness := (true, "abe1a7fa1b116b655bb8a16b3990ec2c937c556588cd79bae766877805d16a94"), looks := false }, kinds := [], alts := [], laidByText := true, laidKinds := [.data, .data, .data], laidTests := true, laidLooks := .later }
def RatioIntsCardSaid : Prop := Claim7.holds Tryd.pinned (.plain (OpenSpec.ofChange ratioIntsSpec)) ratioIntsCard

/-- THE SECOND FORM's CARD OF 'electionlaw01.NatQuotient'. -/
def natQuotientUptoCard : Claim7 := { stood := { row := natQuotientUptoRow, standIns := [], harness := (true, "abe1a7fa1b116b655bb8a16b3990ec2c937c556588cd79bae766877805d16a94"), looks := false }, kinds := [], alts := [], laidByText := true, laidKinds := [.data, .data, .data], laidTests := true, laidLooks := .later }
def NatQuotientUptoCardSaid : Prop := Claim7.holds Tryd.pinned (.plain (OpenSpec.upto natQuotientSpec)) natQuotientUptoCard

/-- THE SECOND FORM's CARD OF 'electionlaw01.NatInverse'. -/
def natInverseUptoCard : Claim7 := { stood := { row := natInverseUptoRow, standIns := [], harness := (true, "abe1a7fa1b116b655bb8a16b3990ec2c937c556588cd79bae766877805d16a94"), looks := false }, kinds := [], alts := [], laidByText := true, laidKinds := [.data, .data, .data], laidTests := true, laidLooks := .later }
def NatInverseUptoCardSaid : Prop := Claim7.holds Tryd.pinned (.plain (OpenSpec.upto natInverseSpec)) natInverseUptoCard

/-- THE SECOND FORM's CARD OF 'electionlaw01.NatCommon'. -/
def natCommonUptoCard : Claim7 := { stood := { row := natCommonUptoRow, standIns := [], harness := (true, "abe1a7fa1b116b655bb8a16b3990ec2c937c556588cd79bae766877805d16a94"), looks := false }, kinds := [], alts := [], laidByText := true, laidKinds := [.data, .data, .data], laidTests := true, laidLooks := .later }
def NatCommonUptoCardSaid : Prop := Claim7.holds Tryd.pinned (.plain (OpenSpec.upto natCommonSpec)) natCommonUptoCard

/-- THE SECOND FORM's CARD OF 'electionlaw01.NatForm'. -/
def natFormUptoCard : Claim7 := { stood := { row := natFormUptoRow, standIns := [], harness := (true, "abe1a7fa1b116b655bb8a16b3990ec2c937c556588cd79bae766877805d16a94"), looks := false }, kinds := [], alts := [], laidByText := true, laidKinds := [.data, .data, .data], laidTests := true, laidLooks := .later }
def NatFormUptoCardSaid : Prop := Claim7.holds Tryd.pinned (.plain (OpenSpec.upto natFormSpec)) natFormUptoCard

/-- THE SECOND FORM's CARD OF 'electionlaw02.RatioForm'. -/
def ratioFormUptoCard : Claim7 := { stood := { row := ratioFormUptoRow, standIns := [], harness := (true, "abe1a7fa1b116b655bb8a16b3990ec2c937c556588cd79bae766877805d16a94"), looks := false }, kinds := [], alts := [], laidByText := true, laidKinds := [.data, .data, .data], laidTests := true, laidLooks := .later }
def RatioFormUptoCardSaid : Prop := Claim7.holds Tryd.pinned (.plain (OpenSpec.upto ratioFormSpec)) ratioFormUptoCard

/-- THE SECOND FORM's CARD OF 'electionlaw02.RatioField'. -/
def ratioFieldUptoCard : Claim7 := { stood := { row := ratioFieldUptoRow, standIns := [], harness := (true, "abe1a7fa1b116b655bb8a16b3990ec2c937c556588cd79bae766877805d16a94"), looks := false }, kinds := [], alts := [], laidByText := true, laidKinds := [.data, .data, .data], laidTests := true, laidLooks := .later }
def RatioFieldUptoCardSaid : Prop := Claim7.holds Tryd.pinned (.plain (OpenSpec.upto ratioFieldSpec)) ratioFieldUptoCard

/-- THE SECOND FORM's CARD OF 'electionlaw02.RatioFloor'. -/
def ratioFloorUptoCard : Claim7 := { stood := { row := ratioFloorUptoRow, standIns := [], harness := (true, "abe1a7fa1b116b655bb8a16b3990ec2c937c556588cd79bae766877805d16a94"), looks := false }, kinds := [], alts := [], laidByText := true, laidKinds := [.data, .data, .data], laidTests := true, laidLooks := .later }
def RatioFloorUptoCardSaid : Prop := Claim7.holds Tryd.pinned (.plain (OpenSpec.upto ratioFloorSpec)) ratioFloorUptoCard

/-- THE SECOND FORM's CARD OF 'electionlaw02.RatioText'. -/
def ratioTextUptoCard : Claim7 := { stood := { row := ratioTextUptoRow, standIns := [], harness := (true, "abe1a7fa1b116b655bb8a16b3990ec2c937c556588cd79bae766877805d16a94"), looks := false }, kinds := [], alts := [], laidByText := true, laidKinds := [.data, .data, .data], laidTests := true, laidLooks := .later }
def RatioTextUptoCardSaid : Prop := Claim7.holds Tryd.pinned (.plain (OpenSpec.upto ratioTextSpec)) ratioTextUptoCard

/-- THE SECOND FORM's CARD OF 'electionlaw02.RatioParse'. -/
def ratioParseUptoCard : Claim7 := { stood := { row := ratioParseUptoRow, standIns := [], harness := (true, "abe1a7fa1b116b655bb8a16b3990ec2c937c556588cd79bae766877805d16a94"), looks := false }, kinds := [], alts := [], laidByText := true, laidKinds := [.data, .data, .data], laidTests := true, laidLooks := .later }
def RatioParseUptoCardSaid : Prop := Claim7.holds Tryd.pinned (.plain (OpenSpec.upto ratioParseSpec)) ratioParseUptoCard

/-- THE SECOND FORM's CARD OF 'electionlaw02.RatioInts'. -/
def ratioIntsUptoCard : Claim7 := { stood := { row := ratioIntsUptoRow, standIns := [], harness := (true, "abe1a7fa1b116b655bb8a16b3990ec2c937c556588cd79bae766877805d16a94"), looks := false }, kinds := [], alts := [], laidByText := true, laidKinds := [.data, .data, .data], laidTests := true, laidLooks := .later }
def RatioIntsUptoCardSaid : Prop := Claim7.holds Tryd.pinned (.plain (OpenSpec.upto ratioIntsSpec)) ratioIntsUptoCard
end Rows
end Go.Proofs.YtgjndondonehhaaDoor
