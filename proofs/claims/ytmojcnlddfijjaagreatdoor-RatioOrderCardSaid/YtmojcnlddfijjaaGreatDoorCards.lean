/-
  DERIVED. GIVEN WITH THE SEED: THE CARDS: each row of YtmojcnlddfijjaaGreatDoorRows.lean that lists a variable, with what it lists TIED to the program's text (the seventh form; the later family's looks); each row that meets fmt, with fmt's text TOLD by the authors' own Lean function (tested against real Go, not proved from fmt's source: count such statements apart). THE CARD IS WHAT COUNTS. Prove the row's statement (the work); the ties are given (YtmojcnlddfijjaaGreatDoorTie.lean); close each card by the builder's one call (the guide's Derived/Test/ToyasCard.lean, 'card_holds'). Laid BY PROGRAM, IN A SANDBOX (cutbox-door.mjs). By AI agents, Wed Nov 11 2026. No macro, syntax, notation, axiom, sorry.
-/
import Derived.Test.YtmojcnlddfijjaaGreatDoorRows
import GoSem.ClaimSeven
namespace Go.Proofs.YtmojcnlddfijjaaGreatDoor
namespace Rows

/-- THE TIED CARD OF 'electionlaw02.RatioSum'. -/
def ratioSumCard : Claim7 := { stood := { row := ratioSumRow, standIns := [], harness := (true, "b3b801f5b9a76069b643d4b7b7b9b9e54690869e82895b61cb40a3afde2905b0"), looks := false }, kinds := [], alts := [], laidByText := true, laidKinds := [.data, .data, .data], laidTests := true, laidLooks := .later }
def RatioSumCardSaid : Prop := Claim7.holds Tryz.pinned (.plain (OpenSpec.ofChange ratioSumSpec)) ratioSumCard

/-- THE TIED CARD OF 'electionlaw02.RatioProduct'. -/
def ratioProductCard : Claim7 := { stood := { row := ratioProductRow, standIns := [], harness := (true, "b3b801f5b9a76069b643d4b7b7b9b9e54690869e82895b61cb40a3afde2905b0"), looks := false }, kinds := [], alts := [], laidByText := true, laidKinds := [.data, .data, .data], laidTests := true, laidLooks := .later }
def RatioProductCardSaid : Prop := Claim7.holds Tryz.pinned (.plain (OpenSpec.ofChange ratioProductSpec)) ratioProductCard

/-- THE TIED CARD OF 'electionlaw02.RatioOrder'. -/
def ratioOrderCard : Claim7 := { stood := { row := ratioOrderRow, standIns := [], harness := (true, "b3b801f5b9a76069b643d4b7b7b9b9e54690869e82895b61cb40a3afde2905b0"), looks := false }, kinds := [], alts := [], laidByText := true, laidKinds := [.data, .data, .data], laidTests := true, laidLooks := .later }
def RatioOrderCardSaid : Prop := Claim7.holds Tryz.pinned (.plain (OpenSpec.ofChange ratioOrderSpec)) ratioOrderCard

/-- THE SECOND FORM's CARD OF 'electionlaw02.RatioSum'. -/
def ratioSumUptoCard : Claim7 := { stood := { row := ratioSumUptoRow, standIns := [], harness := (true, "b3b801f5b9a76069b643d4b7b7b9b9e54690869e82895b61cb40a3afde2905b0"), looks := false }, kinds := [], alts := [], laidByText := true, laidKinds := [.data, .data, .data], laidTests := true, laidLooks := .later }
def RatioSumUptoCardSaid : Prop := Claim7.holds Tryz.pinned (.plain (OpenSpec.upto ratioSumSpec)) ratioSumUptoCard

/-- THE SECOND FORM's CARD OF 'electionlaw02.RatioProduct'. -/
def ratioProductUptoCard : Claim7 := { stood := { row := ratioProductUptoRow, standIns := [], harness := (true, "b3b801f5b9a76069b643d4b7b7b9b9e54690869e82895b61cb40a3afde2905b0"), looks := false }, kinds := [], alts := [], laidByText := true, laidKinds := [.data, .data, .data], laidTests := true, laidLooks := .later }
def RatioProductUptoCardSaid : Prop := Claim7.holds Tryz.pinned (.plain (OpenSpec.upto ratioProductSpec)) ratioProductUptoCard

/-- THE SECOND FORM's CARD OF 'electionlaw02.RatioOrder'. -/
def ratioOrderUptoCard : Claim7 := { stood := { row := ratioOrderUptoRow, standIns := [], harness := (true, "b3b801f5b9a76069b643d4b7b7b9b9e54690869e82895b61cb40a3afde2905b0"), looks := false }, kinds := [], alts := [], laidByText := true, laidKinds := [.data, .data, .data], laidTests := true, laidLooks := .later }
def RatioOrderUptoCardSaid : Prop := Claim7.holds Tryz.pinned (.plain (OpenSpec.upto ratioOrderSpec)) ratioOrderUptoCard
end Rows
end Go.Proofs.YtmojcnlddfijjaaGreatDoor
