/-
  No cell of these rows narrows 'for every input' (looked for: loops, veiled, ifaces, maps, wideKeys, modest, calm, conditions, laid).
  DERIVED. THE GIVEN ROWS OF THIS SEAT. 10 by the template 'for every input the law returns true; each argument reads behind the call as it read before'; 0 by the template 'total and deterministic' (their statements: YtpjaljjclkfkmaaTotals.lean).
  GIVEN WITH THE SEED: the statements are not yours to turn. If you find one false, say at which input.
  Laid BY PROGRAM, IN A SANDBOX (cutbox-rows.mjs): the forced cells as the released guide's own fill.sh prints them over the translation eb8f1472232005d8… (all of the seat's roots in one cut). By AI agents, Wed Nov 11 2026. No macro, syntax, notation, axiom, sorry.
-/
import Derived.Test.YtpjaljjclkfkmaaChecked
import GoSem.Claim
import GoSem.ClaimJoined
import GoSem.ClaimMapViews
import Derived.JoinedTies
import Derived.KernelRfl
namespace Go.Proofs.Ytpjaljjclkfkmaa
/- THE CELL 'sum', in the pinned program and in every row, IS THE sha256 OF THE DUMP (.gsa) THAT YtpjaljjclkfkmaaProg.lean LOADS. Nothing in Lean hashes anything: it is a label: what it is worth is what the hold of that sum in a sandbox is worth. -/
noncomputable def Try.pinned : Pinned := { name := "ytpjaljjclkfkmaa", sum := "eb8f1472232005d80f8f4402634054013910ef173c73049b2634a44b14f31e0e", checked := Try.checked }
namespace Rows
def none {H : Type} : Left H := { results := [], args := [] }

/-- 'electionlaw09.ImageNew': WHATEVER THE INPUT: true; the input reads as it did. -/
def imageNewSpec : ChangeSpec := { name := "imageNew", fn := fun _ => fun
  | [d1, d2] => { results := [.lit (.bool true)], args := [d1, d2] }
  | _ => none }
def imageNewRow : OpenClaim := { program := "ytpjaljjclkfkmaa", sum := "eb8f1472232005d80f8f4402634054013910ef173c73049b2634a44b14f31e0e", func := "election/electionlaw09.ImageNew", spec := "imageNew", unfollowed := true, recurses := true, apart := false }
def ImageNewSaid : Prop := imageNewRow.holds Try.pinned (OpenSpec.ofChange imageNewSpec)

/-- ITS FALSE NEIGHBOUR: 'it returns false'. Refute it at one input. -/
def imageNewWrong : ChangeSpec := { name := "imageNew", fn := fun _ => fun
  | [d1, d2] => { results := [.lit (.bool false)], args := [d1, d2] }
  | _ => none }
def ImageNewWrongFalsely : Prop := imageNewRow.holds Try.pinned (OpenSpec.ofChange imageNewWrong)

/-- 'electionlaw09.ImageValid': WHATEVER THE INPUT: true; the input reads as it did. -/
def imageValidSpec : ChangeSpec := { name := "imageValid", fn := fun _ => fun
  | [d] => { results := [.lit (.bool true)], args := [d] }
  | _ => none }
def imageValidRow : OpenClaim := { program := "ytpjaljjclkfkmaa", sum := "eb8f1472232005d80f8f4402634054013910ef173c73049b2634a44b14f31e0e", func := "election/electionlaw09.ImageValid", spec := "imageValid", unfollowed := true, recurses := true, apart := false }
def ImageValidSaid : Prop := imageValidRow.holds Try.pinned (OpenSpec.ofChange imageValidSpec)

/-- ITS FALSE NEIGHBOUR: 'it returns false'. Refute it at one input. -/
def imageValidWrong : ChangeSpec := { name := "imageValid", fn := fun _ => fun
  | [d] => { results := [.lit (.bool false)], args := [d] }
  | _ => none }
def ImageValidWrongFalsely : Prop := imageValidRow.holds Try.pinned (OpenSpec.ofChange imageValidWrong)

/-- 'electionlaw09.ImageGet': WHATEVER THE INPUT: true; the input reads as it did. -/
def imageGetSpec : ChangeSpec := { name := "imageGet", fn := fun _ => fun
  | [d1, d2, d3] => { results := [.lit (.bool true)], args := [d1, d2, d3] }
  | _ => none }
def imageGetRow : OpenClaim := { program := "ytpjaljjclkfkmaa", sum := "eb8f1472232005d80f8f4402634054013910ef173c73049b2634a44b14f31e0e", func := "election/electionlaw09.ImageGet", spec := "imageGet", unfollowed := true, recurses := true, apart := false }
def ImageGetSaid : Prop := imageGetRow.holds Try.pinned (OpenSpec.ofChange imageGetSpec)

/-- ITS FALSE NEIGHBOUR: 'it returns false'. Refute it at one input. -/
def imageGetWrong : ChangeSpec := { name := "imageGet", fn := fun _ => fun
  | [d1, d2, d3] => { results := [.lit (.bool false)], args := [d1, d2, d3] }
  | _ => none }
def ImageGetWrongFalsely : Prop := imageGetRow.holds Try.pinned (OpenSpec.ofChange imageGetWrong)

/-- 'electionlaw09.ImageFill': WHATEVER THE INPUT: true; the input reads as it did. -/
def imageFillSpec : ChangeSpec := { name := "imageFill", fn := fun _ => fun
  | [d1, d2, d3] => { results := [.lit (.bool true)], args := [d1, d2, d3] }
  | _ => none }
def imageFillRow : OpenClaim := { program := "ytpjaljjclkfkmaa", sum := "eb8f1472232005d80f8f4402634054013910ef173c73049b2634a44b14f31e0e", func := "election/electionlaw09.ImageFill", spec := "imageFill", unfollowed := true, recurses := true, apart := false }
def ImageFillSaid : Prop := imageFillRow.holds Try.pinned (OpenSpec.ofChange imageFillSpec)

/-- ITS FALSE NEIGHBOUR: 'it returns false'. Refute it at one input. -/
def imageFillWrong : ChangeSpec := { name := "imageFill", fn := fun _ => fun
  | [d1, d2, d3] => { results := [.lit (.bool false)], args := [d1, d2, d3] }
  | _ => none }
def ImageFillWrongFalsely : Prop := imageFillRow.holds Try.pinned (OpenSpec.ofChange imageFillWrong)

/-- 'electionlaw09.ImageShift': WHATEVER THE INPUT: true; the input reads as it did. -/
def imageShiftSpec : ChangeSpec := { name := "imageShift", fn := fun _ => fun
  | [d1, d2, d3] => { results := [.lit (.bool true)], args := [d1, d2, d3] }
  | _ => none }
def imageShiftRow : OpenClaim := { program := "ytpjaljjclkfkmaa", sum := "eb8f1472232005d80f8f4402634054013910ef173c73049b2634a44b14f31e0e", func := "election/electionlaw09.ImageShift", spec := "imageShift", unfollowed := true, recurses := true, apart := false }
def ImageShiftSaid : Prop := imageShiftRow.holds Try.pinned (OpenSpec.ofChange imageShiftSpec)

/-- ITS FALSE NEIGHBOUR: 'it returns false'. Refute it at one input. -/
def imageShiftWrong : ChangeSpec := { name := "imageShift", fn := fun _ => fun
  | [d1, d2, d3] => { results := [.lit (.bool false)], args := [d1, d2, d3] }
  | _ => none }
def ImageShiftWrongFalsely : Prop := imageShiftRow.holds Try.pinned (OpenSpec.ofChange imageShiftWrong)

/-- 'electionlaw09.ImageTurn': WHATEVER THE INPUT: true; the input reads as it did. -/
def imageTurnSpec : ChangeSpec := { name := "imageTurn", fn := fun _ => fun
  | [d1, d2, d3] => { results := [.lit (.bool true)], args := [d1, d2, d3] }
  | _ => none }
def imageTurnRow : OpenClaim := { program := "ytpjaljjclkfkmaa", sum := "eb8f1472232005d80f8f4402634054013910ef173c73049b2634a44b14f31e0e", func := "election/electionlaw09.ImageTurn", spec := "imageTurn", unfollowed := true, recurses := true, apart := false }
def ImageTurnSaid : Prop := imageTurnRow.holds Try.pinned (OpenSpec.ofChange imageTurnSpec)

/-- ITS FALSE NEIGHBOUR: 'it returns false'. Refute it at one input. -/
def imageTurnWrong : ChangeSpec := { name := "imageTurn", fn := fun _ => fun
  | [d1, d2, d3] => { results := [.lit (.bool false)], args := [d1, d2, d3] }
  | _ => none }
def ImageTurnWrongFalsely : Prop := imageTurnRow.holds Try.pinned (OpenSpec.ofChange imageTurnWrong)

/-- 'electionlaw09.ImageXor': WHATEVER THE INPUT: true; the input reads as it did. -/
def imageXorSpec : ChangeSpec := { name := "imageXor", fn := fun _ => fun
  | [d1, d2] => { results := [.lit (.bool true)], args := [d1, d2] }
  | _ => none }
def imageXorRow : OpenClaim := { program := "ytpjaljjclkfkmaa", sum := "eb8f1472232005d80f8f4402634054013910ef173c73049b2634a44b14f31e0e", func := "election/electionlaw09.ImageXor", spec := "imageXor", unfollowed := true, recurses := true, apart := false }
def ImageXorSaid : Prop := imageXorRow.holds Try.pinned (OpenSpec.ofChange imageXorSpec)

/-- ITS FALSE NEIGHBOUR: 'it returns false'. Refute it at one input. -/
def imageXorWrong : ChangeSpec := { name := "imageXor", fn := fun _ => fun
  | [d1, d2] => { results := [.lit (.bool false)], args := [d1, d2] }
  | _ => none }
def ImageXorWrongFalsely : Prop := imageXorRow.holds Try.pinned (OpenSpec.ofChange imageXorWrong)

/-- 'electionlaw09.ImageCode': WHATEVER THE INPUT: true; the input reads as it did. -/
def imageCodeSpec : ChangeSpec := { name := "imageCode", fn := fun _ => fun
  | [d] => { results := [.lit (.bool true)], args := [d] }
  | _ => none }
def imageCodeRow : OpenClaim := { program := "ytpjaljjclkfkmaa", sum := "eb8f1472232005d80f8f4402634054013910ef173c73049b2634a44b14f31e0e", func := "election/electionlaw09.ImageCode", spec := "imageCode", unfollowed := true, recurses := true, apart := false }
def ImageCodeSaid : Prop := imageCodeRow.holds Try.pinned (OpenSpec.ofChange imageCodeSpec)

/-- ITS FALSE NEIGHBOUR: 'it returns false'. Refute it at one input. -/
def imageCodeWrong : ChangeSpec := { name := "imageCode", fn := fun _ => fun
  | [d] => { results := [.lit (.bool false)], args := [d] }
  | _ => none }
def ImageCodeWrongFalsely : Prop := imageCodeRow.holds Try.pinned (OpenSpec.ofChange imageCodeWrong)

/-- 'electionlaw09.ImageDecode': WHATEVER THE INPUT: true; the input reads as it did. -/
def imageDecodeSpec : ChangeSpec := { name := "imageDecode", fn := fun _ => fun
  | [d] => { results := [.lit (.bool true)], args := [d] }
  | _ => none }
def imageDecodeRow : OpenClaim := { program := "ytpjaljjclkfkmaa", sum := "eb8f1472232005d80f8f4402634054013910ef173c73049b2634a44b14f31e0e", func := "election/electionlaw09.ImageDecode", spec := "imageDecode", unfollowed := true, recurses := true, apart := false }
def ImageDecodeSaid : Prop := imageDecodeRow.holds Try.pinned (OpenSpec.ofChange imageDecodeSpec)

/-- ITS FALSE NEIGHBOUR: 'it returns false'. Refute it at one input. -/
def imageDecodeWrong : ChangeSpec := { name := "imageDecode", fn := fun _ => fun
  | [d] => { results := [.lit (.bool false)], args := [d] }
  | _ => none }
def ImageDecodeWrongFalsely : Prop := imageDecodeRow.holds Try.pinned (OpenSpec.ofChange imageDecodeWrong)

/-- 'electionlaw09.ImageNone': WHATEVER THE INPUT: true; the input reads as it did. -/
def imageNoneSpec : ChangeSpec := { name := "imageNone", fn := fun _ => fun
  | [d1, d2, d3] => { results := [.lit (.bool true)], args := [d1, d2, d3] }
  | _ => none }
def imageNoneRow : OpenClaim := { program := "ytpjaljjclkfkmaa", sum := "eb8f1472232005d80f8f4402634054013910ef173c73049b2634a44b14f31e0e", func := "election/electionlaw09.ImageNone", spec := "imageNone", unfollowed := true, recurses := true, apart := false }
def ImageNoneSaid : Prop := imageNoneRow.holds Try.pinned (OpenSpec.ofChange imageNoneSpec)

/-- ITS FALSE NEIGHBOUR: 'it returns false'. Refute it at one input. -/
def imageNoneWrong : ChangeSpec := { name := "imageNone", fn := fun _ => fun
  | [d1, d2, d3] => { results := [.lit (.bool false)], args := [d1, d2, d3] }
  | _ => none }
def ImageNoneWrongFalsely : Prop := imageNoneRow.holds Try.pinned (OpenSpec.ofChange imageNoneWrong)

/- THE SECOND FORM. 'bulk': how many values and letters a reading holds, each counted each time it is reached (what is shared counts as often as it is met; a slice's spare places count too). A statement '..UptoSaid' is the law's where the arguments, and the package variables that the reading takes, are together of bulk at most 1048576: NARROWER than '..Said'. Prove '..Said' where nothing that the law and all that it calls make is longer than what came in: it says more and counts as full. Else prove '..UptoSaid'. A law counts once. -/
mutual
def uptoBulk {H : Type} : DataW H → Nat
  | .lit (.string bytes) => bytes.length + 1
  | .lit _ => 1
  | .nil => 1
  | .ptr d => uptoBulk d + 1
  | .slice elems spare => uptoBulkAll elems + uptoBulkAll spare + 1
  | .agg parts => uptoBulkAll parts + 1
  | .iface _ d => uptoBulk d + 1
  | .map entries => uptoBulkEntries entries + 1
  | .held _ => 1
def uptoBulkAll {H : Type} : List (DataW H) → Nat
  | [] => 0
  | d :: r => uptoBulk d + uptoBulkAll r
def uptoBulkEntries {H : Type} : List (Lit × DataW H) → Nat
  | [] => 0
  | x :: r => uptoBulkEntry x + uptoBulkEntries r
def uptoBulkEntry {H : Type} : Lit × DataW H → Nat
  | (.string bytes, d) => bytes.length + uptoBulk d + 1
  | (_, d) => uptoBulk d + 1
 end
def uptoSmall : (H : Type) → List (DataW H) → Bool := fun _ ds => decide (uptoBulkAll ds ≤ 1048576)
def OpenSpec.upto (s : _root_.Go.ChangeSpec) : _root_.Go.OpenSpec := { _root_.Go.OpenSpec.ofChange s with cond := some uptoSmall }

/-- 'electionlaw09.ImageNew', WHERE WHAT IT READS IS OF BULK AT MOST 1048576: true; the input reads as it did. -/
def imageNewUptoRow : OpenClaim := { program := "ytpjaljjclkfkmaa", sum := "eb8f1472232005d80f8f4402634054013910ef173c73049b2634a44b14f31e0e", func := "election/electionlaw09.ImageNew", spec := "imageNew", unfollowed := true, recurses := true, apart := false, narrowed := true }
def ImageNewUptoSaid : Prop := imageNewUptoRow.holds Try.pinned (OpenSpec.upto imageNewSpec)

/-- 'electionlaw09.ImageValid', WHERE WHAT IT READS IS OF BULK AT MOST 1048576: true; the input reads as it did. -/
def imageValidUptoRow : OpenClaim := { program := "ytpjaljjclkfkmaa", sum := "eb8f1472232005d80f8f4402634054013910ef173c73049b2634a44b14f31e0e", func := "election/electionlaw09.ImageValid", spec := "imageValid", unfollowed := true, recurses := true, apart := false, narrowed := true }
def ImageValidUptoSaid : Prop := imageValidUptoRow.holds Try.pinned (OpenSpec.upto imageValidSpec)

/-- 'electionlaw09.ImageGet', WHERE WHAT IT READS IS OF BULK AT MOST 1048576: true; the input reads as it did. -/
def imageGetUptoRow : OpenClaim := { program := "ytpjaljjclkfkmaa", sum := "eb8f1472232005d80f8f4402634054013910ef173c73049b2634a44b14f31e0e", func := "election/electionlaw09.ImageGet", spec := "imageGet", unfollowed := true, recurses := true, apart := false, narrowed := true }
def ImageGetUptoSaid : Prop := imageGetUptoRow.holds Try.pinned (OpenSpec.upto imageGetSpec)

/-- 'electionlaw09.ImageFill', WHERE WHAT IT READS IS OF BULK AT MOST 1048576: true; the input reads as it did. -/
def imageFillUptoRow : OpenClaim := { program := "ytpjaljjclkfkmaa", sum := "eb8f1472232005d80f8f4402634054013910ef173c73049b2634a44b14f31e0e", func := "election/electionlaw09.ImageFill", spec := "imageFill", unfollowed := true, recurses := true, apart := false, narrowed := true }
def ImageFillUptoSaid : Prop := imageFillUptoRow.holds Try.pinned (OpenSpec.upto imageFillSpec)

/-- 'electionlaw09.ImageShift', WHERE WHAT IT READS IS OF BULK AT MOST 1048576: true; the input reads as it did. -/
def imageShiftUptoRow : OpenClaim := { program := "ytpjaljjclkfkmaa", sum := "eb8f1472232005d80f8f4402634054013910ef173c73049b2634a44b14f31e0e", func := "election/electionlaw09.ImageShift", spec := "imageShift", unfollowed := true, recurses := true, apart := false, narrowed := true }
def ImageShiftUptoSaid : Prop := imageShiftUptoRow.holds Try.pinned (OpenSpec.upto imageShiftSpec)

/-- 'electionlaw09.ImageTurn', WHERE WHAT IT READS IS OF BULK AT MOST 1048576: true; the input reads as it did. -/
def imageTurnUptoRow : OpenClaim := { program := "ytpjaljjclkfkmaa", sum := "eb8f1472232005d80f8f4402634054013910ef173c73049b2634a44b14f31e0e", func := "election/electionlaw09.ImageTurn", spec := "imageTurn", unfollowed := true, recurses := true, apart := false, narrowed := true }
def ImageTurnUptoSaid : Prop := imageTurnUptoRow.holds Try.pinned (OpenSpec.upto imageTurnSpec)

/-- 'electionlaw09.ImageXor', WHERE WHAT IT READS IS OF BULK AT MOST 1048576: true; the input reads as it did. -/
def imageXorUptoRow : OpenClaim := { program := "ytpjaljjclkfkmaa", sum := "eb8f1472232005d80f8f4402634054013910ef173c73049b2634a44b14f31e0e", func := "election/electionlaw09.ImageXor", spec := "imageXor", unfollowed := true, recurses := true, apart := false, narrowed := true }
def ImageXorUptoSaid : Prop := imageXorUptoRow.holds Try.pinned (OpenSpec.upto imageXorSpec)

/-- 'electionlaw09.ImageCode', WHERE WHAT IT READS IS OF BULK AT MOST 1048576: true; the input reads as it did. -/
def imageCodeUptoRow : OpenClaim := { program := "ytpjaljjclkfkmaa", sum := "eb8f1472232005d80f8f4402634054013910ef173c73049b2634a44b14f31e0e", func := "election/electionlaw09.ImageCode", spec := "imageCode", unfollowed := true, recurses := true, apart := false, narrowed := true }
def ImageCodeUptoSaid : Prop := imageCodeUptoRow.holds Try.pinned (OpenSpec.upto imageCodeSpec)

/-- 'electionlaw09.ImageDecode', WHERE WHAT IT READS IS OF BULK AT MOST 1048576: true; the input reads as it did. -/
def imageDecodeUptoRow : OpenClaim := { program := "ytpjaljjclkfkmaa", sum := "eb8f1472232005d80f8f4402634054013910ef173c73049b2634a44b14f31e0e", func := "election/electionlaw09.ImageDecode", spec := "imageDecode", unfollowed := true, recurses := true, apart := false, narrowed := true }
def ImageDecodeUptoSaid : Prop := imageDecodeUptoRow.holds Try.pinned (OpenSpec.upto imageDecodeSpec)

/-- 'electionlaw09.ImageNone', WHERE WHAT IT READS IS OF BULK AT MOST 1048576: true; the input reads as it did. -/
def imageNoneUptoRow : OpenClaim := { program := "ytpjaljjclkfkmaa", sum := "eb8f1472232005d80f8f4402634054013910ef173c73049b2634a44b14f31e0e", func := "election/electionlaw09.ImageNone", spec := "imageNone", unfollowed := true, recurses := true, apart := false, narrowed := true }
def ImageNoneUptoSaid : Prop := imageNoneUptoRow.holds Try.pinned (OpenSpec.upto imageNoneSpec)

end Rows
end Go.Proofs.Ytpjaljjclkfkmaa
