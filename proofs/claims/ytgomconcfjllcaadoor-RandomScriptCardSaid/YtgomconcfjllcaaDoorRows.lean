/-
  NARROWER THAN 'FOR EVERY INPUT', by the rows' own cells (each row's printed sentence says how): RandomScript: laid · RandomPerm: laid · RandomBelow: laid · RandomOrder: laid · RandomApart: laid · RandomNone: laid.
  DERIVED. THE GIVEN ROWS OF THIS SEAT. 6 by the template 'for every input the law returns true; each argument reads behind the call as it read before'; 0 by the template 'total and deterministic' (their statements: YtgomconcfjllcaaDoorTotals.lean).
  GIVEN WITH THE SEED: the statements are not yours to turn. If you find one false, say at which input.
  Laid BY PROGRAM, IN A SANDBOX (cutbox-rows.mjs): the forced cells as the released guide's own fill.sh prints them over the translation e8c9151b0649a43c… (all of the seat's roots in one cut). By AI agents, Wed Nov 11 2026. No macro, syntax, notation, axiom, sorry.
-/
import Derived.Test.YtgomconcfjllcaaDoorChecked
import GoSem.Claim
import GoSem.ClaimJoined
import GoSem.ClaimMapViews
import Derived.JoinedTies
import Derived.KernelRfl
namespace Go.Proofs.YtgomconcfjllcaaDoor
/- THE CELL 'sum', in the pinned program and in every row, IS THE sha256 OF THE DUMP (.gsa) THAT YtgomconcfjllcaaDoorProg.lean LOADS. Nothing in Lean hashes anything: it is a label: what it is worth is what the hold of that sum in a sandbox is worth. -/
noncomputable def Tryd.pinned : Pinned := { name := "ytgomconcfjllcaadoor", sum := "e8c9151b0649a43c6c3dccbc6c1f2863af54834e2e16c3fbdde21c0c53e4c41b", checked := Tryd.checked }
namespace Rows
def none {H : Type} : Left H := { results := [], args := [] }

/- WHAT THE LISTED PACKAGE-LEVEL VARIABLES READ AS WHEN THE CALL BEGINS. Each datum BY PROGRAM (the guide's laid-datum.mjs) off the statement by which the dump's own 'gosem.cut.vars' lays the variable. In a bare row this is a premise. The card (YtgomconcfjllcaaDoorCards.lean) ties it to the program's text. -/
def laid_election_electionref04_k {H : Type} : DataW H := .agg [.lit (.int .u32 1116352408), .lit (.int .u32 1899447441), .lit (.int .u32 3049323471), .lit (.int .u32 3921009573), .lit (.int .u32 961987163), .lit (.int .u32 1508970993), .lit (.int .u32 2453635748), .lit (.int .u32 2870763221), .lit (.int .u32 3624381080), .lit (.int .u32 310598401), .lit (.int .u32 607225278), .lit (.int .u32 1426881987), .lit (.int .u32 1925078388), .lit (.int .u32 2162078206), .lit (.int .u32 2614888103), .lit (.int .u32 3248222580), .lit (.int .u32 3835390401), .lit (.int .u32 4022224774), .lit (.int .u32 264347078), .lit (.int .u32 604807628), .lit (.int .u32 770255983), .lit (.int .u32 1249150122), .lit (.int .u32 1555081692), .lit (.int .u32 1996064986), .lit (.int .u32 2554220882), .lit (.int .u32 2821834349), .lit (.int .u32 2952996808), .lit (.int .u32 3210313671), .lit (.int .u32 3336571891), .lit (.int .u32 3584528711), .lit (.int .u32 113926993), .lit (.int .u32 338241895), .lit (.int .u32 666307205), .lit (.int .u32 773529912), .lit (.int .u32 1294757372), .lit (.int .u32 1396182291), .lit (.int .u32 1695183700), .lit (.int .u32 1986661051), .lit (.int .u32 2177026350), .lit (.int .u32 2456956037), .lit (.int .u32 2730485921), .lit (.int .u32 2820302411), .lit (.int .u32 3259730800), .lit (.int .u32 3345764771), .lit (.int .u32 3516065817), .lit (.int .u32 3600352804), .lit (.int .u32 4094571909), .lit (.int .u32 275423344), .lit (.int .u32 430227734), .lit (.int .u32 506948616), .lit (.int .u32 659060556), .lit (.int .u32 883997877), .lit (.int .u32 958139571), .lit (.int .u32 1322822218), .lit (.int .u32 1537002063), .lit (.int .u32 1747873779), .lit (.int .u32 1955562222), .lit (.int .u32 2024104815), .lit (.int .u32 2227730452), .lit (.int .u32 2361852424), .lit (.int .u32 2428436474), .lit (.int .u32 2756734187), .lit (.int .u32 3204031479), .lit (.int .u32 3329325298)]
def laid_election_digest_roundConstants {H : Type} : DataW H := .agg [.lit (.int .u32 1116352408), .lit (.int .u32 1899447441), .lit (.int .u32 3049323471), .lit (.int .u32 3921009573), .lit (.int .u32 961987163), .lit (.int .u32 1508970993), .lit (.int .u32 2453635748), .lit (.int .u32 2870763221), .lit (.int .u32 3624381080), .lit (.int .u32 310598401), .lit (.int .u32 607225278), .lit (.int .u32 1426881987), .lit (.int .u32 1925078388), .lit (.int .u32 2162078206), .lit (.int .u32 2614888103), .lit (.int .u32 3248222580), .lit (.int .u32 3835390401), .lit (.int .u32 4022224774), .lit (.int .u32 264347078), .lit (.int .u32 604807628), .lit (.int .u32 770255983), .lit (.int .u32 1249150122), .lit (.int .u32 1555081692), .lit (.int .u32 1996064986), .lit (.int .u32 2554220882), .lit (.int .u32 2821834349), .lit (.int .u32 2952996808), .lit (.int .u32 3210313671), .lit (.int .u32 3336571891), .lit (.int .u32 3584528711), .lit (.int .u32 113926993), .lit (.int .u32 338241895), .lit (.int .u32 666307205), .lit (.int .u32 773529912), .lit (.int .u32 1294757372), .lit (.int .u32 1396182291), .lit (.int .u32 1695183700), .lit (.int .u32 1986661051), .lit (.int .u32 2177026350), .lit (.int .u32 2456956037), .lit (.int .u32 2730485921), .lit (.int .u32 2820302411), .lit (.int .u32 3259730800), .lit (.int .u32 3345764771), .lit (.int .u32 3516065817), .lit (.int .u32 3600352804), .lit (.int .u32 4094571909), .lit (.int .u32 275423344), .lit (.int .u32 430227734), .lit (.int .u32 506948616), .lit (.int .u32 659060556), .lit (.int .u32 883997877), .lit (.int .u32 958139571), .lit (.int .u32 1322822218), .lit (.int .u32 1537002063), .lit (.int .u32 1747873779), .lit (.int .u32 1955562222), .lit (.int .u32 2024104815), .lit (.int .u32 2227730452), .lit (.int .u32 2361852424), .lit (.int .u32 2428436474), .lit (.int .u32 2756734187), .lit (.int .u32 3204031479), .lit (.int .u32 3329325298)]

/-- 'electionlaw05.RandomScript': WHATEVER THE INPUT: true; the input reads as it did. -/
def randomScriptSpec : ChangeSpec := { name := "randomScript", fn := fun _ => fun
  | [d1, d2] => { results := [.lit (.bool true)], args := [d1, d2] }
  | _ => none }
def randomScriptRow : OpenClaim := { program := "ytgomconcfjllcaadoor", sum := "e8c9151b0649a43c6c3dccbc6c1f2863af54834e2e16c3fbdde21c0c53e4c41b", func := "election/electionlaw05.RandomScript", spec := "randomScript", unfollowed := true, recurses := true, named := ["election/digest.roundConstants", "election/electionref04.k"], apart := false, laid := [("election/electionref04.k", laid_election_electionref04_k), ("election/digest.roundConstants", laid_election_digest_roundConstants)] }
def RandomScriptSaid : Prop := randomScriptRow.holds Tryd.pinned (OpenSpec.ofChange randomScriptSpec)

/-- ITS FALSE NEIGHBOUR: 'it returns false'. Refute it at one input. -/
def randomScriptWrong : ChangeSpec := { name := "randomScript", fn := fun _ => fun
  | [d1, d2] => { results := [.lit (.bool false)], args := [d1, d2] }
  | _ => none }
def RandomScriptWrongFalsely : Prop := randomScriptRow.holds Tryd.pinned (OpenSpec.ofChange randomScriptWrong)

/-- 'electionlaw05.RandomPerm': WHATEVER THE INPUT: true; the input reads as it did. -/
def randomPermSpec : ChangeSpec := { name := "randomPerm", fn := fun _ => fun
  | [d1, d2] => { results := [.lit (.bool true)], args := [d1, d2] }
  | _ => none }
def randomPermRow : OpenClaim := { program := "ytgomconcfjllcaadoor", sum := "e8c9151b0649a43c6c3dccbc6c1f2863af54834e2e16c3fbdde21c0c53e4c41b", func := "election/electionlaw05.RandomPerm", spec := "randomPerm", unfollowed := true, recurses := true, named := ["election/digest.roundConstants", "election/electionref04.k"], apart := false, laid := [("election/electionref04.k", laid_election_electionref04_k), ("election/digest.roundConstants", laid_election_digest_roundConstants)] }
def RandomPermSaid : Prop := randomPermRow.holds Tryd.pinned (OpenSpec.ofChange randomPermSpec)

/-- ITS FALSE NEIGHBOUR: 'it returns false'. Refute it at one input. -/
def randomPermWrong : ChangeSpec := { name := "randomPerm", fn := fun _ => fun
  | [d1, d2] => { results := [.lit (.bool false)], args := [d1, d2] }
  | _ => none }
def RandomPermWrongFalsely : Prop := randomPermRow.holds Tryd.pinned (OpenSpec.ofChange randomPermWrong)

/-- 'electionlaw05.RandomBelow': WHATEVER THE INPUT: true; the input reads as it did. -/
def randomBelowSpec : ChangeSpec := { name := "randomBelow", fn := fun _ => fun
  | [d1, d2] => { results := [.lit (.bool true)], args := [d1, d2] }
  | _ => none }
def randomBelowRow : OpenClaim := { program := "ytgomconcfjllcaadoor", sum := "e8c9151b0649a43c6c3dccbc6c1f2863af54834e2e16c3fbdde21c0c53e4c41b", func := "election/electionlaw05.RandomBelow", spec := "randomBelow", unfollowed := true, recurses := true, named := ["election/digest.roundConstants", "election/electionref04.k"], apart := false, laid := [("election/electionref04.k", laid_election_electionref04_k), ("election/digest.roundConstants", laid_election_digest_roundConstants)] }
def RandomBelowSaid : Prop := randomBelowRow.holds Tryd.pinned (OpenSpec.ofChange randomBelowSpec)

/-- ITS FALSE NEIGHBOUR: 'it returns false'. Refute it at one input. -/
def randomBelowWrong : ChangeSpec := { name := "randomBelow", fn := fun _ => fun
  | [d1, d2] => { results := [.lit (.bool false)], args := [d1, d2] }
  | _ => none }
def RandomBelowWrongFalsely : Prop := randomBelowRow.holds Tryd.pinned (OpenSpec.ofChange randomBelowWrong)

/-- 'electionlaw05.RandomOrder': WHATEVER THE INPUT: true; the input reads as it did. -/
def randomOrderSpec : ChangeSpec := { name := "randomOrder", fn := fun _ => fun
  | [d1, d2] => { results := [.lit (.bool true)], args := [d1, d2] }
  | _ => none }
def randomOrderRow : OpenClaim := { program := "ytgomconcfjllcaadoor", sum := "e8c9151b0649a43c6c3dccbc6c1f2863af54834e2e16c3fbdde21c0c53e4c41b", func := "election/electionlaw05.RandomOrder", spec := "randomOrder", unfollowed := true, recurses := true, named := ["election/digest.roundConstants", "election/electionref04.k"], apart := false, laid := [("election/electionref04.k", laid_election_electionref04_k), ("election/digest.roundConstants", laid_election_digest_roundConstants)] }
def RandomOrderSaid : Prop := randomOrderRow.holds Tryd.pinned (OpenSpec.ofChange randomOrderSpec)

/-- ITS FALSE NEIGHBOUR: 'it returns false'. Refute it at one input. -/
def randomOrderWrong : ChangeSpec := { name := "randomOrder", fn := fun _ => fun
  | [d1, d2] => { results := [.lit (.bool false)], args := [d1, d2] }
  | _ => none }
def RandomOrderWrongFalsely : Prop := randomOrderRow.holds Tryd.pinned (OpenSpec.ofChange randomOrderWrong)

/-- 'electionlaw05.RandomApart': WHATEVER THE INPUT: true; the input reads as it did. -/
def randomApartSpec : ChangeSpec := { name := "randomApart", fn := fun _ => fun
  | [d1, d2, d3] => { results := [.lit (.bool true)], args := [d1, d2, d3] }
  | _ => none }
def randomApartRow : OpenClaim := { program := "ytgomconcfjllcaadoor", sum := "e8c9151b0649a43c6c3dccbc6c1f2863af54834e2e16c3fbdde21c0c53e4c41b", func := "election/electionlaw05.RandomApart", spec := "randomApart", unfollowed := true, recurses := true, named := ["election/digest.roundConstants", "election/electionref04.k"], apart := false, laid := [("election/electionref04.k", laid_election_electionref04_k), ("election/digest.roundConstants", laid_election_digest_roundConstants)] }
def RandomApartSaid : Prop := randomApartRow.holds Tryd.pinned (OpenSpec.ofChange randomApartSpec)

/-- ITS FALSE NEIGHBOUR: 'it returns false'. Refute it at one input. -/
def randomApartWrong : ChangeSpec := { name := "randomApart", fn := fun _ => fun
  | [d1, d2, d3] => { results := [.lit (.bool false)], args := [d1, d2, d3] }
  | _ => none }
def RandomApartWrongFalsely : Prop := randomApartRow.holds Tryd.pinned (OpenSpec.ofChange randomApartWrong)

/-- 'electionlaw05.RandomNone': WHATEVER THE INPUT: true; the input reads as it did. -/
def randomNoneSpec : ChangeSpec := { name := "randomNone", fn := fun _ => fun
  | [] => { results := [.lit (.bool true)], args := [] }
  | _ => none }
def randomNoneRow : OpenClaim := { program := "ytgomconcfjllcaadoor", sum := "e8c9151b0649a43c6c3dccbc6c1f2863af54834e2e16c3fbdde21c0c53e4c41b", func := "election/electionlaw05.RandomNone", spec := "randomNone", unfollowed := true, recurses := true, named := ["election/digest.roundConstants", "election/electionref04.k"], apart := false, laid := [("election/electionref04.k", laid_election_electionref04_k), ("election/digest.roundConstants", laid_election_digest_roundConstants)] }
def RandomNoneSaid : Prop := randomNoneRow.holds Tryd.pinned (OpenSpec.ofChange randomNoneSpec)

/-- ITS FALSE NEIGHBOUR: 'it returns false'. Refute it at one input. -/
def randomNoneWrong : ChangeSpec := { name := "randomNone", fn := fun _ => fun
  | [] => { results := [.lit (.bool false)], args := [] }
  | _ => none }
def RandomNoneWrongFalsely : Prop := randomNoneRow.holds Tryd.pinned (OpenSpec.ofChange randomNoneWrong)

/- THE SECOND FORM. 'bulk': how many values and letters a reading holds, each counted each time it is reached (what is shared counts as often as it is met; a slice's spare places count too). A statement '..UptoSaid' is the law's where the arguments, and the package variables that the reading takes, are together of bulk at most 1048576: NARROWER than '..Said'. Prove '..Said' where nothing that the law and all that it calls make is longer than what came in: it says more and counts as full. Else prove '..UptoSaid'. A law counts once. -/
mutual
def uptoBulk {H : Type} : DataW H → Nat
  | .lit (.string bytes) => bytes.length + 1
  | .lit _ => 1
  | .nil => 1
  | .ptr d => uptoBulk d + 1
  | .slice elems spare => uptoBulkAll elems + uptoBulkAll spare + 1
  | .agg parts => uptoBulkAll parts + 1
  | .iface _ d => uptoBulk d + 1
  | .map entries => uptoBulkEntries entries + 1
  | .held _ => 1
def uptoBulkAll {H : Type} : List (DataW H) → Nat
  | [] => 0
  | d :: r => uptoBulk d + uptoBulkAll r
def uptoBulkEntries {H : Type} : List (Lit × DataW H) → Nat
  | [] => 0
  | x :: r => uptoBulkEntry x + uptoBulkEntries r
def uptoBulkEntry {H : Type} : Lit × DataW H → Nat
  | (.string bytes, d) => bytes.length + uptoBulk d + 1
  | (_, d) => uptoBulk d + 1
 end
def uptoSmall : (H : Type) → List (DataW H) → Bool := fun _ ds => decide (uptoBulkAll ds ≤ 1048576)
def OpenSpec.upto (s : _root_.Go.ChangeSpec) : _root_.Go.OpenSpec := { _root_.Go.OpenSpec.ofChange s with cond := some uptoSmall }

/-- 'electionlaw05.RandomScript', WHERE WHAT IT READS IS OF BULK AT MOST 1048576: true; the input reads as it did. -/
def randomScriptUptoRow : OpenClaim := { program := "ytgomconcfjllcaadoor", sum := "e8c9151b0649a43c6c3dccbc6c1f2863af54834e2e16c3fbdde21c0c53e4c41b", func := "election/electionlaw05.RandomScript", spec := "randomScript", unfollowed := true, recurses := true, named := ["election/digest.roundConstants", "election/electionref04.k"], apart := false, laid := [("election/electionref04.k", laid_election_electionref04_k), ("election/digest.roundConstants", laid_election_digest_roundConstants)], narrowed := true }
def RandomScriptUptoSaid : Prop := randomScriptUptoRow.holds Tryd.pinned (OpenSpec.upto randomScriptSpec)

/-- 'electionlaw05.RandomPerm', WHERE WHAT IT READS IS OF BULK AT MOST 1048576: true; the input reads as it did. -/
def randomPermUptoRow : OpenClaim := { program := "ytgomconcfjllcaadoor", sum := "e8c9151b0649a43c6c3dccbc6c1f2863af54834e2e16c3fbdde21c0c53e4c41b", func := "election/electionlaw05.RandomPerm", spec := "randomPerm", unfollowed := true, recurses := true, named := ["election/digest.roundConstants", "election/electionref04.k"], apart := false, laid := [("election/electionref04.k", laid_election_electionref04_k), ("election/digest.roundConstants", laid_election_digest_roundConstants)], narrowed := true }
def RandomPermUptoSaid : Prop := randomPermUptoRow.holds Tryd.pinned (OpenSpec.upto randomPermSpec)

/-- 'electionlaw05.RandomBelow', WHERE WHAT IT READS IS OF BULK AT MOST 1048576: true; the input reads as it did. -/
def randomBelowUptoRow : OpenClaim := { program := "ytgomconcfjllcaadoor", sum := "e8c9151b0649a43c6c3dccbc6c1f2863af54834e2e16c3fbdde21c0c53e4c41b", func := "election/electionlaw05.RandomBelow", spec := "randomBelow", unfollowed := true, recurses := true, named := ["election/digest.roundConstants", "election/electionref04.k"], apart := false, laid := [("election/electionref04.k", laid_election_electionref04_k), ("election/digest.roundConstants", laid_election_digest_roundConstants)], narrowed := true }
def RandomBelowUptoSaid : Prop := randomBelowUptoRow.holds Tryd.pinned (OpenSpec.upto randomBelowSpec)

/-- 'electionlaw05.RandomOrder', WHERE WHAT IT READS IS OF BULK AT MOST 1048576: true; the input reads as it did. -/
def randomOrderUptoRow : OpenClaim := { program := "ytgomconcfjllcaadoor", sum := "e8c9151b0649a43c6c3dccbc6c1f2863af54834e2e16c3fbdde21c0c53e4c41b", func := "election/electionlaw05.RandomOrder", spec := "randomOrder", unfollowed := true, recurses := true, named := ["election/digest.roundConstants", "election/electionref04.k"], apart := false, laid := [("election/electionref04.k", laid_election_electionref04_k), ("election/digest.roundConstants", laid_election_digest_roundConstants)], narrowed := true }
def RandomOrderUptoSaid : Prop := randomOrderUptoRow.holds Tryd.pinned (OpenSpec.upto randomOrderSpec)

/-- 'electionlaw05.RandomApart', WHERE WHAT IT READS IS OF BULK AT MOST 1048576: true; the input reads as it did. -/
def randomApartUptoRow : OpenClaim := { program := "ytgomconcfjllcaadoor", sum := "e8c9151b0649a43c6c3dccbc6c1f2863af54834e2e16c3fbdde21c0c53e4c41b", func := "election/electionlaw05.RandomApart", spec := "randomApart", unfollowed := true, recurses := true, named := ["election/digest.roundConstants", "election/electionref04.k"], apart := false, laid := [("election/electionref04.k", laid_election_electionref04_k), ("election/digest.roundConstants", laid_election_digest_roundConstants)], narrowed := true }
def RandomApartUptoSaid : Prop := randomApartUptoRow.holds Tryd.pinned (OpenSpec.upto randomApartSpec)

/-- 'electionlaw05.RandomNone', WHERE WHAT IT READS IS OF BULK AT MOST 1048576: true; the input reads as it did. -/
def randomNoneUptoRow : OpenClaim := { program := "ytgomconcfjllcaadoor", sum := "e8c9151b0649a43c6c3dccbc6c1f2863af54834e2e16c3fbdde21c0c53e4c41b", func := "election/electionlaw05.RandomNone", spec := "randomNone", unfollowed := true, recurses := true, named := ["election/digest.roundConstants", "election/electionref04.k"], apart := false, laid := [("election/electionref04.k", laid_election_electionref04_k), ("election/digest.roundConstants", laid_election_digest_roundConstants)], narrowed := true }
def RandomNoneUptoSaid : Prop := randomNoneUptoRow.holds Tryd.pinned (OpenSpec.upto randomNoneSpec)

end Rows
end Go.Proofs.YtgomconcfjllcaaDoor
