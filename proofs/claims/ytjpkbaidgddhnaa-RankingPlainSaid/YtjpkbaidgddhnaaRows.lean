/-
  No cell of these rows narrows 'for every input' (looked for: loops, veiled, ifaces, maps, wideKeys, modest, calm, conditions, laid).
  DERIVED. THE GIVEN ROWS OF THIS SEAT. 5 by the template 'for every input the law returns true; each argument reads behind the call as it read before'; 0 by the template 'total and deterministic' (their statements: YtjpkbaidgddhnaaTotals.lean).
  GIVEN WITH THE SEED: the statements are not yours to turn. If you find one false, say at which input.
  Laid BY PROGRAM, IN A SANDBOX (cutbox-rows.mjs): the forced cells as the released guide's own fill.sh prints them over the translation a5ea4e109615264e… (all of the seat's roots in one cut). By AI agents, Wed Nov 11 2026. No macro, syntax, notation, axiom, sorry.
-/
import Derived.Test.YtjpkbaidgddhnaaChecked
import GoSem.Claim
import GoSem.ClaimJoined
import GoSem.ClaimMapViews
import Derived.JoinedTies
import Derived.KernelRfl
namespace Go.Proofs.Ytjpkbaidgddhnaa
/- THE CELL 'sum', in the pinned program and in every row, IS THE sha256 OF THE DUMP (.gsa) THAT YtjpkbaidgddhnaaProg.lean LOADS. Nothing in Lean hashes anything: it is a label: what it is worth is what the hold of that sum in a sandbox is worth. -/
noncomputable def Try.pinned : Pinned := { name := "ytjpkbaidgddhnaa", sum := "a5ea4e109615264e302a96ee5e89435655a8d408c989a84c9db3e733d2b92382", checked := Try.checked }
namespace Rows
def none {H : Type} : Left H := { results := [], args := [] }

/-- 'electionlaw13.RankingPrefs': WHATEVER THE INPUT: true; the input reads as it did. -/
def rankingPrefsSpec : ChangeSpec := { name := "rankingPrefs", fn := fun _ => fun
  | [d1, d2] => { results := [.lit (.bool true)], args := [d1, d2] }
  | _ => none }
def rankingPrefsRow : OpenClaim := { program := "ytjpkbaidgddhnaa", sum := "a5ea4e109615264e302a96ee5e89435655a8d408c989a84c9db3e733d2b92382", func := "election/electionlaw13.RankingPrefs", spec := "rankingPrefs", apart := false }
def RankingPrefsSaid : Prop := rankingPrefsRow.holds Try.pinned (OpenSpec.ofChange rankingPrefsSpec)

/-- ITS FALSE NEIGHBOUR: 'it returns false'. Refute it at one input. -/
def rankingPrefsWrong : ChangeSpec := { name := "rankingPrefs", fn := fun _ => fun
  | [d1, d2] => { results := [.lit (.bool false)], args := [d1, d2] }
  | _ => none }
def RankingPrefsWrongFalsely : Prop := rankingPrefsRow.holds Try.pinned (OpenSpec.ofChange rankingPrefsWrong)

/-- 'electionlaw13.RankingValid': WHATEVER THE INPUT: true; the input reads as it did. -/
def rankingValidSpec : ChangeSpec := { name := "rankingValid", fn := fun _ => fun
  | [d1, d2] => { results := [.lit (.bool true)], args := [d1, d2] }
  | _ => none }
def rankingValidRow : OpenClaim := { program := "ytjpkbaidgddhnaa", sum := "a5ea4e109615264e302a96ee5e89435655a8d408c989a84c9db3e733d2b92382", func := "election/electionlaw13.RankingValid", spec := "rankingValid", apart := false }
def RankingValidSaid : Prop := rankingValidRow.holds Try.pinned (OpenSpec.ofChange rankingValidSpec)

/-- ITS FALSE NEIGHBOUR: 'it returns false'. Refute it at one input. -/
def rankingValidWrong : ChangeSpec := { name := "rankingValid", fn := fun _ => fun
  | [d1, d2] => { results := [.lit (.bool false)], args := [d1, d2] }
  | _ => none }
def RankingValidWrongFalsely : Prop := rankingValidRow.holds Try.pinned (OpenSpec.ofChange rankingValidWrong)

/-- 'electionlaw13.RankingLonger': WHATEVER THE INPUT: true; the input reads as it did. -/
def rankingLongerSpec : ChangeSpec := { name := "rankingLonger", fn := fun _ => fun
  | [d1, d2, d3] => { results := [.lit (.bool true)], args := [d1, d2, d3] }
  | _ => none }
def rankingLongerRow : OpenClaim := { program := "ytjpkbaidgddhnaa", sum := "a5ea4e109615264e302a96ee5e89435655a8d408c989a84c9db3e733d2b92382", func := "election/electionlaw13.RankingLonger", spec := "rankingLonger", apart := false }
def RankingLongerSaid : Prop := rankingLongerRow.holds Try.pinned (OpenSpec.ofChange rankingLongerSpec)

/-- ITS FALSE NEIGHBOUR: 'it returns false'. Refute it at one input. -/
def rankingLongerWrong : ChangeSpec := { name := "rankingLonger", fn := fun _ => fun
  | [d1, d2, d3] => { results := [.lit (.bool false)], args := [d1, d2, d3] }
  | _ => none }
def RankingLongerWrongFalsely : Prop := rankingLongerRow.holds Try.pinned (OpenSpec.ofChange rankingLongerWrong)

/-- 'electionlaw13.RankingStrict': WHATEVER THE INPUT: true; the input reads as it did. -/
def rankingStrictSpec : ChangeSpec := { name := "rankingStrict", fn := fun _ => fun
  | [d1, d2] => { results := [.lit (.bool true)], args := [d1, d2] }
  | _ => none }
def rankingStrictRow : OpenClaim := { program := "ytjpkbaidgddhnaa", sum := "a5ea4e109615264e302a96ee5e89435655a8d408c989a84c9db3e733d2b92382", func := "election/electionlaw13.RankingStrict", spec := "rankingStrict", apart := false }
def RankingStrictSaid : Prop := rankingStrictRow.holds Try.pinned (OpenSpec.ofChange rankingStrictSpec)

/-- ITS FALSE NEIGHBOUR: 'it returns false'. Refute it at one input. -/
def rankingStrictWrong : ChangeSpec := { name := "rankingStrict", fn := fun _ => fun
  | [d1, d2] => { results := [.lit (.bool false)], args := [d1, d2] }
  | _ => none }
def RankingStrictWrongFalsely : Prop := rankingStrictRow.holds Try.pinned (OpenSpec.ofChange rankingStrictWrong)

/-- 'electionlaw13.RankingPlain': WHATEVER THE INPUT: true; the input reads as it did. -/
def rankingPlainSpec : ChangeSpec := { name := "rankingPlain", fn := fun _ => fun
  | [d1, d2] => { results := [.lit (.bool true)], args := [d1, d2] }
  | _ => none }
def rankingPlainRow : OpenClaim := { program := "ytjpkbaidgddhnaa", sum := "a5ea4e109615264e302a96ee5e89435655a8d408c989a84c9db3e733d2b92382", func := "election/electionlaw13.RankingPlain", spec := "rankingPlain", apart := false }
def RankingPlainSaid : Prop := rankingPlainRow.holds Try.pinned (OpenSpec.ofChange rankingPlainSpec)

/-- ITS FALSE NEIGHBOUR: 'it returns false'. Refute it at one input. -/
def rankingPlainWrong : ChangeSpec := { name := "rankingPlain", fn := fun _ => fun
  | [d1, d2] => { results := [.lit (.bool false)], args := [d1, d2] }
  | _ => none }
def RankingPlainWrongFalsely : Prop := rankingPlainRow.holds Try.pinned (OpenSpec.ofChange rankingPlainWrong)

/- THE SECOND FORM. 'bulk': how many values and letters a reading holds, each counted each time it is reached (what is shared counts as often as it is met; a slice's spare places count too). A statement '..UptoSaid' is the law's where the arguments, and the package variables that the reading takes, are together of bulk at most 1048576: NARROWER than '..Said'. Prove '..Said' where nothing that the law and all that it calls make is longer than what came in: it says more and counts as full. Else prove '..UptoSaid'. A law counts once. -/
mutual
def uptoBulk {H : Type} : DataW H → Nat
  | .lit (.string bytes) => bytes.length + 1
  | .lit _ => 1
  | .nil => 1
  | .ptr d => uptoBulk d + 1
  | .slice elems spare => uptoBulkAll elems + uptoBulkAll spare + 1
  | .agg parts => uptoBulkAll parts + 1
  | .iface _ d => uptoBulk d + 1
  | .map entries => uptoBulkEntries entries + 1
  | .held _ => 1
def uptoBulkAll {H : Type} : List (DataW H) → Nat
  | [] => 0
  | d :: r => uptoBulk d + uptoBulkAll r
def uptoBulkEntries {H : Type} : List (Lit × DataW H) → Nat
  | [] => 0
  | x :: r => uptoBulkEntry x + uptoBulkEntries r
def uptoBulkEntry {H : Type} : Lit × DataW H → Nat
  | (.string bytes, d) => bytes.length + uptoBulk d + 1
  | (_, d) => uptoBulk d + 1
 end
def uptoSmall : (H : Type) → List (DataW H) → Bool := fun _ ds => decide (uptoBulkAll ds ≤ 1048576)
def OpenSpec.upto (s : _root_.Go.ChangeSpec) : _root_.Go.OpenSpec := { _root_.Go.OpenSpec.ofChange s with cond := some uptoSmall }

/-- 'electionlaw13.RankingPrefs', WHERE WHAT IT READS IS OF BULK AT MOST 1048576: true; the input reads as it did. -/
def rankingPrefsUptoRow : OpenClaim := { program := "ytjpkbaidgddhnaa", sum := "a5ea4e109615264e302a96ee5e89435655a8d408c989a84c9db3e733d2b92382", func := "election/electionlaw13.RankingPrefs", spec := "rankingPrefs", apart := false, narrowed := true }
def RankingPrefsUptoSaid : Prop := rankingPrefsUptoRow.holds Try.pinned (OpenSpec.upto rankingPrefsSpec)

/-- 'electionlaw13.RankingValid', WHERE WHAT IT READS IS OF BULK AT MOST 1048576: true; the input reads as it did. -/
def rankingValidUptoRow : OpenClaim := { program := "ytjpkbaidgddhnaa", sum := "a5ea4e109615264e302a96ee5e89435655a8d408c989a84c9db3e733d2b92382", func := "election/electionlaw13.RankingValid", spec := "rankingValid", apart := false, narrowed := true }
def RankingValidUptoSaid : Prop := rankingValidUptoRow.holds Try.pinned (OpenSpec.upto rankingValidSpec)

/-- 'electionlaw13.RankingLonger', WHERE WHAT IT READS IS OF BULK AT MOST 1048576: true; the input reads as it did. -/
def rankingLongerUptoRow : OpenClaim := { program := "ytjpkbaidgddhnaa", sum := "a5ea4e109615264e302a96ee5e89435655a8d408c989a84c9db3e733d2b92382", func := "election/electionlaw13.RankingLonger", spec := "rankingLonger", apart := false, narrowed := true }
def RankingLongerUptoSaid : Prop := rankingLongerUptoRow.holds Try.pinned (OpenSpec.upto rankingLongerSpec)

/-- 'electionlaw13.RankingStrict', WHERE WHAT IT READS IS OF BULK AT MOST 1048576: true; the input reads as it did. -/
def rankingStrictUptoRow : OpenClaim := { program := "ytjpkbaidgddhnaa", sum := "a5ea4e109615264e302a96ee5e89435655a8d408c989a84c9db3e733d2b92382", func := "election/electionlaw13.RankingStrict", spec := "rankingStrict", apart := false, narrowed := true }
def RankingStrictUptoSaid : Prop := rankingStrictUptoRow.holds Try.pinned (OpenSpec.upto rankingStrictSpec)

/-- 'electionlaw13.RankingPlain', WHERE WHAT IT READS IS OF BULK AT MOST 1048576: true; the input reads as it did. -/
def rankingPlainUptoRow : OpenClaim := { program := "ytjpkbaidgddhnaa", sum := "a5ea4e109615264e302a96ee5e89435655a8d408c989a84c9db3e733d2b92382", func := "election/electionlaw13.RankingPlain", spec := "rankingPlain", apart := false, narrowed := true }
def RankingPlainUptoSaid : Prop := rankingPlainUptoRow.holds Try.pinned (OpenSpec.upto rankingPlainSpec)

end Rows
end Go.Proofs.Ytjpkbaidgddhnaa
