/-
  NARROWER THAN 'FOR EVERY INPUT', by the rows' own cells (each row's printed sentence says how): NatSum: laid · NatProduct: laid · NatQuotient: laid · NatInverse: laid · NatRing: laid · NatCommon: laid · NatDecimal: laid · NatParse: laid · NatForm: laid · NatWord: laid · NatPower: laid.
  DERIVED. THE GIVEN ROWS OF THIS SEAT. 11 by the template 'for every input the law returns true; each argument reads behind the call as it read before'; 0 by the template 'total and deterministic' (their statements: YtbkfahpbmpkkhaaDoorTotals.lean).
  GIVEN WITH THE SEED: the statements are not yours to turn. If you find one false, say at which input.
  Laid BY PROGRAM, IN A SANDBOX (cutbox-rows.mjs): the forced cells as the released guide's own fill.sh prints them over the translation 0a6bcf2db3ff2766… (all of the seat's roots in one cut). By AI agents, Wed Nov 11 2026. No macro, syntax, notation, axiom, sorry.
-/
import Derived.Test.YtbkfahpbmpkkhaaDoorChecked
import GoSem.Claim
import GoSem.ClaimJoined
import GoSem.ClaimMapViews
import Derived.JoinedTies
import Derived.KernelRfl
namespace Go.Proofs.YtbkfahpbmpkkhaaDoor
/- THE CELL 'sum', in the pinned program and in every row, IS THE sha256 OF THE DUMP (.gsa) THAT YtbkfahpbmpkkhaaDoorProg.lean LOADS. Nothing in Lean hashes anything: it is a label: what it is worth is what the hold of that sum in a sandbox is worth. -/
noncomputable def Tryd.pinned : Pinned := { name := "ytbkfahpbmpkkhaadoor", sum := "0a6bcf2db3ff2766ad3e625346665cad3b6633ee8bd1bf3df0b48b778fc511dc", checked := Tryd.checked }
namespace Rows
def none {H : Type} : Left H := { results := [], args := [] }

/- WHAT THE LISTED PACKAGE-LEVEL VARIABLES READ AS WHEN THE CALL BEGINS. Each datum BY PROGRAM (the guide's laid-datum.mjs) off the statement by which the dump's own 'gosem.cut.vars' lays the variable. In a bare row this is a premise. The card (YtbkfahpbmpkkhaaDoorCards.lean) ties it to the program's text. -/
def laid_math_bits_deBruijn32tab {H : Type} : DataW H := .agg [.lit (.int .u8 0), .lit (.int .u8 1), .lit (.int .u8 28), .lit (.int .u8 2), .lit (.int .u8 29), .lit (.int .u8 14), .lit (.int .u8 24), .lit (.int .u8 3), .lit (.int .u8 30), .lit (.int .u8 22), .lit (.int .u8 20), .lit (.int .u8 15), .lit (.int .u8 25), .lit (.int .u8 17), .lit (.int .u8 4), .lit (.int .u8 8), .lit (.int .u8 31), .lit (.int .u8 27), .lit (.int .u8 13), .lit (.int .u8 23), .lit (.int .u8 21), .lit (.int .u8 19), .lit (.int .u8 16), .lit (.int .u8 7), .lit (.int .u8 26), .lit (.int .u8 12), .lit (.int .u8 18), .lit (.int .u8 6), .lit (.int .u8 11), .lit (.int .u8 5), .lit (.int .u8 10), .lit (.int .u8 9)]
def laid_math_bits_deBruijn64tab {H : Type} : DataW H := .agg [.lit (.int .u8 0), .lit (.int .u8 1), .lit (.int .u8 56), .lit (.int .u8 2), .lit (.int .u8 57), .lit (.int .u8 49), .lit (.int .u8 28), .lit (.int .u8 3), .lit (.int .u8 61), .lit (.int .u8 58), .lit (.int .u8 42), .lit (.int .u8 50), .lit (.int .u8 38), .lit (.int .u8 29), .lit (.int .u8 17), .lit (.int .u8 4), .lit (.int .u8 62), .lit (.int .u8 47), .lit (.int .u8 59), .lit (.int .u8 36), .lit (.int .u8 45), .lit (.int .u8 43), .lit (.int .u8 51), .lit (.int .u8 22), .lit (.int .u8 53), .lit (.int .u8 39), .lit (.int .u8 33), .lit (.int .u8 30), .lit (.int .u8 24), .lit (.int .u8 18), .lit (.int .u8 12), .lit (.int .u8 5), .lit (.int .u8 63), .lit (.int .u8 55), .lit (.int .u8 48), .lit (.int .u8 27), .lit (.int .u8 60), .lit (.int .u8 41), .lit (.int .u8 37), .lit (.int .u8 16), .lit (.int .u8 46), .lit (.int .u8 35), .lit (.int .u8 44), .lit (.int .u8 21), .lit (.int .u8 52), .lit (.int .u8 32), .lit (.int .u8 23), .lit (.int .u8 11), .lit (.int .u8 54), .lit (.int .u8 26), .lit (.int .u8 40), .lit (.int .u8 15), .lit (.int .u8 34), .lit (.int .u8 20), .lit (.int .u8 31), .lit (.int .u8 10), .lit (.int .u8 25), .lit (.int .u8 14), .lit (.int .u8 19), .lit (.int .u8 9), .lit (.int .u8 13), .lit (.int .u8 8), .lit (.int .u8 7), .lit (.int .u8 6)]
def laid_internal_strconv_uint64pow10 {H : Type} : DataW H := .agg [.lit (.int .u64 1), .lit (.int .u64 10), .lit (.int .u64 100), .lit (.int .u64 1000), .lit (.int .u64 10000), .lit (.int .u64 100000), .lit (.int .u64 1000000), .lit (.int .u64 10000000), .lit (.int .u64 100000000), .lit (.int .u64 1000000000), .lit (.int .u64 10000000000), .lit (.int .u64 100000000000), .lit (.int .u64 1000000000000), .lit (.int .u64 10000000000000), .lit (.int .u64 100000000000000), .lit (.int .u64 1000000000000000), .lit (.int .u64 10000000000000000), .lit (.int .u64 100000000000000000), .lit (.int .u64 1000000000000000000), .lit (.int .u64 10000000000000000000)]

/-- 'electionlaw01.NatSum': WHATEVER THE INPUT: true; the input reads as it did. -/
def natSumSpec : ChangeSpec := { name := "natSum", fn := fun _ => fun
  | [d1, d2] => { results := [.lit (.bool true)], args := [d1, d2] }
  | _ => none }
def natSumRow : OpenClaim := { program := "ytbkfahpbmpkkhaadoor", sum := "0a6bcf2db3ff2766ad3e625346665cad3b6633ee8bd1bf3df0b48b778fc511dc", func := "election/electionlaw01.NatSum", spec := "natSum", named := ["math/bits.overflowError", "internal/strconv.uint64pow10", "math/bits.deBruijn32tab", "math/bits.deBruijn64tab"], apart := false, laid := [("math/bits.deBruijn32tab", laid_math_bits_deBruijn32tab), ("math/bits.deBruijn64tab", laid_math_bits_deBruijn64tab), ("internal/strconv.uint64pow10", laid_internal_strconv_uint64pow10)] }
def NatSumSaid : Prop := natSumRow.holds Tryd.pinned (OpenSpec.ofChange natSumSpec)

/-- ITS FALSE NEIGHBOUR: 'it returns false'. Refute it at one input. -/
def natSumWrong : ChangeSpec := { name := "natSum", fn := fun _ => fun
  | [d1, d2] => { results := [.lit (.bool false)], args := [d1, d2] }
  | _ => none }
def NatSumWrongFalsely : Prop := natSumRow.holds Tryd.pinned (OpenSpec.ofChange natSumWrong)

/-- 'electionlaw01.NatProduct': WHATEVER THE INPUT: true; the input reads as it did. -/
def natProductSpec : ChangeSpec := { name := "natProduct", fn := fun _ => fun
  | [d1, d2] => { results := [.lit (.bool true)], args := [d1, d2] }
  | _ => none }
def natProductRow : OpenClaim := { program := "ytbkfahpbmpkkhaadoor", sum := "0a6bcf2db3ff2766ad3e625346665cad3b6633ee8bd1bf3df0b48b778fc511dc", func := "election/electionlaw01.NatProduct", spec := "natProduct", named := ["math/bits.overflowError", "internal/strconv.uint64pow10", "math/bits.deBruijn32tab", "math/bits.deBruijn64tab"], apart := false, laid := [("math/bits.deBruijn32tab", laid_math_bits_deBruijn32tab), ("math/bits.deBruijn64tab", laid_math_bits_deBruijn64tab), ("internal/strconv.uint64pow10", laid_internal_strconv_uint64pow10)] }
def NatProductSaid : Prop := natProductRow.holds Tryd.pinned (OpenSpec.ofChange natProductSpec)

/-- ITS FALSE NEIGHBOUR: 'it returns false'. Refute it at one input. -/
def natProductWrong : ChangeSpec := { name := "natProduct", fn := fun _ => fun
  | [d1, d2] => { results := [.lit (.bool false)], args := [d1, d2] }
  | _ => none }
def NatProductWrongFalsely : Prop := natProductRow.holds Tryd.pinned (OpenSpec.ofChange natProductWrong)

/-- 'electionlaw01.NatQuotient': WHATEVER THE INPUT: true; the input reads as it did. -/
def natQuotientSpec : ChangeSpec := { name := "natQuotient", fn := fun _ => fun
  | [d1, d2] => { results := [.lit (.bool true)], args := [d1, d2] }
  | _ => none }
def natQuotientRow : OpenClaim := { program := "ytbkfahpbmpkkhaadoor", sum := "0a6bcf2db3ff2766ad3e625346665cad3b6633ee8bd1bf3df0b48b778fc511dc", func := "election/electionlaw01.NatQuotient", spec := "natQuotient", named := ["math/bits.overflowError", "internal/strconv.uint64pow10", "math/bits.deBruijn32tab", "math/bits.deBruijn64tab"], apart := false, laid := [("math/bits.deBruijn32tab", laid_math_bits_deBruijn32tab), ("math/bits.deBruijn64tab", laid_math_bits_deBruijn64tab), ("internal/strconv.uint64pow10", laid_internal_strconv_uint64pow10)] }
def NatQuotientSaid : Prop := natQuotientRow.holds Tryd.pinned (OpenSpec.ofChange natQuotientSpec)

/-- ITS FALSE NEIGHBOUR: 'it returns false'. Refute it at one input. -/
def natQuotientWrong : ChangeSpec := { name := "natQuotient", fn := fun _ => fun
  | [d1, d2] => { results := [.lit (.bool false)], args := [d1, d2] }
  | _ => none }
def NatQuotientWrongFalsely : Prop := natQuotientRow.holds Tryd.pinned (OpenSpec.ofChange natQuotientWrong)

/-- 'electionlaw01.NatInverse': WHATEVER THE INPUT: true; the input reads as it did. -/
def natInverseSpec : ChangeSpec := { name := "natInverse", fn := fun _ => fun
  | [d1, d2, d3] => { results := [.lit (.bool true)], args := [d1, d2, d3] }
  | _ => none }
def natInverseRow : OpenClaim := { program := "ytbkfahpbmpkkhaadoor", sum := "0a6bcf2db3ff2766ad3e625346665cad3b6633ee8bd1bf3df0b48b778fc511dc", func := "election/electionlaw01.NatInverse", spec := "natInverse", named := ["math/bits.overflowError", "internal/strconv.uint64pow10", "math/bits.deBruijn32tab", "math/bits.deBruijn64tab"], apart := false, laid := [("math/bits.deBruijn32tab", laid_math_bits_deBruijn32tab), ("math/bits.deBruijn64tab", laid_math_bits_deBruijn64tab), ("internal/strconv.uint64pow10", laid_internal_strconv_uint64pow10)] }
def NatInverseSaid : Prop := natInverseRow.holds Tryd.pinned (OpenSpec.ofChange natInverseSpec)

/-- ITS FALSE NEIGHBOUR: 'it returns false'. Refute it at one input. -/
def natInverseWrong : ChangeSpec := { name := "natInverse", fn := fun _ => fun
  | [d1, d2, d3] => { results := [.lit (.bool false)], args := [d1, d2, d3] }
  | _ => none }
def NatInverseWrongFalsely : Prop := natInverseRow.holds Tryd.pinned (OpenSpec.ofChange natInverseWrong)

/-- 'electionlaw01.NatRing': WHATEVER THE INPUT: true; the input reads as it did. -/
def natRingSpec : ChangeSpec := { name := "natRing", fn := fun _ => fun
  | [d1, d2, d3] => { results := [.lit (.bool true)], args := [d1, d2, d3] }
  | _ => none }
def natRingRow : OpenClaim := { program := "ytbkfahpbmpkkhaadoor", sum := "0a6bcf2db3ff2766ad3e625346665cad3b6633ee8bd1bf3df0b48b778fc511dc", func := "election/electionlaw01.NatRing", spec := "natRing", named := ["math/bits.overflowError", "internal/strconv.uint64pow10", "math/bits.deBruijn32tab", "math/bits.deBruijn64tab"], apart := false, laid := [("math/bits.deBruijn32tab", laid_math_bits_deBruijn32tab), ("math/bits.deBruijn64tab", laid_math_bits_deBruijn64tab), ("internal/strconv.uint64pow10", laid_internal_strconv_uint64pow10)] }
def NatRingSaid : Prop := natRingRow.holds Tryd.pinned (OpenSpec.ofChange natRingSpec)

/-- ITS FALSE NEIGHBOUR: 'it returns false'. Refute it at one input. -/
def natRingWrong : ChangeSpec := { name := "natRing", fn := fun _ => fun
  | [d1, d2, d3] => { results := [.lit (.bool false)], args := [d1, d2, d3] }
  | _ => none }
def NatRingWrongFalsely : Prop := natRingRow.holds Tryd.pinned (OpenSpec.ofChange natRingWrong)

/-- 'electionlaw01.NatCommon': WHATEVER THE INPUT: true; the input reads as it did. -/
def natCommonSpec : ChangeSpec := { name := "natCommon", fn := fun _ => fun
  | [d1, d2] => { results := [.lit (.bool true)], args := [d1, d2] }
  | _ => none }
def natCommonRow : OpenClaim := { program := "ytbkfahpbmpkkhaadoor", sum := "0a6bcf2db3ff2766ad3e625346665cad3b6633ee8bd1bf3df0b48b778fc511dc", func := "election/electionlaw01.NatCommon", spec := "natCommon", named := ["math/bits.overflowError", "internal/strconv.uint64pow10", "math/bits.deBruijn32tab", "math/bits.deBruijn64tab"], apart := false, laid := [("math/bits.deBruijn32tab", laid_math_bits_deBruijn32tab), ("math/bits.deBruijn64tab", laid_math_bits_deBruijn64tab), ("internal/strconv.uint64pow10", laid_internal_strconv_uint64pow10)] }
def NatCommonSaid : Prop := natCommonRow.holds Tryd.pinned (OpenSpec.ofChange natCommonSpec)

/-- ITS FALSE NEIGHBOUR: 'it returns false'. Refute it at one input. -/
def natCommonWrong : ChangeSpec := { name := "natCommon", fn := fun _ => fun
  | [d1, d2] => { results := [.lit (.bool false)], args := [d1, d2] }
  | _ => none }
def NatCommonWrongFalsely : Prop := natCommonRow.holds Tryd.pinned (OpenSpec.ofChange natCommonWrong)

/-- 'electionlaw01.NatDecimal': WHATEVER THE INPUT: true; the input reads as it did. -/
def natDecimalSpec : ChangeSpec := { name := "natDecimal", fn := fun _ => fun
  | [d] => { results := [.lit (.bool true)], args := [d] }
  | _ => none }
def natDecimalRow : OpenClaim := { program := "ytbkfahpbmpkkhaadoor", sum := "0a6bcf2db3ff2766ad3e625346665cad3b6633ee8bd1bf3df0b48b778fc511dc", func := "election/electionlaw01.NatDecimal", spec := "natDecimal", named := ["math/bits.overflowError", "internal/strconv.uint64pow10", "math/bits.deBruijn32tab", "math/bits.deBruijn64tab"], apart := false, laid := [("math/bits.deBruijn32tab", laid_math_bits_deBruijn32tab), ("math/bits.deBruijn64tab", laid_math_bits_deBruijn64tab), ("internal/strconv.uint64pow10", laid_internal_strconv_uint64pow10)] }
def NatDecimalSaid : Prop := natDecimalRow.holds Tryd.pinned (OpenSpec.ofChange natDecimalSpec)

/-- ITS FALSE NEIGHBOUR: 'it returns false'. Refute it at one input. -/
def natDecimalWrong : ChangeSpec := { name := "natDecimal", fn := fun _ => fun
  | [d] => { results := [.lit (.bool false)], args := [d] }
  | _ => none }
def NatDecimalWrongFalsely : Prop := natDecimalRow.holds Tryd.pinned (OpenSpec.ofChange natDecimalWrong)

/-- 'electionlaw01.NatParse': WHATEVER THE INPUT: true; the input reads as it did. -/
def natParseSpec : ChangeSpec := { name := "natParse", fn := fun _ => fun
  | [d] => { results := [.lit (.bool true)], args := [d] }
  | _ => none }
def natParseRow : OpenClaim := { program := "ytbkfahpbmpkkhaadoor", sum := "0a6bcf2db3ff2766ad3e625346665cad3b6633ee8bd1bf3df0b48b778fc511dc", func := "election/electionlaw01.NatParse", spec := "natParse", named := ["math/bits.overflowError", "internal/strconv.uint64pow10", "math/bits.deBruijn32tab", "math/bits.deBruijn64tab"], apart := false, laid := [("math/bits.deBruijn32tab", laid_math_bits_deBruijn32tab), ("math/bits.deBruijn64tab", laid_math_bits_deBruijn64tab), ("internal/strconv.uint64pow10", laid_internal_strconv_uint64pow10)] }
def NatParseSaid : Prop := natParseRow.holds Tryd.pinned (OpenSpec.ofChange natParseSpec)

/-- ITS FALSE NEIGHBOUR: 'it returns false'. Refute it at one input. -/
def natParseWrong : ChangeSpec := { name := "natParse", fn := fun _ => fun
  | [d] => { results := [.lit (.bool false)], args := [d] }
  | _ => none }
def NatParseWrongFalsely : Prop := natParseRow.holds Tryd.pinned (OpenSpec.ofChange natParseWrong)

/-- 'electionlaw01.NatForm': WHATEVER THE INPUT: true; the input reads as it did. -/
def natFormSpec : ChangeSpec := { name := "natForm", fn := fun _ => fun
  | [d1, d2, d3] => { results := [.lit (.bool true)], args := [d1, d2, d3] }
  | _ => none }
def natFormRow : OpenClaim := { program := "ytbkfahpbmpkkhaadoor", sum := "0a6bcf2db3ff2766ad3e625346665cad3b6633ee8bd1bf3df0b48b778fc511dc", func := "election/electionlaw01.NatForm", spec := "natForm", named := ["math/bits.overflowError", "internal/strconv.uint64pow10", "math/bits.deBruijn32tab", "math/bits.deBruijn64tab"], apart := false, laid := [("math/bits.deBruijn32tab", laid_math_bits_deBruijn32tab), ("math/bits.deBruijn64tab", laid_math_bits_deBruijn64tab), ("internal/strconv.uint64pow10", laid_internal_strconv_uint64pow10)] }
def NatFormSaid : Prop := natFormRow.holds Tryd.pinned (OpenSpec.ofChange natFormSpec)

/-- ITS FALSE NEIGHBOUR: 'it returns false'. Refute it at one input. -/
def natFormWrong : ChangeSpec := { name := "natForm", fn := fun _ => fun
  | [d1, d2, d3] => { results := [.lit (.bool false)], args := [d1, d2, d3] }
  | _ => none }
def NatFormWrongFalsely : Prop := natFormRow.holds Tryd.pinned (OpenSpec.ofChange natFormWrong)

/-- 'electionlaw01.NatWord': WHATEVER THE INPUT: true; the input reads as it did. -/
def natWordSpec : ChangeSpec := { name := "natWord", fn := fun _ => fun
  | [d1, d2] => { results := [.lit (.bool true)], args := [d1, d2] }
  | _ => none }
def natWordRow : OpenClaim := { program := "ytbkfahpbmpkkhaadoor", sum := "0a6bcf2db3ff2766ad3e625346665cad3b6633ee8bd1bf3df0b48b778fc511dc", func := "election/electionlaw01.NatWord", spec := "natWord", named := ["math/bits.overflowError", "internal/strconv.uint64pow10", "math/bits.deBruijn32tab", "math/bits.deBruijn64tab"], apart := false, laid := [("math/bits.deBruijn32tab", laid_math_bits_deBruijn32tab), ("math/bits.deBruijn64tab", laid_math_bits_deBruijn64tab), ("internal/strconv.uint64pow10", laid_internal_strconv_uint64pow10)] }
def NatWordSaid : Prop := natWordRow.holds Tryd.pinned (OpenSpec.ofChange natWordSpec)

/-- ITS FALSE NEIGHBOUR: 'it returns false'. Refute it at one input. -/
def natWordWrong : ChangeSpec := { name := "natWord", fn := fun _ => fun
  | [d1, d2] => { results := [.lit (.bool false)], args := [d1, d2] }
  | _ => none }
def NatWordWrongFalsely : Prop := natWordRow.holds Tryd.pinned (OpenSpec.ofChange natWordWrong)

/-- 'electionlaw01.NatPower': WHATEVER THE INPUT: true; the input reads as it did. -/
def natPowerSpec : ChangeSpec := { name := "natPower", fn := fun _ => fun
  | [d] => { results := [.lit (.bool true)], args := [d] }
  | _ => none }
def natPowerRow : OpenClaim := { program := "ytbkfahpbmpkkhaadoor", sum := "0a6bcf2db3ff2766ad3e625346665cad3b6633ee8bd1bf3df0b48b778fc511dc", func := "election/electionlaw01.NatPower", spec := "natPower", named := ["math/bits.overflowError", "internal/strconv.uint64pow10", "math/bits.deBruijn32tab", "math/bits.deBruijn64tab"], apart := false, laid := [("math/bits.deBruijn32tab", laid_math_bits_deBruijn32tab), ("math/bits.deBruijn64tab", laid_math_bits_deBruijn64tab), ("internal/strconv.uint64pow10", laid_internal_strconv_uint64pow10)] }
def NatPowerSaid : Prop := natPowerRow.holds Tryd.pinned (OpenSpec.ofChange natPowerSpec)

/-- ITS FALSE NEIGHBOUR: 'it returns false'. Refute it at one input. -/
def natPowerWrong : ChangeSpec := { name := "natPower", fn := fun _ => fun
  | [d] => { results := [.lit (.bool false)], args := [d] }
  | _ => none }
def NatPowerWrongFalsely : Prop := natPowerRow.holds Tryd.pinned (OpenSpec.ofChange natPowerWrong)

/- THE SECOND FORM. 'bulk': how many values and letters a reading holds, each counted each time it is reached (what is shared counts as often as it is met; a slice's spare places count too). A statement '..UptoSaid' is the law's where the arguments, and the package variables that the reading takes, are together of bulk at most 1048576: NARROWER than '..Said'. Prove '..Said' where nothing that the law and all that it calls make is longer than what came in: it says more and counts as full. Else prove '..UptoSaid'. A law counts once. -/
mutual
def uptoBulk {H : Type} : DataW H → Nat
  | .lit (.string bytes) => bytes.length + 1
  | .lit _ => 1
  | .nil => 1
  | .ptr d => uptoBulk d + 1
  | .slice elems spare => uptoBulkAll elems + uptoBulkAll spare + 1
  | .agg parts => uptoBulkAll parts + 1
  | .iface _ d => uptoBulk d + 1
  | .map entries => uptoBulkEntries entries + 1
  | .held _ => 1
def uptoBulkAll {H : Type} : List (DataW H) → Nat
  | [] => 0
  | d :: r => uptoBulk d + uptoBulkAll r
def uptoBulkEntries {H : Type} : List (Lit × DataW H) → Nat
  | [] => 0
  | x :: r => uptoBulkEntry x + uptoBulkEntries r
def uptoBulkEntry {H : Type} : Lit × DataW H → Nat
  | (.string bytes, d) => bytes.length + uptoBulk d + 1
  | (_, d) => uptoBulk d + 1
 end
def uptoSmall : (H : Type) → List (DataW H) → Bool := fun _ ds => decide (uptoBulkAll ds ≤ 1048576)
def OpenSpec.upto (s : _root_.Go.ChangeSpec) : _root_.Go.OpenSpec := { _root_.Go.OpenSpec.ofChange s with cond := some uptoSmall }

/-- 'electionlaw01.NatSum', WHERE WHAT IT READS IS OF BULK AT MOST 1048576: true; the input reads as it did. -/
def natSumUptoRow : OpenClaim := { program := "ytbkfahpbmpkkhaadoor", sum := "0a6bcf2db3ff2766ad3e625346665cad3b6633ee8bd1bf3df0b48b778fc511dc", func := "election/electionlaw01.NatSum", spec := "natSum", named := ["math/bits.overflowError", "internal/strconv.uint64pow10", "math/bits.deBruijn32tab", "math/bits.deBruijn64tab"], apart := false, laid := [("math/bits.deBruijn32tab", laid_math_bits_deBruijn32tab), ("math/bits.deBruijn64tab", laid_math_bits_deBruijn64tab), ("internal/strconv.uint64pow10", laid_internal_strconv_uint64pow10)], narrowed := true }
def NatSumUptoSaid : Prop := natSumUptoRow.holds Tryd.pinned (OpenSpec.upto natSumSpec)

/-- 'electionlaw01.NatProduct', WHERE WHAT IT READS IS OF BULK AT MOST 1048576: true; the input reads as it did. -/
def natProductUptoRow : OpenClaim := { program := "ytbkfahpbmpkkhaadoor", sum := "0a6bcf2db3ff2766ad3e625346665cad3b6633ee8bd1bf3df0b48b778fc511dc", func := "election/electionlaw01.NatProduct", spec := "natProduct", named := ["math/bits.overflowError", "internal/strconv.uint64pow10", "math/bits.deBruijn32tab", "math/bits.deBruijn64tab"], apart := false, laid := [("math/bits.deBruijn32tab", laid_math_bits_deBruijn32tab), ("math/bits.deBruijn64tab", laid_math_bits_deBruijn64tab), ("internal/strconv.uint64pow10", laid_internal_strconv_uint64pow10)], narrowed := true }
def NatProductUptoSaid : Prop := natProductUptoRow.holds Tryd.pinned (OpenSpec.upto natProductSpec)

/-- 'electionlaw01.NatQuotient', WHERE WHAT IT READS IS OF BULK AT MOST 1048576: true; the input reads as it did. -/
def natQuotientUptoRow : OpenClaim := { program := "ytbkfahpbmpkkhaadoor", sum := "0a6bcf2db3ff2766ad3e625346665cad3b6633ee8bd1bf3df0b48b778fc511dc", func := "election/electionlaw01.NatQuotient", spec := "natQuotient", named := ["math/bits.overflowError", "internal/strconv.uint64pow10", "math/bits.deBruijn32tab", "math/bits.deBruijn64tab"], apart := false, laid := [("math/bits.deBruijn32tab", laid_math_bits_deBruijn32tab), ("math/bits.deBruijn64tab", laid_math_bits_deBruijn64tab), ("internal/strconv.uint64pow10", laid_internal_strconv_uint64pow10)], narrowed := true }
def NatQuotientUptoSaid : Prop := natQuotientUptoRow.holds Tryd.pinned (OpenSpec.upto natQuotientSpec)

/-- 'electionlaw01.NatInverse', WHERE WHAT IT READS IS OF BULK AT MOST 1048576: true; the input reads as it did. -/
def natInverseUptoRow : OpenClaim := { program := "ytbkfahpbmpkkhaadoor", sum := "0a6bcf2db3ff2766ad3e625346665cad3b6633ee8bd1bf3df0b48b778fc511dc", func := "election/electionlaw01.NatInverse", spec := "natInverse", named := ["math/bits.overflowError", "internal/strconv.uint64pow10", "math/bits.deBruijn32tab", "math/bits.deBruijn64tab"], apart := false, laid := [("math/bits.deBruijn32tab", laid_math_bits_deBruijn32tab), ("math/bits.deBruijn64tab", laid_math_bits_deBruijn64tab), ("internal/strconv.uint64pow10", laid_internal_strconv_uint64pow10)], narrowed := true }
def NatInverseUptoSaid : Prop := natInverseUptoRow.holds Tryd.pinned (OpenSpec.upto natInverseSpec)

/-- 'electionlaw01.NatRing', WHERE WHAT IT READS IS OF BULK AT MOST 1048576: true; the input reads as it did. -/
def natRingUptoRow : OpenClaim := { program := "ytbkfahpbmpkkhaadoor", sum := "0a6bcf2db3ff2766ad3e625346665cad3b6633ee8bd1bf3df0b48b778fc511dc", func := "election/electionlaw01.NatRing", spec := "natRing", named := ["math/bits.overflowError", "internal/strconv.uint64pow10", "math/bits.deBruijn32tab", "math/bits.deBruijn64tab"], apart := false, laid := [("math/bits.deBruijn32tab", laid_math_bits_deBruijn32tab), ("math/bits.deBruijn64tab", laid_math_bits_deBruijn64tab), ("internal/strconv.uint64pow10", laid_internal_strconv_uint64pow10)], narrowed := true }
def NatRingUptoSaid : Prop := natRingUptoRow.holds Tryd.pinned (OpenSpec.upto natRingSpec)

/-- 'electionlaw01.NatCommon', WHERE WHAT IT READS IS OF BULK AT MOST 1048576: true; the input reads as it did. -/
def natCommonUptoRow : OpenClaim := { program := "ytbkfahpbmpkkhaadoor", sum := "0a6bcf2db3ff2766ad3e625346665cad3b6633ee8bd1bf3df0b48b778fc511dc", func := "election/electionlaw01.NatCommon", spec := "natCommon", named := ["math/bits.overflowError", "internal/strconv.uint64pow10", "math/bits.deBruijn32tab", "math/bits.deBruijn64tab"], apart := false, laid := [("math/bits.deBruijn32tab", laid_math_bits_deBruijn32tab), ("math/bits.deBruijn64tab", laid_math_bits_deBruijn64tab), ("internal/strconv.uint64pow10", laid_internal_strconv_uint64pow10)], narrowed := true }
def NatCommonUptoSaid : Prop := natCommonUptoRow.holds Tryd.pinned (OpenSpec.upto natCommonSpec)

/-- 'electionlaw01.NatDecimal', WHERE WHAT IT READS IS OF BULK AT MOST 1048576: true; the input reads as it did. -/
def natDecimalUptoRow : OpenClaim := { program := "ytbkfahpbmpkkhaadoor", sum := "0a6bcf2db3ff2766ad3e625346665cad3b6633ee8bd1bf3df0b48b778fc511dc", func := "election/electionlaw01.NatDecimal", spec := "natDecimal", named := ["math/bits.overflowError", "internal/strconv.uint64pow10", "math/bits.deBruijn32tab", "math/bits.deBruijn64tab"], apart := false, laid := [("math/bits.deBruijn32tab", laid_math_bits_deBruijn32tab), ("math/bits.deBruijn64tab", laid_math_bits_deBruijn64tab), ("internal/strconv.uint64pow10", laid_internal_strconv_uint64pow10)], narrowed := true }
def NatDecimalUptoSaid : Prop := natDecimalUptoRow.holds Tryd.pinned (OpenSpec.upto natDecimalSpec)

/-- 'electionlaw01.NatParse', WHERE WHAT IT READS IS OF BULK AT MOST 1048576: true; the input reads as it did. -/
def natParseUptoRow : OpenClaim := { program := "ytbkfahpbmpkkhaadoor", sum := "0a6bcf2db3ff2766ad3e625346665cad3b6633ee8bd1bf3df0b48b778fc511dc", func := "election/electionlaw01.NatParse", spec := "natParse", named := ["math/bits.overflowError", "internal/strconv.uint64pow10", "math/bits.deBruijn32tab", "math/bits.deBruijn64tab"], apart := false, laid := [("math/bits.deBruijn32tab", laid_math_bits_deBruijn32tab), ("math/bits.deBruijn64tab", laid_math_bits_deBruijn64tab), ("internal/strconv.uint64pow10", laid_internal_strconv_uint64pow10)], narrowed := true }
def NatParseUptoSaid : Prop := natParseUptoRow.holds Tryd.pinned (OpenSpec.upto natParseSpec)

/-- 'electionlaw01.NatForm', WHERE WHAT IT READS IS OF BULK AT MOST 1048576: true; the input reads as it did. -/
def natFormUptoRow : OpenClaim := { program := "ytbkfahpbmpkkhaadoor", sum := "0a6bcf2db3ff2766ad3e625346665cad3b6633ee8bd1bf3df0b48b778fc511dc", func := "election/electionlaw01.NatForm", spec := "natForm", named := ["math/bits.overflowError", "internal/strconv.uint64pow10", "math/bits.deBruijn32tab", "math/bits.deBruijn64tab"], apart := false, laid := [("math/bits.deBruijn32tab", laid_math_bits_deBruijn32tab), ("math/bits.deBruijn64tab", laid_math_bits_deBruijn64tab), ("internal/strconv.uint64pow10", laid_internal_strconv_uint64pow10)], narrowed := true }
def NatFormUptoSaid : Prop := natFormUptoRow.holds Tryd.pinned (OpenSpec.upto natFormSpec)

/-- 'electionlaw01.NatWord', WHERE WHAT IT READS IS OF BULK AT MOST 1048576: true; the input reads as it did. -/
def natWordUptoRow : OpenClaim := { program := "ytbkfahpbmpkkhaadoor", sum := "0a6bcf2db3ff2766ad3e625346665cad3b6633ee8bd1bf3df0b48b778fc511dc", func := "election/electionlaw01.NatWord", spec := "natWord", named := ["math/bits.overflowError", "internal/strconv.uint64pow10", "math/bits.deBruijn32tab", "math/bits.deBruijn64tab"], apart := false, laid := [("math/bits.deBruijn32tab", laid_math_bits_deBruijn32tab), ("math/bits.deBruijn64tab", laid_math_bits_deBruijn64tab), ("internal/strconv.uint64pow10", laid_internal_strconv_uint64pow10)], narrowed := true }
def NatWordUptoSaid : Prop := natWordUptoRow.holds Tryd.pinned (OpenSpec.upto natWordSpec)

/-- 'electionlaw01.NatPower', WHERE WHAT IT READS IS OF BULK AT MOST 1048576: true; the input reads as it did. -/
def natPowerUptoRow : OpenClaim := { program := "ytbkfahpbmpkkhaadoor", sum := "0a6bcf2db3ff2766ad3e625346665cad3b6633ee8bd1bf3df0b48b778fc511dc", func := "election/electionlaw01.NatPower", spec := "natPower", named := ["math/bits.overflowError", "internal/strconv.uint64pow10", "math/bits.deBruijn32tab", "math/bits.deBruijn64tab"], apart := false, laid := [("math/bits.deBruijn32tab", laid_math_bits_deBruijn32tab), ("math/bits.deBruijn64tab", laid_math_bits_deBruijn64tab), ("internal/strconv.uint64pow10", laid_internal_strconv_uint64pow10)], narrowed := true }
def NatPowerUptoSaid : Prop := natPowerUptoRow.holds Tryd.pinned (OpenSpec.upto natPowerSpec)

end Rows
end Go.Proofs.YtbkfahpbmpkkhaaDoor
