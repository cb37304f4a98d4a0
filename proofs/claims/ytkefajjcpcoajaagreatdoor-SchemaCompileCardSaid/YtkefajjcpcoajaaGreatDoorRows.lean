/-
  NARROWER THAN 'FOR EVERY INPUT', by the rows' own cells (each row's printed sentence says how): SchemaCompile: laid · SchemaText: laid · SchemaLines: laid · SchemaValid: laid · SchemaRound: laid · SchemaOrder: laid · SchemaStyle: laid · SchemaEqual: laid.
  DERIVED. THE GIVEN ROWS OF THIS SEAT. 8 by the template 'for every input the law returns true; each argument reads behind the call as it read before'; 0 by the template 'total and deterministic' (their statements: YtkefajjcpcoajaaGreatDoorTotals.lean).
  GIVEN WITH THE SEED: the statements are not yours to turn. If you find one false, say at which input.
  Laid BY PROGRAM, IN A SANDBOX (cutbox-rows.mjs): the forced cells as the released guide's own fill.sh prints them over the translation 70ce0179587eabdb… (all of the seat's roots in one cut). By AI agents, Wed Nov 11 2026. No macro, syntax, notation, axiom, sorry.
-/
import Derived.Test.YtkefajjcpcoajaaGreatDoorChecked
import GoSem.Claim
import GoSem.ClaimJoined
import GoSem.ClaimMapViews
import Derived.JoinedTies
import Derived.KernelRfl
namespace Go.Proofs.YtkefajjcpcoajaaGreatDoor
/- THE CELL 'sum', in the pinned program and in every row, IS THE sha256 OF THE DUMP (.gsa) THAT YtkefajjcpcoajaaGreatDoorProg.lean LOADS. Nothing in Lean hashes anything: it is a label: what it is worth is what the hold of that sum in a sandbox is worth. -/
noncomputable def Tryz.pinned : Pinned := { name := "ytkefajjcpcoajaagreatdoor", sum := "70ce0179587eabdb2aa800f1f9a5763d4b2e8afab95cca3b35acaf7a8a7ef0d9", checked := Tryz.checked }
namespace Rows
def none {H : Type} : Left H := { results := [], args := [] }

/- WHAT THE LISTED PACKAGE-LEVEL VARIABLES READ AS WHEN THE CALL BEGINS. Each datum BY PROGRAM (the guide's laid-datum.mjs) off the statement by which the dump's own 'gosem.cut.vars' lays the variable. In a bare row this is a premise. The card (YtkefajjcpcoajaaGreatDoorCards.lean) ties it to the program's text. -/
def laid_math_bits_deBruijn32tab {H : Type} : DataW H := .agg [.lit (.int .u8 0), .lit (.int .u8 1), .lit (.int .u8 28), .lit (.int .u8 2), .lit (.int .u8 29), .lit (.int .u8 14), .lit (.int .u8 24), .lit (.int .u8 3), .lit (.int .u8 30), .lit (.int .u8 22), .lit (.int .u8 20), .lit (.int .u8 15), .lit (.int .u8 25), .lit (.int .u8 17), .lit (.int .u8 4), .lit (.int .u8 8), .lit (.int .u8 31), .lit (.int .u8 27), .lit (.int .u8 13), .lit (.int .u8 23), .lit (.int .u8 21), .lit (.int .u8 19), .lit (.int .u8 16), .lit (.int .u8 7), .lit (.int .u8 26), .lit (.int .u8 12), .lit (.int .u8 18), .lit (.int .u8 6), .lit (.int .u8 11), .lit (.int .u8 5), .lit (.int .u8 10), .lit (.int .u8 9)]
def laid_math_bits_deBruijn64tab {H : Type} : DataW H := .agg [.lit (.int .u8 0), .lit (.int .u8 1), .lit (.int .u8 56), .lit (.int .u8 2), .lit (.int .u8 57), .lit (.int .u8 49), .lit (.int .u8 28), .lit (.int .u8 3), .lit (.int .u8 61), .lit (.int .u8 58), .lit (.int .u8 42), .lit (.int .u8 50), .lit (.int .u8 38), .lit (.int .u8 29), .lit (.int .u8 17), .lit (.int .u8 4), .lit (.int .u8 62), .lit (.int .u8 47), .lit (.int .u8 59), .lit (.int .u8 36), .lit (.int .u8 45), .lit (.int .u8 43), .lit (.int .u8 51), .lit (.int .u8 22), .lit (.int .u8 53), .lit (.int .u8 39), .lit (.int .u8 33), .lit (.int .u8 30), .lit (.int .u8 24), .lit (.int .u8 18), .lit (.int .u8 12), .lit (.int .u8 5), .lit (.int .u8 63), .lit (.int .u8 55), .lit (.int .u8 48), .lit (.int .u8 27), .lit (.int .u8 60), .lit (.int .u8 41), .lit (.int .u8 37), .lit (.int .u8 16), .lit (.int .u8 46), .lit (.int .u8 35), .lit (.int .u8 44), .lit (.int .u8 21), .lit (.int .u8 52), .lit (.int .u8 32), .lit (.int .u8 23), .lit (.int .u8 11), .lit (.int .u8 54), .lit (.int .u8 26), .lit (.int .u8 40), .lit (.int .u8 15), .lit (.int .u8 34), .lit (.int .u8 20), .lit (.int .u8 31), .lit (.int .u8 10), .lit (.int .u8 25), .lit (.int .u8 14), .lit (.int .u8 19), .lit (.int .u8 9), .lit (.int .u8 13), .lit (.int .u8 8), .lit (.int .u8 7), .lit (.int .u8 6)]
def laid_internal_strconv_uint64pow10 {H : Type} : DataW H := .agg [.lit (.int .u64 1), .lit (.int .u64 10), .lit (.int .u64 100), .lit (.int .u64 1000), .lit (.int .u64 10000), .lit (.int .u64 100000), .lit (.int .u64 1000000), .lit (.int .u64 10000000), .lit (.int .u64 100000000), .lit (.int .u64 1000000000), .lit (.int .u64 10000000000), .lit (.int .u64 100000000000), .lit (.int .u64 1000000000000), .lit (.int .u64 10000000000000), .lit (.int .u64 100000000000000), .lit (.int .u64 1000000000000000), .lit (.int .u64 10000000000000000), .lit (.int .u64 100000000000000000), .lit (.int .u64 1000000000000000000), .lit (.int .u64 10000000000000000000)]
def laid_strconv_ErrRange {H : Type} : DataW H := .iface "*errors.errorString" (.ptr (.agg [.lit (.string [118, 97, 108, 117, 101, 32, 111, 117, 116, 32, 111, 102, 32, 114, 97, 110, 103, 101])]))
def laid_strconv_ErrSyntax {H : Type} : DataW H := .iface "*errors.errorString" (.ptr (.agg [.lit (.string [105, 110, 118, 97, 108, 105, 100, 32, 115, 121, 110, 116, 97, 120])]))
def laid_election_schema_blockRules {H : Type} : DataW H := .agg [.agg [.lit (.string [115, 99, 97, 110]), .lit (.int .i64 1), .lit (.bool false)], .agg [.lit (.string [115, 99, 97, 110, 110, 101, 114, 115]), .lit (.int .i64 1), .lit (.bool false)], .agg [.lit (.string [112, 114, 101, 99, 105, 110, 99, 116, 115]), .lit (.int .i64 1), .lit (.bool false)], .agg [.lit (.string [99, 111, 110, 116, 101, 115, 116]), .lit (.int .i64 4), .lit (.bool true)], .agg [.lit (.string [115, 116, 121, 108, 101]), .lit (.int .i64 6), .lit (.bool true)], .agg [.lit (.string [97, 117, 100, 105, 116]), .lit (.int .i64 1), .lit (.bool false)], .agg [.lit (.string [112, 114, 105, 118, 97, 99, 121]), .lit (.int .i64 1), .lit (.bool false)]]
def laid_election_schema_fieldRules {H : Type} : DataW H := .agg [.agg [.lit (.string [115, 99, 97, 110]), .lit (.string [100, 111, 116, 115]), .lit (.int .i64 0), .lit (.int .i64 2), .lit (.int .i64 7)], .agg [.lit (.string [115, 99, 97, 110]), .lit (.string [98, 108, 97, 110, 107]), .lit (.int .i64 0), .lit (.int .i64 1), .lit (.int .i64 100)], .agg [.lit (.string [115, 99, 97, 110]), .lit (.string [109, 97, 114, 107, 101, 100]), .lit (.int .i64 0), .lit (.int .i64 1), .lit (.int .i64 100)], .agg [.lit (.string [115, 99, 97, 110, 110, 101, 114, 115]), .lit (.string [99, 111, 117, 110, 116]), .lit (.int .i64 0), .lit (.int .i64 1), .lit (.int .i64 6)], .agg [.lit (.string [115, 99, 97, 110, 110, 101, 114, 115]), .lit (.string [98, 97, 116, 99, 104]), .lit (.int .i64 0), .lit (.int .i64 1), .lit (.int .i64 16)], .agg [.lit (.string [112, 114, 101, 99, 105, 110, 99, 116, 115]), .lit (.string [110, 97, 109, 101, 115]), .lit (.int .i64 2), .lit (.int .i64 1), .lit (.int .i64 12)], .agg [.lit (.string [99, 111, 110, 116, 101, 115, 116]), .lit (.string [109, 101, 116, 104, 111, 100]), .lit (.int .i64 1), .lit (.int .i64 0), .lit (.int .i64 0)], .agg [.lit (.string [99, 111, 110, 116, 101, 115, 116]), .lit (.string [115, 101, 97, 116, 115]), .lit (.int .i64 0), .lit (.int .i64 1), .lit (.int .i64 5)], .agg [.lit (.string [99, 111, 110, 116, 101, 115, 116]), .lit (.string [114, 97, 110, 107, 115]), .lit (.int .i64 0), .lit (.int .i64 1), .lit (.int .i64 7)], .agg [.lit (.string [99, 111, 110, 116, 101, 115, 116]), .lit (.string [100, 105, 103, 105, 116, 115]), .lit (.int .i64 0), .lit (.int .i64 1), .lit (.int .i64 6)], .agg [.lit (.string [99, 111, 110, 116, 101, 115, 116]), .lit (.string [116, 105, 101, 115]), .lit (.int .i64 1), .lit (.int .i64 0), .lit (.int .i64 0)], .agg [.lit (.string [99, 111, 110, 116, 101, 115, 116]), .lit (.string [111, 118, 101, 114, 118, 111, 116, 101]), .lit (.int .i64 1), .lit (.int .i64 0), .lit (.int .i64 0)], .agg [.lit (.string [99, 111, 110, 116, 101, 115, 116]), .lit (.string [115, 107, 105, 112]), .lit (.int .i64 1), .lit (.int .i64 0), .lit (.int .i64 0)], .agg [.lit (.string [99, 111, 110, 116, 101, 115, 116]), .lit (.string [99, 97, 110, 100, 105, 100, 97, 116, 101, 115]), .lit (.int .i64 2), .lit (.int .i64 1), .lit (.int .i64 7)], .agg [.lit (.string [115, 116, 121, 108, 101]), .lit (.string [112, 114, 101, 99, 105, 110, 99, 116, 115]), .lit (.int .i64 2), .lit (.int .i64 1), .lit (.int .i64 12)], .agg [.lit (.string [115, 116, 121, 108, 101]), .lit (.string [99, 111, 110, 116, 101, 115, 116, 115]), .lit (.int .i64 2), .lit (.int .i64 1), .lit (.int .i64 4)], .agg [.lit (.string [97, 117, 100, 105, 116]), .lit (.string [114, 105, 115, 107]), .lit (.int .i64 3), .lit (.int .i64 0), .lit (.int .i64 0)], .agg [.lit (.string [97, 117, 100, 105, 116]), .lit (.string [115, 101, 101, 100]), .lit (.int .i64 4), .lit (.int .i64 0), .lit (.int .i64 0)], .agg [.lit (.string [112, 114, 105, 118, 97, 99, 121]), .lit (.string [99, 101, 108, 108]), .lit (.int .i64 0), .lit (.int .i64 1), .lit (.int .i64 400)]]

/-- 'electionlaw08.SchemaCompile': WHATEVER THE INPUT: true; the input reads as it did. -/
def schemaCompileSpec : ChangeSpec := { name := "schemaCompile", fn := fun _ => fun
  | [d] => { results := [.lit (.bool true)], args := [d] }
  | _ => none }
def schemaCompileRow : OpenClaim := { program := "ytkefajjcpcoajaagreatdoor", sum := "70ce0179587eabdb2aa800f1f9a5763d4b2e8afab95cca3b35acaf7a8a7ef0d9", func := "election/electionlaw08.SchemaCompile", spec := "schemaCompile", inPlace := ["internal/bytealg.IndexByteString", "internal/bytealg.IndexString", "internal/bytealg.CountString"], unfollowed := true, recurses := true, named := ["election/schema.blockRules", "internal/bytealg.MaxLen", "election/schema.fieldRules", "strconv.ErrSyntax", "strconv.ErrRange", "internal/strconv.uint64pow10", "math/bits.deBruijn32tab", "math/bits.deBruijn64tab", "math/bits.overflowError"], apart := false, laid := [("math/bits.deBruijn32tab", laid_math_bits_deBruijn32tab), ("math/bits.deBruijn64tab", laid_math_bits_deBruijn64tab), ("internal/strconv.uint64pow10", laid_internal_strconv_uint64pow10), ("strconv.ErrRange", laid_strconv_ErrRange), ("strconv.ErrSyntax", laid_strconv_ErrSyntax), ("election/schema.blockRules", laid_election_schema_blockRules), ("election/schema.fieldRules", laid_election_schema_fieldRules)] }
def SchemaCompileSaid : Prop := schemaCompileRow.holds Tryz.pinned (OpenSpec.ofChange schemaCompileSpec)

/-- ITS FALSE NEIGHBOUR: 'it returns false'. Refute it at one input. -/
def schemaCompileWrong : ChangeSpec := { name := "schemaCompile", fn := fun _ => fun
  | [d] => { results := [.lit (.bool false)], args := [d] }
  | _ => none }
def SchemaCompileWrongFalsely : Prop := schemaCompileRow.holds Tryz.pinned (OpenSpec.ofChange schemaCompileWrong)

/-- 'electionlaw08.SchemaText': WHATEVER THE INPUT: true; the input reads as it did. -/
def schemaTextSpec : ChangeSpec := { name := "schemaText", fn := fun _ => fun
  | [d] => { results := [.lit (.bool true)], args := [d] }
  | _ => none }
def schemaTextRow : OpenClaim := { program := "ytkefajjcpcoajaagreatdoor", sum := "70ce0179587eabdb2aa800f1f9a5763d4b2e8afab95cca3b35acaf7a8a7ef0d9", func := "election/electionlaw08.SchemaText", spec := "schemaText", inPlace := ["internal/bytealg.CountString", "internal/bytealg.IndexByteString", "internal/bytealg.IndexString"], unfollowed := true, recurses := true, named := ["internal/bytealg.MaxLen", "election/schema.blockRules", "election/schema.fieldRules", "strconv.ErrSyntax", "strconv.ErrRange", "internal/strconv.uint64pow10", "math/bits.deBruijn32tab", "math/bits.deBruijn64tab", "math/bits.overflowError"], apart := false, laid := [("math/bits.deBruijn32tab", laid_math_bits_deBruijn32tab), ("math/bits.deBruijn64tab", laid_math_bits_deBruijn64tab), ("internal/strconv.uint64pow10", laid_internal_strconv_uint64pow10), ("strconv.ErrRange", laid_strconv_ErrRange), ("strconv.ErrSyntax", laid_strconv_ErrSyntax), ("election/schema.blockRules", laid_election_schema_blockRules), ("election/schema.fieldRules", laid_election_schema_fieldRules)] }
def SchemaTextSaid : Prop := schemaTextRow.holds Tryz.pinned (OpenSpec.ofChange schemaTextSpec)

/-- ITS FALSE NEIGHBOUR: 'it returns false'. Refute it at one input. -/
def schemaTextWrong : ChangeSpec := { name := "schemaText", fn := fun _ => fun
  | [d] => { results := [.lit (.bool false)], args := [d] }
  | _ => none }
def SchemaTextWrongFalsely : Prop := schemaTextRow.holds Tryz.pinned (OpenSpec.ofChange schemaTextWrong)

/-- 'electionlaw08.SchemaLines': WHATEVER THE INPUT: true; the input reads as it did. -/
def schemaLinesSpec : ChangeSpec := { name := "schemaLines", fn := fun _ => fun
  | [d1, d2] => { results := [.lit (.bool true)], args := [d1, d2] }
  | _ => none }
def schemaLinesRow : OpenClaim := { program := "ytkefajjcpcoajaagreatdoor", sum := "70ce0179587eabdb2aa800f1f9a5763d4b2e8afab95cca3b35acaf7a8a7ef0d9", func := "election/electionlaw08.SchemaLines", spec := "schemaLines", inPlace := ["internal/bytealg.CountString", "internal/bytealg.IndexByteString", "internal/bytealg.IndexString"], unfollowed := true, recurses := true, named := ["internal/bytealg.MaxLen", "election/schema.blockRules", "election/schema.fieldRules", "strconv.ErrSyntax", "strconv.ErrRange", "internal/strconv.uint64pow10", "math/bits.deBruijn32tab", "math/bits.deBruijn64tab", "math/bits.overflowError"], apart := false, laid := [("math/bits.deBruijn32tab", laid_math_bits_deBruijn32tab), ("math/bits.deBruijn64tab", laid_math_bits_deBruijn64tab), ("internal/strconv.uint64pow10", laid_internal_strconv_uint64pow10), ("strconv.ErrRange", laid_strconv_ErrRange), ("strconv.ErrSyntax", laid_strconv_ErrSyntax), ("election/schema.blockRules", laid_election_schema_blockRules), ("election/schema.fieldRules", laid_election_schema_fieldRules)] }
def SchemaLinesSaid : Prop := schemaLinesRow.holds Tryz.pinned (OpenSpec.ofChange schemaLinesSpec)

/-- ITS FALSE NEIGHBOUR: 'it returns false'. Refute it at one input. -/
def schemaLinesWrong : ChangeSpec := { name := "schemaLines", fn := fun _ => fun
  | [d1, d2] => { results := [.lit (.bool false)], args := [d1, d2] }
  | _ => none }
def SchemaLinesWrongFalsely : Prop := schemaLinesRow.holds Tryz.pinned (OpenSpec.ofChange schemaLinesWrong)

/-- 'electionlaw08.SchemaValid': WHATEVER THE INPUT: true; the input reads as it did. -/
def schemaValidSpec : ChangeSpec := { name := "schemaValid", fn := fun _ => fun
  | [d] => { results := [.lit (.bool true)], args := [d] }
  | _ => none }
def schemaValidRow : OpenClaim := { program := "ytkefajjcpcoajaagreatdoor", sum := "70ce0179587eabdb2aa800f1f9a5763d4b2e8afab95cca3b35acaf7a8a7ef0d9", func := "election/electionlaw08.SchemaValid", spec := "schemaValid", inPlace := ["internal/bytealg.IndexByteString", "internal/bytealg.IndexString", "internal/bytealg.CountString"], unfollowed := true, recurses := true, named := ["math/bits.overflowError", "internal/strconv.uint64pow10", "math/bits.deBruijn32tab", "math/bits.deBruijn64tab", "election/schema.blockRules", "internal/bytealg.MaxLen", "election/schema.fieldRules", "strconv.ErrSyntax", "strconv.ErrRange"], apart := false, laid := [("math/bits.deBruijn32tab", laid_math_bits_deBruijn32tab), ("math/bits.deBruijn64tab", laid_math_bits_deBruijn64tab), ("internal/strconv.uint64pow10", laid_internal_strconv_uint64pow10), ("strconv.ErrRange", laid_strconv_ErrRange), ("strconv.ErrSyntax", laid_strconv_ErrSyntax), ("election/schema.blockRules", laid_election_schema_blockRules), ("election/schema.fieldRules", laid_election_schema_fieldRules)] }
def SchemaValidSaid : Prop := schemaValidRow.holds Tryz.pinned (OpenSpec.ofChange schemaValidSpec)

/-- ITS FALSE NEIGHBOUR: 'it returns false'. Refute it at one input. -/
def schemaValidWrong : ChangeSpec := { name := "schemaValid", fn := fun _ => fun
  | [d] => { results := [.lit (.bool false)], args := [d] }
  | _ => none }
def SchemaValidWrongFalsely : Prop := schemaValidRow.holds Tryz.pinned (OpenSpec.ofChange schemaValidWrong)

/-- 'electionlaw08.SchemaRound': WHATEVER THE INPUT: true; the input reads as it did. -/
def schemaRoundSpec : ChangeSpec := { name := "schemaRound", fn := fun _ => fun
  | [d] => { results := [.lit (.bool true)], args := [d] }
  | _ => none }
def schemaRoundRow : OpenClaim := { program := "ytkefajjcpcoajaagreatdoor", sum := "70ce0179587eabdb2aa800f1f9a5763d4b2e8afab95cca3b35acaf7a8a7ef0d9", func := "election/electionlaw08.SchemaRound", spec := "schemaRound", inPlace := ["internal/bytealg.IndexByteString", "internal/bytealg.IndexString", "internal/bytealg.CountString", "internal/abi.NoEscape"], unfollowed := true, recurses := true, named := ["election/schema.blockRules", "internal/bytealg.MaxLen", "election/schema.fieldRules", "strconv.ErrSyntax", "strconv.ErrRange", "internal/strconv.uint64pow10", "math/bits.deBruijn32tab", "math/bits.deBruijn64tab", "math/bits.overflowError"], apart := false, laid := [("math/bits.deBruijn32tab", laid_math_bits_deBruijn32tab), ("math/bits.deBruijn64tab", laid_math_bits_deBruijn64tab), ("internal/strconv.uint64pow10", laid_internal_strconv_uint64pow10), ("strconv.ErrRange", laid_strconv_ErrRange), ("strconv.ErrSyntax", laid_strconv_ErrSyntax), ("election/schema.blockRules", laid_election_schema_blockRules), ("election/schema.fieldRules", laid_election_schema_fieldRules)] }
def SchemaRoundSaid : Prop := schemaRoundRow.holds Tryz.pinned (OpenSpec.ofChange schemaRoundSpec)

/-- ITS FALSE NEIGHBOUR: 'it returns false'. Refute it at one input. -/
def schemaRoundWrong : ChangeSpec := { name := "schemaRound", fn := fun _ => fun
  | [d] => { results := [.lit (.bool false)], args := [d] }
  | _ => none }
def SchemaRoundWrongFalsely : Prop := schemaRoundRow.holds Tryz.pinned (OpenSpec.ofChange schemaRoundWrong)

/-- 'electionlaw08.SchemaOrder': WHATEVER THE INPUT: true; the input reads as it did. -/
def schemaOrderSpec : ChangeSpec := { name := "schemaOrder", fn := fun _ => fun
  | [d1, d2, d3] => { results := [.lit (.bool true)], args := [d1, d2, d3] }
  | _ => none }
def schemaOrderRow : OpenClaim := { program := "ytkefajjcpcoajaagreatdoor", sum := "70ce0179587eabdb2aa800f1f9a5763d4b2e8afab95cca3b35acaf7a8a7ef0d9", func := "election/electionlaw08.SchemaOrder", spec := "schemaOrder", inPlace := ["internal/bytealg.CountString", "internal/bytealg.IndexByteString", "internal/bytealg.IndexString"], unfollowed := true, recurses := true, named := ["internal/bytealg.MaxLen", "election/schema.blockRules", "election/schema.fieldRules", "strconv.ErrSyntax", "strconv.ErrRange", "internal/strconv.uint64pow10", "math/bits.deBruijn32tab", "math/bits.deBruijn64tab", "math/bits.overflowError"], apart := false, laid := [("math/bits.deBruijn32tab", laid_math_bits_deBruijn32tab), ("math/bits.deBruijn64tab", laid_math_bits_deBruijn64tab), ("internal/strconv.uint64pow10", laid_internal_strconv_uint64pow10), ("strconv.ErrRange", laid_strconv_ErrRange), ("strconv.ErrSyntax", laid_strconv_ErrSyntax), ("election/schema.blockRules", laid_election_schema_blockRules), ("election/schema.fieldRules", laid_election_schema_fieldRules)] }
def SchemaOrderSaid : Prop := schemaOrderRow.holds Tryz.pinned (OpenSpec.ofChange schemaOrderSpec)

/-- ITS FALSE NEIGHBOUR: 'it returns false'. Refute it at one input. -/
def schemaOrderWrong : ChangeSpec := { name := "schemaOrder", fn := fun _ => fun
  | [d1, d2, d3] => { results := [.lit (.bool false)], args := [d1, d2, d3] }
  | _ => none }
def SchemaOrderWrongFalsely : Prop := schemaOrderRow.holds Tryz.pinned (OpenSpec.ofChange schemaOrderWrong)

/-- 'electionlaw08.SchemaStyle': WHATEVER THE INPUT: true; the input reads as it did. -/
def schemaStyleSpec : ChangeSpec := { name := "schemaStyle", fn := fun _ => fun
  | [d1, d2] => { results := [.lit (.bool true)], args := [d1, d2] }
  | _ => none }
def schemaStyleRow : OpenClaim := { program := "ytkefajjcpcoajaagreatdoor", sum := "70ce0179587eabdb2aa800f1f9a5763d4b2e8afab95cca3b35acaf7a8a7ef0d9", func := "election/electionlaw08.SchemaStyle", spec := "schemaStyle", inPlace := ["internal/bytealg.CountString", "internal/bytealg.IndexByteString", "internal/bytealg.IndexString"], unfollowed := true, recurses := true, named := ["internal/bytealg.MaxLen", "election/schema.blockRules", "election/schema.fieldRules", "strconv.ErrSyntax", "strconv.ErrRange", "internal/strconv.uint64pow10", "math/bits.deBruijn32tab", "math/bits.deBruijn64tab", "math/bits.overflowError"], apart := false, laid := [("math/bits.deBruijn32tab", laid_math_bits_deBruijn32tab), ("math/bits.deBruijn64tab", laid_math_bits_deBruijn64tab), ("internal/strconv.uint64pow10", laid_internal_strconv_uint64pow10), ("strconv.ErrRange", laid_strconv_ErrRange), ("strconv.ErrSyntax", laid_strconv_ErrSyntax), ("election/schema.blockRules", laid_election_schema_blockRules), ("election/schema.fieldRules", laid_election_schema_fieldRules)] }
def SchemaStyleSaid : Prop := schemaStyleRow.holds Tryz.pinned (OpenSpec.ofChange schemaStyleSpec)

/-- ITS FALSE NEIGHBOUR: 'it returns false'. Refute it at one input. -/
def schemaStyleWrong : ChangeSpec := { name := "schemaStyle", fn := fun _ => fun
  | [d1, d2] => { results := [.lit (.bool false)], args := [d1, d2] }
  | _ => none }
def SchemaStyleWrongFalsely : Prop := schemaStyleRow.holds Tryz.pinned (OpenSpec.ofChange schemaStyleWrong)

/-- 'electionlaw08.SchemaEqual': WHATEVER THE INPUT: true; the input reads as it did. -/
def schemaEqualSpec : ChangeSpec := { name := "schemaEqual", fn := fun _ => fun
  | [d1, d2] => { results := [.lit (.bool true)], args := [d1, d2] }
  | _ => none }
def schemaEqualRow : OpenClaim := { program := "ytkefajjcpcoajaagreatdoor", sum := "70ce0179587eabdb2aa800f1f9a5763d4b2e8afab95cca3b35acaf7a8a7ef0d9", func := "election/electionlaw08.SchemaEqual", spec := "schemaEqual", inPlace := ["internal/bytealg.CountString", "internal/bytealg.IndexByteString", "internal/bytealg.IndexString"], unfollowed := true, recurses := true, named := ["internal/bytealg.MaxLen", "election/schema.blockRules", "election/schema.fieldRules", "strconv.ErrSyntax", "strconv.ErrRange", "internal/strconv.uint64pow10", "math/bits.deBruijn32tab", "math/bits.deBruijn64tab", "math/bits.overflowError"], apart := false, laid := [("math/bits.deBruijn32tab", laid_math_bits_deBruijn32tab), ("math/bits.deBruijn64tab", laid_math_bits_deBruijn64tab), ("internal/strconv.uint64pow10", laid_internal_strconv_uint64pow10), ("strconv.ErrRange", laid_strconv_ErrRange), ("strconv.ErrSyntax", laid_strconv_ErrSyntax), ("election/schema.blockRules", laid_election_schema_blockRules), ("election/schema.fieldRules", laid_election_schema_fieldRules)] }
def SchemaEqualSaid : Prop := schemaEqualRow.holds Tryz.pinned (OpenSpec.ofChange schemaEqualSpec)

/-- ITS FALSE NEIGHBOUR: 'it returns false'. Refute it at one input. -/
def schemaEqualWrong : ChangeSpec := { name := "schemaEqual", fn := fun _ => fun
  | [d1, d2] => { results := [.lit (.bool false)], args := [d1, d2] }
  | _ => none }
def SchemaEqualWrongFalsely : Prop := schemaEqualRow.holds Tryz.pinned (OpenSpec.ofChange schemaEqualWrong)

/- THE SECOND FORM. 'bulk': how many values and letters a reading holds, each counted each time it is reached (what is shared counts as often as it is met; a slice's spare places count too). A statement '..UptoSaid' is the law's where the arguments, and the package variables that the reading takes, are together of bulk at most 1048576: NARROWER than '..Said'. Prove '..Said' where nothing that the law and all that it calls make is longer than what came in: it says more and counts as full. Else prove '..UptoSaid'. A law counts once. -/
mutual
def uptoBulk {H : Type} : DataW H → Nat
  | .lit (.string bytes) => bytes.length + 1
  | .lit _ => 1
  | .nil => 1
  | .ptr d => uptoBulk d + 1
  | .slice elems spare => uptoBulkAll elems + uptoBulkAll spare + 1
  | .agg parts => uptoBulkAll parts + 1
  | .iface _ d => uptoBulk d + 1
  | .map entries => uptoBulkEntries entries + 1
  | .held _ => 1
def uptoBulkAll {H : Type} : List (DataW H) → Nat
  | [] => 0
  | d :: r => uptoBulk d + uptoBulkAll r
def uptoBulkEntries {H : Type} : List (Lit × DataW H) → Nat
  | [] => 0
  | x :: r => uptoBulkEntry x + uptoBulkEntries r
def uptoBulkEntry {H : Type} : Lit × DataW H → Nat
  | (.string bytes, d) => bytes.length + uptoBulk d + 1
  | (_, d) => uptoBulk d + 1
 end
def uptoSmall : (H : Type) → List (DataW H) → Bool := fun _ ds => decide (uptoBulkAll ds ≤ 1048576)
def OpenSpec.upto (s : _root_.Go.ChangeSpec) : _root_.Go.OpenSpec := { _root_.Go.OpenSpec.ofChange s with cond := some uptoSmall }

/-- 'electionlaw08.SchemaCompile', WHERE WHAT IT READS IS OF BULK AT MOST 1048576: true; the input reads as it did. -/
def schemaCompileUptoRow : OpenClaim := { program := "ytkefajjcpcoajaagreatdoor", sum := "70ce0179587eabdb2aa800f1f9a5763d4b2e8afab95cca3b35acaf7a8a7ef0d9", func := "election/electionlaw08.SchemaCompile", spec := "schemaCompile", inPlace := ["internal/bytealg.IndexByteString", "internal/bytealg.IndexString", "internal/bytealg.CountString"], unfollowed := true, recurses := true, named := ["election/schema.blockRules", "internal/bytealg.MaxLen", "election/schema.fieldRules", "strconv.ErrSyntax", "strconv.ErrRange", "internal/strconv.uint64pow10", "math/bits.deBruijn32tab", "math/bits.deBruijn64tab", "math/bits.overflowError"], apart := false, laid := [("math/bits.deBruijn32tab", laid_math_bits_deBruijn32tab), ("math/bits.deBruijn64tab", laid_math_bits_deBruijn64tab), ("internal/strconv.uint64pow10", laid_internal_strconv_uint64pow10), ("strconv.ErrRange", laid_strconv_ErrRange), ("strconv.ErrSyntax", laid_strconv_ErrSyntax), ("election/schema.blockRules", laid_election_schema_blockRules), ("election/schema.fieldRules", laid_election_schema_fieldRules)], narrowed := true }
def SchemaCompileUptoSaid : Prop := schemaCompileUptoRow.holds Tryz.pinned (OpenSpec.upto schemaCompileSpec)

/-- 'electionlaw08.SchemaText', WHERE WHAT IT READS IS OF BULK AT MOST 1048576: true; the input reads as it did. -/
def schemaTextUptoRow : OpenClaim := { program := "ytkefajjcpcoajaagreatdoor", sum := "70ce0179587eabdb2aa800f1f9a5763d4b2e8afab95cca3b35acaf7a8a7ef0d9", func := "election/electionlaw08.SchemaText", spec := "schemaText", inPlace := ["internal/bytealg.CountString", "internal/bytealg.IndexByteString", "internal/bytealg.IndexString"], unfollowed := true, recurses := true, named := ["internal/bytealg.MaxLen", "election/schema.blockRules", "election/schema.fieldRules", "strconv.ErrSyntax", "strconv.ErrRange", "internal/strconv.uint64pow10", "math/bits.deBruijn32tab", "math/bits.deBruijn64tab", "math/bits.overflowError"], apart := false, laid := [("math/bits.deBruijn32tab", laid_math_bits_deBruijn32tab), ("math/bits.deBruijn64tab", laid_math_bits_deBruijn64tab), ("internal/strconv.uint64pow10", laid_internal_strconv_uint64pow10), ("strconv.ErrRange", laid_strconv_ErrRange), ("strconv.ErrSyntax", laid_strconv_ErrSyntax), ("election/schema.blockRules", laid_election_schema_blockRules), ("election/schema.fieldRules", laid_election_schema_fieldRules)], narrowed := true }
def SchemaTextUptoSaid : Prop := schemaTextUptoRow.holds Tryz.pinned (OpenSpec.upto schemaTextSpec)

/-- 'electionlaw08.SchemaLines', WHERE WHAT IT READS IS OF BULK AT MOST 1048576: true; the input reads as it did. -/
def schemaLinesUptoRow : OpenClaim := { program := "ytkefajjcpcoajaagreatdoor", sum := "70ce0179587eabdb2aa800f1f9a5763d4b2e8afab95cca3b35acaf7a8a7ef0d9", func := "election/electionlaw08.SchemaLines", spec := "schemaLines", inPlace := ["internal/bytealg.CountString", "internal/bytealg.IndexByteString", "internal/bytealg.IndexString"], unfollowed := true, recurses := true, named := ["internal/bytealg.MaxLen", "election/schema.blockRules", "election/schema.fieldRules", "strconv.ErrSyntax", "strconv.ErrRange", "internal/strconv.uint64pow10", "math/bits.deBruijn32tab", "math/bits.deBruijn64tab", "math/bits.overflowError"], apart := false, laid := [("math/bits.deBruijn32tab", laid_math_bits_deBruijn32tab), ("math/bits.deBruijn64tab", laid_math_bits_deBruijn64tab), ("internal/strconv.uint64pow10", laid_internal_strconv_uint64pow10), ("strconv.ErrRange", laid_strconv_ErrRange), ("strconv.ErrSyntax", laid_strconv_ErrSyntax), ("election/schema.blockRules", laid_election_schema_blockRules), ("election/schema.fieldRules", laid_election_schema_fieldRules)], narrowed := true }
def SchemaLinesUptoSaid : Prop := schemaLinesUptoRow.holds Tryz.pinned (OpenSpec.upto schemaLinesSpec)

/-- 'electionlaw08.SchemaValid', WHERE WHAT IT READS IS OF BULK AT MOST 1048576: true; the input reads as it did. -/
def schemaValidUptoRow : OpenClaim := { program := "ytkefajjcpcoajaagreatdoor", sum := "70ce0179587eabdb2aa800f1f9a5763d4b2e8afab95cca3b35acaf7a8a7ef0d9", func := "election/electionlaw08.SchemaValid", spec := "schemaValid", inPlace := ["internal/bytealg.IndexByteString", "internal/bytealg.IndexString", "internal/bytealg.CountString"], unfollowed := true, recurses := true, named := ["math/bits.overflowError", "internal/strconv.uint64pow10", "math/bits.deBruijn32tab", "math/bits.deBruijn64tab", "election/schema.blockRules", "internal/bytealg.MaxLen", "election/schema.fieldRules", "strconv.ErrSyntax", "strconv.ErrRange"], apart := false, laid := [("math/bits.deBruijn32tab", laid_math_bits_deBruijn32tab), ("math/bits.deBruijn64tab", laid_math_bits_deBruijn64tab), ("internal/strconv.uint64pow10", laid_internal_strconv_uint64pow10), ("strconv.ErrRange", laid_strconv_ErrRange), ("strconv.ErrSyntax", laid_strconv_ErrSyntax), ("election/schema.blockRules", laid_election_schema_blockRules), ("election/schema.fieldRules", laid_election_schema_fieldRules)], narrowed := true }
def SchemaValidUptoSaid : Prop := schemaValidUptoRow.holds Tryz.pinned (OpenSpec.upto schemaValidSpec)

/-- 'electionlaw08.SchemaRound', WHERE WHAT IT READS IS OF BULK AT MOST 1048576: true; the input reads as it did. -/
def schemaRoundUptoRow : OpenClaim := { program := "ytkefajjcpcoajaagreatdoor", sum := "70ce0179587eabdb2aa800f1f9a5763d4b2e8afab95cca3b35acaf7a8a7ef0d9", func := "election/electionlaw08.SchemaRound", spec := "schemaRound", inPlace := ["internal/bytealg.IndexByteString", "internal/bytealg.IndexString", "internal/bytealg.CountString", "internal/abi.NoEscape"], unfollowed := true, recurses := true, named := ["election/schema.blockRules", "internal/bytealg.MaxLen", "election/schema.fieldRules", "strconv.ErrSyntax", "strconv.ErrRange", "internal/strconv.uint64pow10", "math/bits.deBruijn32tab", "math/bits.deBruijn64tab", "math/bits.overflowError"], apart := false, laid := [("math/bits.deBruijn32tab", laid_math_bits_deBruijn32tab), ("math/bits.deBruijn64tab", laid_math_bits_deBruijn64tab), ("internal/strconv.uint64pow10", laid_internal_strconv_uint64pow10), ("strconv.ErrRange", laid_strconv_ErrRange), ("strconv.ErrSyntax", laid_strconv_ErrSyntax), ("election/schema.blockRules", laid_election_schema_blockRules), ("election/schema.fieldRules", laid_election_schema_fieldRules)], narrowed := true }
def SchemaRoundUptoSaid : Prop := schemaRoundUptoRow.holds Tryz.pinned (OpenSpec.upto schemaRoundSpec)

/-- 'electionlaw08.SchemaOrder', WHERE WHAT IT READS IS OF BULK AT MOST 1048576: true; the input reads as it did. -/
def schemaOrderUptoRow : OpenClaim := { program := "ytkefajjcpcoajaagreatdoor", sum := "70ce0179587eabdb2aa800f1f9a5763d4b2e8afab95cca3b35acaf7a8a7ef0d9", func := "election/electionlaw08.SchemaOrder", spec := "schemaOrder", inPlace := ["internal/bytealg.CountString", "internal/bytealg.IndexByteString", "internal/bytealg.IndexString"], unfollowed := true, recurses := true, named := ["internal/bytealg.MaxLen", "election/schema.blockRules", "election/schema.fieldRules", "strconv.ErrSyntax", "strconv.ErrRange", "internal/strconv.uint64pow10", "math/bits.deBruijn32tab", "math/bits.deBruijn64tab", "math/bits.overflowError"], apart := false, laid := [("math/bits.deBruijn32tab", laid_math_bits_deBruijn32tab), ("math/bits.deBruijn64tab", laid_math_bits_deBruijn64tab), ("internal/strconv.uint64pow10", laid_internal_strconv_uint64pow10), ("strconv.ErrRange", laid_strconv_ErrRange), ("strconv.ErrSyntax", laid_strconv_ErrSyntax), ("election/schema.blockRules", laid_election_schema_blockRules), ("election/schema.fieldRules", laid_election_schema_fieldRules)], narrowed := true }
def SchemaOrderUptoSaid : Prop := schemaOrderUptoRow.holds Tryz.pinned (OpenSpec.upto schemaOrderSpec)

/-- 'electionlaw08.SchemaStyle', WHERE WHAT IT READS IS OF BULK AT MOST 1048576: true; the input reads as it did. -/
def schemaStyleUptoRow : OpenClaim := { program := "ytkefajjcpcoajaagreatdoor", sum := "70ce0179587eabdb2aa800f1f9a5763d4b2e8afab95cca3b35acaf7a8a7ef0d9", func := "election/electionlaw08.SchemaStyle", spec := "schemaStyle", inPlace := ["internal/bytealg.CountString", "internal/bytealg.IndexByteString", "internal/bytealg.IndexString"], unfollowed := true, recurses := true, named := ["internal/bytealg.MaxLen", "election/schema.blockRules", "election/schema.fieldRules", "strconv.ErrSyntax", "strconv.ErrRange", "internal/strconv.uint64pow10", "math/bits.deBruijn32tab", "math/bits.deBruijn64tab", "math/bits.overflowError"], apart := false, laid := [("math/bits.deBruijn32tab", laid_math_bits_deBruijn32tab), ("math/bits.deBruijn64tab", laid_math_bits_deBruijn64tab), ("internal/strconv.uint64pow10", laid_internal_strconv_uint64pow10), ("strconv.ErrRange", laid_strconv_ErrRange), ("strconv.ErrSyntax", laid_strconv_ErrSyntax), ("election/schema.blockRules", laid_election_schema_blockRules), ("election/schema.fieldRules", laid_election_schema_fieldRules)], narrowed := true }
def SchemaStyleUptoSaid : Prop := schemaStyleUptoRow.holds Tryz.pinned (OpenSpec.upto schemaStyleSpec)

/-- 'electionlaw08.SchemaEqual', WHERE WHAT IT READS IS OF BULK AT MOST 1048576: true; the input reads as it did. -/
def schemaEqualUptoRow : OpenClaim := { program := "ytkefajjcpcoajaagreatdoor", sum := "70ce0179587eabdb2aa800f1f9a5763d4b2e8afab95cca3b35acaf7a8a7ef0d9", func := "election/electionlaw08.SchemaEqual", spec := "schemaEqual", inPlace := ["internal/bytealg.CountString", "internal/bytealg.IndexByteString", "internal/bytealg.IndexString"], unfollowed := true, recurses := true, named := ["internal/bytealg.MaxLen", "election/schema.blockRules", "election/schema.fieldRules", "strconv.ErrSyntax", "strconv.ErrRange", "internal/strconv.uint64pow10", "math/bits.deBruijn32tab", "math/bits.deBruijn64tab", "math/bits.overflowError"], apart := false, laid := [("math/bits.deBruijn32tab", laid_math_bits_deBruijn32tab), ("math/bits.deBruijn64tab", laid_math_bits_deBruijn64tab), ("internal/strconv.uint64pow10", laid_internal_strconv_uint64pow10), ("strconv.ErrRange", laid_strconv_ErrRange), ("strconv.ErrSyntax", laid_strconv_ErrSyntax), ("election/schema.blockRules", laid_election_schema_blockRules), ("election/schema.fieldRules", laid_election_schema_fieldRules)], narrowed := true }
def SchemaEqualUptoSaid : Prop := schemaEqualUptoRow.holds Tryz.pinned (OpenSpec.upto schemaEqualSpec)

end Rows
end Go.Proofs.YtkefajjcpcoajaaGreatDoor
