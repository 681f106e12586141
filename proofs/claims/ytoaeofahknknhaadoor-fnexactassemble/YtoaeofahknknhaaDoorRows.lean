/-
  NARROWER THAN 'FOR EVERY INPUT', by the rows' own cells (each row's printed sentence says how): FnCode: laid · FnAssemble: laid · FnExactInstrOK: laid · FnExactLengthOf: laid · FnExactCyclesOf: laid · FnExactEncode: laid · FnExactDecode: laid · FnExactInstrText: laid · FnExactReadInstr: laid · FnExactAssemble: laid.
  DERIVED. THE GIVEN ROWS OF THIS SEAT. 10 by the template 'for every input the law returns true; each argument reads behind the call as it read before'; 0 by the template 'total and deterministic' (their statements: YtoaeofahknknhaaDoorTotals.lean).
  GIVEN WITH THE SEED: the statements are not yours to turn. If you find one false, say at which input.
  Laid BY PROGRAM, IN A SANDBOX (cutbox-rows.mjs): the forced cells as the released guide's own fill.sh prints them over the translation 5263630be37d6f6d… (all of the seat's roots in one cut). By AI agents, Wed Nov 11 2026. No macro, syntax, notation, axiom, sorry.
-/
import Derived.Test.YtoaeofahknknhaaDoorChecked
import GoSem.PinnedTables
import GoSem.Claim
import GoSem.ClaimJoined
import GoSem.ClaimMapViews
import Derived.JoinedTies
import Derived.KernelRfl
namespace Go.Proofs.YtoaeofahknknhaaDoor
/- THE CELL 'sum', in the pinned program and in every row, IS THE sha256 OF THE DUMP (.gsa) THAT YtoaeofahknknhaaDoorProg.lean LOADS. Nothing in Lean hashes anything: it is a label: what it is worth is what the hold of that sum in a sandbox is worth. -/
noncomputable def Tryd.pinned : Pinned := { name := "ytoaeofahknknhaadoor", sum := "5263630be37d6f6dcac8fe9800cbfb224889d58fc04abb280ee09b9a7cd75329", checked := Tryd.checked }
namespace Rows
def none {H : Type} : Left H := { results := [], args := [] }

/- WHAT THE LISTED PACKAGE-LEVEL VARIABLES READ AS WHEN THE CALL BEGINS. Each datum BY PROGRAM (the guide's laid-datum.mjs) off the statement by which the dump's own 'gosem.cut.vars' lays the variable. In a bare row this is a premise. The card (YtoaeofahknknhaaDoorCards.lean) ties it to the program's text. -/
def laid_math_bits_deBruijn32tab {H : Type} : DataW H := .agg [.lit (.int .u8 0), .lit (.int .u8 1), .lit (.int .u8 28), .lit (.int .u8 2), .lit (.int .u8 29), .lit (.int .u8 14), .lit (.int .u8 24), .lit (.int .u8 3), .lit (.int .u8 30), .lit (.int .u8 22), .lit (.int .u8 20), .lit (.int .u8 15), .lit (.int .u8 25), .lit (.int .u8 17), .lit (.int .u8 4), .lit (.int .u8 8), .lit (.int .u8 31), .lit (.int .u8 27), .lit (.int .u8 13), .lit (.int .u8 23), .lit (.int .u8 21), .lit (.int .u8 19), .lit (.int .u8 16), .lit (.int .u8 7), .lit (.int .u8 26), .lit (.int .u8 12), .lit (.int .u8 18), .lit (.int .u8 6), .lit (.int .u8 11), .lit (.int .u8 5), .lit (.int .u8 10), .lit (.int .u8 9)]
def laid_math_bits_deBruijn64tab {H : Type} : DataW H := .agg [.lit (.int .u8 0), .lit (.int .u8 1), .lit (.int .u8 56), .lit (.int .u8 2), .lit (.int .u8 57), .lit (.int .u8 49), .lit (.int .u8 28), .lit (.int .u8 3), .lit (.int .u8 61), .lit (.int .u8 58), .lit (.int .u8 42), .lit (.int .u8 50), .lit (.int .u8 38), .lit (.int .u8 29), .lit (.int .u8 17), .lit (.int .u8 4), .lit (.int .u8 62), .lit (.int .u8 47), .lit (.int .u8 59), .lit (.int .u8 36), .lit (.int .u8 45), .lit (.int .u8 43), .lit (.int .u8 51), .lit (.int .u8 22), .lit (.int .u8 53), .lit (.int .u8 39), .lit (.int .u8 33), .lit (.int .u8 30), .lit (.int .u8 24), .lit (.int .u8 18), .lit (.int .u8 12), .lit (.int .u8 5), .lit (.int .u8 63), .lit (.int .u8 55), .lit (.int .u8 48), .lit (.int .u8 27), .lit (.int .u8 60), .lit (.int .u8 41), .lit (.int .u8 37), .lit (.int .u8 16), .lit (.int .u8 46), .lit (.int .u8 35), .lit (.int .u8 44), .lit (.int .u8 21), .lit (.int .u8 52), .lit (.int .u8 32), .lit (.int .u8 23), .lit (.int .u8 11), .lit (.int .u8 54), .lit (.int .u8 26), .lit (.int .u8 40), .lit (.int .u8 15), .lit (.int .u8 34), .lit (.int .u8 20), .lit (.int .u8 31), .lit (.int .u8 10), .lit (.int .u8 25), .lit (.int .u8 14), .lit (.int .u8 19), .lit (.int .u8 9), .lit (.int .u8 13), .lit (.int .u8 8), .lit (.int .u8 7), .lit (.int .u8 6)]
def laid_internal_strconv_uint64pow10 {H : Type} : DataW H := .agg [.lit (.int .u64 1), .lit (.int .u64 10), .lit (.int .u64 100), .lit (.int .u64 1000), .lit (.int .u64 10000), .lit (.int .u64 100000), .lit (.int .u64 1000000), .lit (.int .u64 10000000), .lit (.int .u64 100000000), .lit (.int .u64 1000000000), .lit (.int .u64 10000000000), .lit (.int .u64 100000000000), .lit (.int .u64 1000000000000), .lit (.int .u64 10000000000000), .lit (.int .u64 100000000000000), .lit (.int .u64 1000000000000000), .lit (.int .u64 10000000000000000), .lit (.int .u64 100000000000000000), .lit (.int .u64 1000000000000000000), .lit (.int .u64 10000000000000000000)]
def laid_unicode_utf8_acceptRanges {H : Type} : DataW H := .agg [.agg [.lit (.int .u8 128), .lit (.int .u8 191)], .agg [.lit (.int .u8 160), .lit (.int .u8 191)], .agg [.lit (.int .u8 128), .lit (.int .u8 159)], .agg [.lit (.int .u8 144), .lit (.int .u8 191)], .agg [.lit (.int .u8 128), .lit (.int .u8 143)], .agg [.lit (.int .u8 0), .lit (.int .u8 0)], .agg [.lit (.int .u8 0), .lit (.int .u8 0)], .agg [.lit (.int .u8 0), .lit (.int .u8 0)], .agg [.lit (.int .u8 0), .lit (.int .u8 0)], .agg [.lit (.int .u8 0), .lit (.int .u8 0)], .agg [.lit (.int .u8 0), .lit (.int .u8 0)], .agg [.lit (.int .u8 0), .lit (.int .u8 0)], .agg [.lit (.int .u8 0), .lit (.int .u8 0)], .agg [.lit (.int .u8 0), .lit (.int .u8 0)], .agg [.lit (.int .u8 0), .lit (.int .u8 0)], .agg [.lit (.int .u8 0), .lit (.int .u8 0)]]
def laid_loop_example_g00563_impl_operations {H : Type} : DataW H := .agg [.agg [.lit (.string [110, 111, 112]), .lit (.int .i64 0), .lit (.int .i64 0), .lit (.int .i64 0)], .agg [.lit (.string [104, 97, 108, 116]), .lit (.int .i64 0), .lit (.int .i64 0), .lit (.int .i64 0)], .agg [.lit (.string [114, 101, 116, 105]), .lit (.int .i64 0), .lit (.int .i64 0), .lit (.int .i64 8)], .agg [.lit (.string [101, 105]), .lit (.int .i64 0), .lit (.int .i64 0), .lit (.int .i64 0)], .agg [.lit (.string [100, 105]), .lit (.int .i64 0), .lit (.int .i64 0), .lit (.int .i64 0)], .agg [.lit (.string [108, 100, 105]), .lit (.int .i64 3), .lit (.int .i64 255), .lit (.int .i64 0)], .agg [.lit (.string [108, 100]), .lit (.int .i64 3), .lit (.int .i64 4095), .lit (.int .i64 0)], .agg [.lit (.string [115, 116]), .lit (.int .i64 3), .lit (.int .i64 4095), .lit (.int .i64 0)], .agg [.lit (.string [105, 110, 99]), .lit (.int .i64 3), .lit (.int .i64 0), .lit (.int .i64 0)], .agg [.lit (.string [100, 101, 99]), .lit (.int .i64 3), .lit (.int .i64 0), .lit (.int .i64 0)], .agg [.lit (.string [97, 100, 100]), .lit (.int .i64 3), .lit (.int .i64 0), .lit (.int .i64 0)], .agg [.lit (.string [115, 117, 98]), .lit (.int .i64 3), .lit (.int .i64 0), .lit (.int .i64 0)], .agg [.lit (.string [97, 110, 100]), .lit (.int .i64 3), .lit (.int .i64 0), .lit (.int .i64 0)], .agg [.lit (.string [111, 114]), .lit (.int .i64 3), .lit (.int .i64 0), .lit (.int .i64 0)], .agg [.lit (.string [120, 111, 114]), .lit (.int .i64 3), .lit (.int .i64 0), .lit (.int .i64 0)], .agg [.lit (.string [106, 112]), .lit (.int .i64 0), .lit (.int .i64 4095), .lit (.int .i64 0)], .agg [.lit (.string [106, 122]), .lit (.int .i64 0), .lit (.int .i64 4095), .lit (.int .i64 0)], .agg [.lit (.string [106, 110, 122]), .lit (.int .i64 0), .lit (.int .i64 4095), .lit (.int .i64 0)], .agg [.lit (.string [99, 97, 108, 108]), .lit (.int .i64 0), .lit (.int .i64 4095), .lit (.int .i64 8)], .agg [.lit (.string [114, 101, 116]), .lit (.int .i64 0), .lit (.int .i64 0), .lit (.int .i64 8)], .agg [.lit (.string [115, 119, 105]), .lit (.int .i64 0), .lit (.int .i64 255), .lit (.int .i64 12)], .agg [.lit (.string [98, 97, 110, 107]), .lit (.int .i64 0), .lit (.int .i64 3), .lit (.int .i64 0)], .agg [.lit (.string []), .lit (.int .i64 0), .lit (.int .i64 0), .lit (.int .i64 12)]]
/-- One of Go's own tables, pinned by name: the form's constant. -/
def laid_unicode_utf8_first : DataW Unit := Go.Pinned.utf8First

/-- 'laws.FnCode': WHATEVER THE INPUT: true; the input reads as it did. -/
def fnCodeSpec : ChangeSpec := { name := "fnCode", vars := ["loop.example/g00563/impl.operations"], fn := fun _ => fun
  | [d1, d2, g1] => { results := [.lit (.bool true)], args := [d1, d2], vars := [g1] }
  | _ => none }
def fnCodeRow : OpenClaim := { program := "ytoaeofahknknhaadoor", sum := "5263630be37d6f6dcac8fe9800cbfb224889d58fc04abb280ee09b9a7cd75329", func := "loop.example/g00563/laws.FnCode", spec := "fnCode", inPlace := ["internal/bytealg.IndexByteString", "internal/bytealg.IndexString"], named := ["loop.example/g00563/impl.operations", "internal/strconv.uint64pow10", "math/bits.deBruijn32tab", "math/bits.deBruijn64tab", "unicode/utf8.first", "unicode/utf8.acceptRanges", "internal/bytealg.MaxLen"], apart := false, laid := [("math/bits.deBruijn32tab", laid_math_bits_deBruijn32tab), ("math/bits.deBruijn64tab", laid_math_bits_deBruijn64tab), ("internal/strconv.uint64pow10", laid_internal_strconv_uint64pow10), ("unicode/utf8.acceptRanges", laid_unicode_utf8_acceptRanges), ("loop.example/g00563/impl.operations", laid_loop_example_g00563_impl_operations), ("unicode/utf8.first", laid_unicode_utf8_first)] }
def FnCodeSaid : Prop := fnCodeRow.holds Tryd.pinned (OpenSpec.ofChange fnCodeSpec)

/-- ITS FALSE NEIGHBOUR: 'it returns false'. Refute it at one input. -/
def fnCodeWrong : ChangeSpec := { name := "fnCode", vars := ["loop.example/g00563/impl.operations"], fn := fun _ => fun
  | [d1, d2, g1] => { results := [.lit (.bool false)], args := [d1, d2], vars := [g1] }
  | _ => none }
def FnCodeWrongFalsely : Prop := fnCodeRow.holds Tryd.pinned (OpenSpec.ofChange fnCodeWrong)

/-- 'laws.FnAssemble': WHATEVER THE INPUT: true; the input reads as it did. -/
def fnAssembleSpec : ChangeSpec := { name := "fnAssemble", vars := ["loop.example/g00563/impl.operations"], fn := fun _ => fun
  | [d1, d2, g1] => { results := [.lit (.bool true)], args := [d1, d2], vars := [g1] }
  | _ => none }
def fnAssembleRow : OpenClaim := { program := "ytoaeofahknknhaadoor", sum := "5263630be37d6f6dcac8fe9800cbfb224889d58fc04abb280ee09b9a7cd75329", func := "loop.example/g00563/laws.FnAssemble", spec := "fnAssemble", inPlace := ["internal/bytealg.IndexByteString", "internal/bytealg.IndexString"], unfollowed := true, recurses := true, named := ["loop.example/g00563/impl.operations", "internal/strconv.uint64pow10", "math/bits.deBruijn32tab", "math/bits.deBruijn64tab", "unicode/utf8.first", "unicode/utf8.acceptRanges", "internal/bytealg.MaxLen"], apart := false, laid := [("math/bits.deBruijn32tab", laid_math_bits_deBruijn32tab), ("math/bits.deBruijn64tab", laid_math_bits_deBruijn64tab), ("internal/strconv.uint64pow10", laid_internal_strconv_uint64pow10), ("unicode/utf8.acceptRanges", laid_unicode_utf8_acceptRanges), ("loop.example/g00563/impl.operations", laid_loop_example_g00563_impl_operations), ("unicode/utf8.first", laid_unicode_utf8_first)] }
def FnAssembleSaid : Prop := fnAssembleRow.holds Tryd.pinned (OpenSpec.ofChange fnAssembleSpec)

/-- ITS FALSE NEIGHBOUR: 'it returns false'. Refute it at one input. -/
def fnAssembleWrong : ChangeSpec := { name := "fnAssemble", vars := ["loop.example/g00563/impl.operations"], fn := fun _ => fun
  | [d1, d2, g1] => { results := [.lit (.bool false)], args := [d1, d2], vars := [g1] }
  | _ => none }
def FnAssembleWrongFalsely : Prop := fnAssembleRow.holds Tryd.pinned (OpenSpec.ofChange fnAssembleWrong)

/-- 'laws.FnExactInstrOK': WHATEVER THE INPUT: true; the input reads as it did. -/
def fnExactInstrOKSpec : ChangeSpec := { name := "fnExactInstrOK", vars := ["loop.example/g00563/impl.operations"], fn := fun _ => fun
  | [d, g1] => { results := [.lit (.bool true)], args := [d], vars := [g1] }
  | _ => none }
def fnExactInstrOKRow : OpenClaim := { program := "ytoaeofahknknhaadoor", sum := "5263630be37d6f6dcac8fe9800cbfb224889d58fc04abb280ee09b9a7cd75329", func := "loop.example/g00563/laws.FnExactInstrOK", spec := "fnExactInstrOK", named := ["loop.example/g00563/impl.operations"], apart := false, laid := [("loop.example/g00563/impl.operations", laid_loop_example_g00563_impl_operations)] }
def FnExactInstrOKSaid : Prop := fnExactInstrOKRow.holds Tryd.pinned (OpenSpec.ofChange fnExactInstrOKSpec)

/-- ITS FALSE NEIGHBOUR: 'it returns false'. Refute it at one input. -/
def fnExactInstrOKWrong : ChangeSpec := { name := "fnExactInstrOK", vars := ["loop.example/g00563/impl.operations"], fn := fun _ => fun
  | [d, g1] => { results := [.lit (.bool false)], args := [d], vars := [g1] }
  | _ => none }
def FnExactInstrOKWrongFalsely : Prop := fnExactInstrOKRow.holds Tryd.pinned (OpenSpec.ofChange fnExactInstrOKWrong)

/-- 'laws.FnExactLengthOf': WHATEVER THE INPUT: true; the input reads as it did. -/
def fnExactLengthOfSpec : ChangeSpec := { name := "fnExactLengthOf", vars := ["loop.example/g00563/impl.operations"], fn := fun _ => fun
  | [d, g1] => { results := [.lit (.bool true)], args := [d], vars := [g1] }
  | _ => none }
def fnExactLengthOfRow : OpenClaim := { program := "ytoaeofahknknhaadoor", sum := "5263630be37d6f6dcac8fe9800cbfb224889d58fc04abb280ee09b9a7cd75329", func := "loop.example/g00563/laws.FnExactLengthOf", spec := "fnExactLengthOf", named := ["loop.example/g00563/impl.operations"], apart := false, laid := [("loop.example/g00563/impl.operations", laid_loop_example_g00563_impl_operations)] }
def FnExactLengthOfSaid : Prop := fnExactLengthOfRow.holds Tryd.pinned (OpenSpec.ofChange fnExactLengthOfSpec)

/-- ITS FALSE NEIGHBOUR: 'it returns false'. Refute it at one input. -/
def fnExactLengthOfWrong : ChangeSpec := { name := "fnExactLengthOf", vars := ["loop.example/g00563/impl.operations"], fn := fun _ => fun
  | [d, g1] => { results := [.lit (.bool false)], args := [d], vars := [g1] }
  | _ => none }
def FnExactLengthOfWrongFalsely : Prop := fnExactLengthOfRow.holds Tryd.pinned (OpenSpec.ofChange fnExactLengthOfWrong)

/-- 'laws.FnExactCyclesOf': WHATEVER THE INPUT: true; the input reads as it did. -/
def fnExactCyclesOfSpec : ChangeSpec := { name := "fnExactCyclesOf", vars := ["loop.example/g00563/impl.operations"], fn := fun _ => fun
  | [d, g1] => { results := [.lit (.bool true)], args := [d], vars := [g1] }
  | _ => none }
def fnExactCyclesOfRow : OpenClaim := { program := "ytoaeofahknknhaadoor", sum := "5263630be37d6f6dcac8fe9800cbfb224889d58fc04abb280ee09b9a7cd75329", func := "loop.example/g00563/laws.FnExactCyclesOf", spec := "fnExactCyclesOf", named := ["loop.example/g00563/impl.operations"], apart := false, laid := [("loop.example/g00563/impl.operations", laid_loop_example_g00563_impl_operations)] }
def FnExactCyclesOfSaid : Prop := fnExactCyclesOfRow.holds Tryd.pinned (OpenSpec.ofChange fnExactCyclesOfSpec)

/-- ITS FALSE NEIGHBOUR: 'it returns false'. Refute it at one input. -/
def fnExactCyclesOfWrong : ChangeSpec := { name := "fnExactCyclesOf", vars := ["loop.example/g00563/impl.operations"], fn := fun _ => fun
  | [d, g1] => { results := [.lit (.bool false)], args := [d], vars := [g1] }
  | _ => none }
def FnExactCyclesOfWrongFalsely : Prop := fnExactCyclesOfRow.holds Tryd.pinned (OpenSpec.ofChange fnExactCyclesOfWrong)

/-- 'laws.FnExactEncode': WHATEVER THE INPUT: true; the input reads as it did. -/
def fnExactEncodeSpec : ChangeSpec := { name := "fnExactEncode", vars := ["loop.example/g00563/impl.operations"], fn := fun _ => fun
  | [d, g1] => { results := [.lit (.bool true)], args := [d], vars := [g1] }
  | _ => none }
def fnExactEncodeRow : OpenClaim := { program := "ytoaeofahknknhaadoor", sum := "5263630be37d6f6dcac8fe9800cbfb224889d58fc04abb280ee09b9a7cd75329", func := "loop.example/g00563/laws.FnExactEncode", spec := "fnExactEncode", named := ["loop.example/g00563/impl.operations"], apart := false, laid := [("loop.example/g00563/impl.operations", laid_loop_example_g00563_impl_operations)] }
def FnExactEncodeSaid : Prop := fnExactEncodeRow.holds Tryd.pinned (OpenSpec.ofChange fnExactEncodeSpec)

/-- ITS FALSE NEIGHBOUR: 'it returns false'. Refute it at one input. -/
def fnExactEncodeWrong : ChangeSpec := { name := "fnExactEncode", vars := ["loop.example/g00563/impl.operations"], fn := fun _ => fun
  | [d, g1] => { results := [.lit (.bool false)], args := [d], vars := [g1] }
  | _ => none }
def FnExactEncodeWrongFalsely : Prop := fnExactEncodeRow.holds Tryd.pinned (OpenSpec.ofChange fnExactEncodeWrong)

/-- 'laws.FnExactDecode': WHATEVER THE INPUT: true; the input reads as it did. -/
def fnExactDecodeSpec : ChangeSpec := { name := "fnExactDecode", vars := ["loop.example/g00563/impl.operations"], fn := fun _ => fun
  | [d1, d2, d3, g1] => { results := [.lit (.bool true)], args := [d1, d2, d3], vars := [g1] }
  | _ => none }
def fnExactDecodeRow : OpenClaim := { program := "ytoaeofahknknhaadoor", sum := "5263630be37d6f6dcac8fe9800cbfb224889d58fc04abb280ee09b9a7cd75329", func := "loop.example/g00563/laws.FnExactDecode", spec := "fnExactDecode", named := ["loop.example/g00563/impl.operations"], apart := false, laid := [("loop.example/g00563/impl.operations", laid_loop_example_g00563_impl_operations)] }
def FnExactDecodeSaid : Prop := fnExactDecodeRow.holds Tryd.pinned (OpenSpec.ofChange fnExactDecodeSpec)

/-- ITS FALSE NEIGHBOUR: 'it returns false'. Refute it at one input. -/
def fnExactDecodeWrong : ChangeSpec := { name := "fnExactDecode", vars := ["loop.example/g00563/impl.operations"], fn := fun _ => fun
  | [d1, d2, d3, g1] => { results := [.lit (.bool false)], args := [d1, d2, d3], vars := [g1] }
  | _ => none }
def FnExactDecodeWrongFalsely : Prop := fnExactDecodeRow.holds Tryd.pinned (OpenSpec.ofChange fnExactDecodeWrong)

/-- 'laws.FnExactInstrText': WHATEVER THE INPUT: true; the input reads as it did. -/
def fnExactInstrTextSpec : ChangeSpec := { name := "fnExactInstrText", vars := ["loop.example/g00563/impl.operations"], fn := fun _ => fun
  | [d, g1] => { results := [.lit (.bool true)], args := [d], vars := [g1] }
  | _ => none }
def fnExactInstrTextRow : OpenClaim := { program := "ytoaeofahknknhaadoor", sum := "5263630be37d6f6dcac8fe9800cbfb224889d58fc04abb280ee09b9a7cd75329", func := "loop.example/g00563/laws.FnExactInstrText", spec := "fnExactInstrText", recurses := true, named := ["loop.example/g00563/impl.operations", "internal/strconv.uint64pow10", "math/bits.deBruijn32tab", "math/bits.deBruijn64tab"], apart := false, laid := [("math/bits.deBruijn32tab", laid_math_bits_deBruijn32tab), ("math/bits.deBruijn64tab", laid_math_bits_deBruijn64tab), ("internal/strconv.uint64pow10", laid_internal_strconv_uint64pow10), ("loop.example/g00563/impl.operations", laid_loop_example_g00563_impl_operations)] }
def FnExactInstrTextSaid : Prop := fnExactInstrTextRow.holds Tryd.pinned (OpenSpec.ofChange fnExactInstrTextSpec)

/-- ITS FALSE NEIGHBOUR: 'it returns false'. Refute it at one input. -/
def fnExactInstrTextWrong : ChangeSpec := { name := "fnExactInstrText", vars := ["loop.example/g00563/impl.operations"], fn := fun _ => fun
  | [d, g1] => { results := [.lit (.bool false)], args := [d], vars := [g1] }
  | _ => none }
def FnExactInstrTextWrongFalsely : Prop := fnExactInstrTextRow.holds Tryd.pinned (OpenSpec.ofChange fnExactInstrTextWrong)

/-- 'laws.FnExactReadInstr': WHATEVER THE INPUT: true; the input reads as it did. -/
def fnExactReadInstrSpec : ChangeSpec := { name := "fnExactReadInstr", vars := ["loop.example/g00563/impl.operations"], fn := fun _ => fun
  | [d, g1] => { results := [.lit (.bool true)], args := [d], vars := [g1] }
  | _ => none }
def fnExactReadInstrRow : OpenClaim := { program := "ytoaeofahknknhaadoor", sum := "5263630be37d6f6dcac8fe9800cbfb224889d58fc04abb280ee09b9a7cd75329", func := "loop.example/g00563/laws.FnExactReadInstr", spec := "fnExactReadInstr", inPlace := ["internal/bytealg.IndexByteString", "internal/bytealg.IndexString"], recurses := true, named := ["loop.example/g00563/impl.operations", "unicode/utf8.first", "unicode/utf8.acceptRanges", "internal/bytealg.MaxLen"], apart := false, laid := [("unicode/utf8.acceptRanges", laid_unicode_utf8_acceptRanges), ("loop.example/g00563/impl.operations", laid_loop_example_g00563_impl_operations), ("unicode/utf8.first", laid_unicode_utf8_first)] }
def FnExactReadInstrSaid : Prop := fnExactReadInstrRow.holds Tryd.pinned (OpenSpec.ofChange fnExactReadInstrSpec)

/-- ITS FALSE NEIGHBOUR: 'it returns false'. Refute it at one input. -/
def fnExactReadInstrWrong : ChangeSpec := { name := "fnExactReadInstr", vars := ["loop.example/g00563/impl.operations"], fn := fun _ => fun
  | [d, g1] => { results := [.lit (.bool false)], args := [d], vars := [g1] }
  | _ => none }
def FnExactReadInstrWrongFalsely : Prop := fnExactReadInstrRow.holds Tryd.pinned (OpenSpec.ofChange fnExactReadInstrWrong)

/-- 'laws.FnExactAssemble': WHATEVER THE INPUT: true; the input reads as it did. -/
def fnExactAssembleSpec : ChangeSpec := { name := "fnExactAssemble", vars := ["loop.example/g00563/impl.operations"], fn := fun _ => fun
  | [d, g1] => { results := [.lit (.bool true)], args := [d], vars := [g1] }
  | _ => none }
def fnExactAssembleRow : OpenClaim := { program := "ytoaeofahknknhaadoor", sum := "5263630be37d6f6dcac8fe9800cbfb224889d58fc04abb280ee09b9a7cd75329", func := "loop.example/g00563/laws.FnExactAssemble", spec := "fnExactAssemble", inPlace := ["internal/bytealg.IndexByteString", "internal/bytealg.IndexString"], unfollowed := true, recurses := true, named := ["loop.example/g00563/impl.operations", "unicode/utf8.first", "unicode/utf8.acceptRanges", "internal/bytealg.MaxLen"], apart := false, laid := [("unicode/utf8.acceptRanges", laid_unicode_utf8_acceptRanges), ("loop.example/g00563/impl.operations", laid_loop_example_g00563_impl_operations), ("unicode/utf8.first", laid_unicode_utf8_first)] }
def FnExactAssembleSaid : Prop := fnExactAssembleRow.holds Tryd.pinned (OpenSpec.ofChange fnExactAssembleSpec)

/-- ITS FALSE NEIGHBOUR: 'it returns false'. Refute it at one input. -/
def fnExactAssembleWrong : ChangeSpec := { name := "fnExactAssemble", vars := ["loop.example/g00563/impl.operations"], fn := fun _ => fun
  | [d, g1] => { results := [.lit (.bool false)], args := [d], vars := [g1] }
  | _ => none }
def FnExactAssembleWrongFalsely : Prop := fnExactAssembleRow.holds Tryd.pinned (OpenSpec.ofChange fnExactAssembleWrong)

/- THE SECOND FORM. 'bulk': how many values and letters a reading holds, each counted each time it is reached (what is shared counts as often as it is met; a slice's spare places count too). A statement '..UptoSaid' is the law's where the arguments, and the package variables that the reading takes, are together of bulk at most 1048576: NARROWER than '..Said'. Prove '..Said' where nothing that the law and all that it calls make is longer than what came in: it says more and counts as full. Else prove '..UptoSaid'. A law counts once. -/
mutual
def uptoBulk {H : Type} : DataW H → Nat
  | .lit (.string bytes) => bytes.length + 1
  | .lit _ => 1
  | .nil => 1
  | .ptr d => uptoBulk d + 1
  | .slice elems spare => uptoBulkAll elems + uptoBulkAll spare + 1
  | .agg parts => uptoBulkAll parts + 1
  | .iface _ d => uptoBulk d + 1
  | .map entries => uptoBulkEntries entries + 1
  | .held _ => 1
def uptoBulkAll {H : Type} : List (DataW H) → Nat
  | [] => 0
  | d :: r => uptoBulk d + uptoBulkAll r
def uptoBulkEntries {H : Type} : List (Lit × DataW H) → Nat
  | [] => 0
  | x :: r => uptoBulkEntry x + uptoBulkEntries r
def uptoBulkEntry {H : Type} : Lit × DataW H → Nat
  | (.string bytes, d) => bytes.length + uptoBulk d + 1
  | (_, d) => uptoBulk d + 1
 end
def uptoSmall : (H : Type) → List (DataW H) → Bool := fun _ ds => decide (uptoBulkAll ds ≤ 1048576)
def OpenSpec.upto (s : _root_.Go.ChangeSpec) : _root_.Go.OpenSpec := { _root_.Go.OpenSpec.ofChange s with cond := some uptoSmall }

/-- 'laws.FnCode', WHERE WHAT IT READS IS OF BULK AT MOST 1048576: true; the input reads as it did. -/
def fnCodeUptoRow : OpenClaim := { program := "ytoaeofahknknhaadoor", sum := "5263630be37d6f6dcac8fe9800cbfb224889d58fc04abb280ee09b9a7cd75329", func := "loop.example/g00563/laws.FnCode", spec := "fnCode", inPlace := ["internal/bytealg.IndexByteString", "internal/bytealg.IndexString"], named := ["loop.example/g00563/impl.operations", "internal/strconv.uint64pow10", "math/bits.deBruijn32tab", "math/bits.deBruijn64tab", "unicode/utf8.first", "unicode/utf8.acceptRanges", "internal/bytealg.MaxLen"], apart := false, laid := [("math/bits.deBruijn32tab", laid_math_bits_deBruijn32tab), ("math/bits.deBruijn64tab", laid_math_bits_deBruijn64tab), ("internal/strconv.uint64pow10", laid_internal_strconv_uint64pow10), ("unicode/utf8.acceptRanges", laid_unicode_utf8_acceptRanges), ("loop.example/g00563/impl.operations", laid_loop_example_g00563_impl_operations), ("unicode/utf8.first", laid_unicode_utf8_first)], narrowed := true }
def FnCodeUptoSaid : Prop := fnCodeUptoRow.holds Tryd.pinned (OpenSpec.upto fnCodeSpec)

/-- 'laws.FnAssemble', WHERE WHAT IT READS IS OF BULK AT MOST 1048576: true; the input reads as it did. -/
def fnAssembleUptoRow : OpenClaim := { program := "ytoaeofahknknhaadoor", sum := "5263630be37d6f6dcac8fe9800cbfb224889d58fc04abb280ee09b9a7cd75329", func := "loop.example/g00563/laws.FnAssemble", spec := "fnAssemble", inPlace := ["internal/bytealg.IndexByteString", "internal/bytealg.IndexString"], unfollowed := true, recurses := true, named := ["loop.example/g00563/impl.operations", "internal/strconv.uint64pow10", "math/bits.deBruijn32tab", "math/bits.deBruijn64tab", "unicode/utf8.first", "unicode/utf8.acceptRanges", "internal/bytealg.MaxLen"], apart := false, laid := [("math/bits.deBruijn32tab", laid_math_bits_deBruijn32tab), ("math/bits.deBruijn64tab", laid_math_bits_deBruijn64tab), ("internal/strconv.uint64pow10", laid_internal_strconv_uint64pow10), ("unicode/utf8.acceptRanges", laid_unicode_utf8_acceptRanges), ("loop.example/g00563/impl.operations", laid_loop_example_g00563_impl_operations), ("unicode/utf8.first", laid_unicode_utf8_first)], narrowed := true }
def FnAssembleUptoSaid : Prop := fnAssembleUptoRow.holds Tryd.pinned (OpenSpec.upto fnAssembleSpec)

/-- 'laws.FnExactInstrOK', WHERE WHAT IT READS IS OF BULK AT MOST 1048576: true; the input reads as it did. -/
def fnExactInstrOKUptoRow : OpenClaim := { program := "ytoaeofahknknhaadoor", sum := "5263630be37d6f6dcac8fe9800cbfb224889d58fc04abb280ee09b9a7cd75329", func := "loop.example/g00563/laws.FnExactInstrOK", spec := "fnExactInstrOK", named := ["loop.example/g00563/impl.operations"], apart := false, laid := [("loop.example/g00563/impl.operations", laid_loop_example_g00563_impl_operations)], narrowed := true }
def FnExactInstrOKUptoSaid : Prop := fnExactInstrOKUptoRow.holds Tryd.pinned (OpenSpec.upto fnExactInstrOKSpec)

/-- 'laws.FnExactLengthOf', WHERE WHAT IT READS IS OF BULK AT MOST 1048576: true; the input reads as it did. -/
def fnExactLengthOfUptoRow : OpenClaim := { program := "ytoaeofahknknhaadoor", sum := "5263630be37d6f6dcac8fe9800cbfb224889d58fc04abb280ee09b9a7cd75329", func := "loop.example/g00563/laws.FnExactLengthOf", spec := "fnExactLengthOf", named := ["loop.example/g00563/impl.operations"], apart := false, laid := [("loop.example/g00563/impl.operations", laid_loop_example_g00563_impl_operations)], narrowed := true }
def FnExactLengthOfUptoSaid : Prop := fnExactLengthOfUptoRow.holds Tryd.pinned (OpenSpec.upto fnExactLengthOfSpec)

/-- 'laws.FnExactCyclesOf', WHERE WHAT IT READS IS OF BULK AT MOST 1048576: true; the input reads as it did. -/
def fnExactCyclesOfUptoRow : OpenClaim := { program := "ytoaeofahknknhaadoor", sum := "5263630be37d6f6dcac8fe9800cbfb224889d58fc04abb280ee09b9a7cd75329", func := "loop.example/g00563/laws.FnExactCyclesOf", spec := "fnExactCyclesOf", named := ["loop.example/g00563/impl.operations"], apart := false, laid := [("loop.example/g00563/impl.operations", laid_loop_example_g00563_impl_operations)], narrowed := true }
def FnExactCyclesOfUptoSaid : Prop := fnExactCyclesOfUptoRow.holds Tryd.pinned (OpenSpec.upto fnExactCyclesOfSpec)

/-- 'laws.FnExactEncode', WHERE WHAT IT READS IS OF BULK AT MOST 1048576: true; the input reads as it did. -/
def fnExactEncodeUptoRow : OpenClaim := { program := "ytoaeofahknknhaadoor", sum := "5263630be37d6f6dcac8fe9800cbfb224889d58fc04abb280ee09b9a7cd75329", func := "loop.example/g00563/laws.FnExactEncode", spec := "fnExactEncode", named := ["loop.example/g00563/impl.operations"], apart := false, laid := [("loop.example/g00563/impl.operations", laid_loop_example_g00563_impl_operations)], narrowed := true }
def FnExactEncodeUptoSaid : Prop := fnExactEncodeUptoRow.holds Tryd.pinned (OpenSpec.upto fnExactEncodeSpec)

/-- 'laws.FnExactDecode', WHERE WHAT IT READS IS OF BULK AT MOST 1048576: true; the input reads as it did. -/
def fnExactDecodeUptoRow : OpenClaim := { program := "ytoaeofahknknhaadoor", sum := "5263630be37d6f6dcac8fe9800cbfb224889d58fc04abb280ee09b9a7cd75329", func := "loop.example/g00563/laws.FnExactDecode", spec := "fnExactDecode", named := ["loop.example/g00563/impl.operations"], apart := false, laid := [("loop.example/g00563/impl.operations", laid_loop_example_g00563_impl_operations)], narrowed := true }
def FnExactDecodeUptoSaid : Prop := fnExactDecodeUptoRow.holds Tryd.pinned (OpenSpec.upto fnExactDecodeSpec)

/-- 'laws.FnExactInstrText', WHERE WHAT IT READS IS OF BULK AT MOST 1048576: true; the input reads as it did. -/
def fnExactInstrTextUptoRow : OpenClaim := { program := "ytoaeofahknknhaadoor", sum := "5263630be37d6f6dcac8fe9800cbfb224889d58fc04abb280ee09b9a7cd75329", func := "loop.example/g00563/laws.FnExactInstrText", spec := "fnExactInstrText", recurses := true, named := ["loop.example/g00563/impl.operations", "internal/strconv.uint64pow10", "math/bits.deBruijn32tab", "math/bits.deBruijn64tab"], apart := false, laid := [("math/bits.deBruijn32tab", laid_math_bits_deBruijn32tab), ("math/bits.deBruijn64tab", laid_math_bits_deBruijn64tab), ("internal/strconv.uint64pow10", laid_internal_strconv_uint64pow10), ("loop.example/g00563/impl.operations", laid_loop_example_g00563_impl_operations)], narrowed := true }
def FnExactInstrTextUptoSaid : Prop := fnExactInstrTextUptoRow.holds Tryd.pinned (OpenSpec.upto fnExactInstrTextSpec)

/-- 'laws.FnExactReadInstr', WHERE WHAT IT READS IS OF BULK AT MOST 1048576: true; the input reads as it did. -/
def fnExactReadInstrUptoRow : OpenClaim := { program := "ytoaeofahknknhaadoor", sum := "5263630be37d6f6dcac8fe9800cbfb224889d58fc04abb280ee09b9a7cd75329", func := "loop.example/g00563/laws.FnExactReadInstr", spec := "fnExactReadInstr", inPlace := ["internal/bytealg.IndexByteString", "internal/bytealg.IndexString"], recurses := true, named := ["loop.example/g00563/impl.operations", "unicode/utf8.first", "unicode/utf8.acceptRanges", "internal/bytealg.MaxLen"], apart := false, laid := [("unicode/utf8.acceptRanges", laid_unicode_utf8_acceptRanges), ("loop.example/g00563/impl.operations", laid_loop_example_g00563_impl_operations), ("unicode/utf8.first", laid_unicode_utf8_first)], narrowed := true }
def FnExactReadInstrUptoSaid : Prop := fnExactReadInstrUptoRow.holds Tryd.pinned (OpenSpec.upto fnExactReadInstrSpec)

/-- 'laws.FnExactAssemble', WHERE WHAT IT READS IS OF BULK AT MOST 1048576: true; the input reads as it did. -/
def fnExactAssembleUptoRow : OpenClaim := { program := "ytoaeofahknknhaadoor", sum := "5263630be37d6f6dcac8fe9800cbfb224889d58fc04abb280ee09b9a7cd75329", func := "loop.example/g00563/laws.FnExactAssemble", spec := "fnExactAssemble", inPlace := ["internal/bytealg.IndexByteString", "internal/bytealg.IndexString"], unfollowed := true, recurses := true, named := ["loop.example/g00563/impl.operations", "unicode/utf8.first", "unicode/utf8.acceptRanges", "internal/bytealg.MaxLen"], apart := false, laid := [("unicode/utf8.acceptRanges", laid_unicode_utf8_acceptRanges), ("loop.example/g00563/impl.operations", laid_loop_example_g00563_impl_operations), ("unicode/utf8.first", laid_unicode_utf8_first)], narrowed := true }
def FnExactAssembleUptoSaid : Prop := fnExactAssembleUptoRow.holds Tryd.pinned (OpenSpec.upto fnExactAssembleSpec)

end Rows
end Go.Proofs.YtoaeofahknknhaaDoor
