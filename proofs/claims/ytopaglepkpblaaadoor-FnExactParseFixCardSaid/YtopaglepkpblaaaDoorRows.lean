/-
  NARROWER THAN 'FOR EVERY INPUT', by the rows' own cells (each row's printed sentence says how): FnFixRoundTrip: laid · FnFixCanonical: laid · FnFixFrame: laid · FnExactFormatFix: laid · FnExactParseFix: laid.
  DERIVED. THE GIVEN ROWS OF THIS SEAT. 5 by the template 'for every input the law returns true; each argument reads behind the call as it read before'; 0 by the template 'total and deterministic' (their statements: YtopaglepkpblaaaDoorTotals.lean).
  GIVEN WITH THE SEED: the statements are not yours to turn. If you find one false, say at which input.
  Laid BY PROGRAM, IN A SANDBOX (cutbox-rows.mjs): the forced cells as the released guide's own fill.sh prints them over the translation 9669d8def9445952… (all of the seat's roots in one cut). By AI agents, Wed Nov 11 2026. No macro, syntax, notation, axiom, sorry.
-/
import Derived.Test.YtopaglepkpblaaaDoorChecked
import GoSem.Claim
import GoSem.ClaimJoined
import GoSem.ClaimMapViews
import Derived.JoinedTies
import Derived.KernelRfl
namespace Go.Proofs.YtopaglepkpblaaaDoor
/- THE CELL 'sum', in the pinned program and in every row, IS THE sha256 OF THE DUMP (.gsa) THAT YtopaglepkpblaaaDoorProg.lean LOADS. Nothing in Lean hashes anything: it is a label: what it is worth is what the hold of that sum in a sandbox is worth. -/
noncomputable def Tryd.pinned : Pinned := { name := "ytopaglepkpblaaadoor", sum := "9669d8def9445952c092fb7c30314b7713894e5c6059e1d6895fe983e27ff230", checked := Tryd.checked }
namespace Rows
def none {H : Type} : Left H := { results := [], args := [] }

/- WHAT THE LISTED PACKAGE-LEVEL VARIABLES READ AS WHEN THE CALL BEGINS. Each datum BY PROGRAM (the guide's laid-datum.mjs) off the statement by which the dump's own 'gosem.cut.vars' lays the variable. In a bare row this is a premise. The card (YtopaglepkpblaaaDoorCards.lean) ties it to the program's text. -/
def laid_math_bits_deBruijn32tab {H : Type} : DataW H := .agg [.lit (.int .u8 0), .lit (.int .u8 1), .lit (.int .u8 28), .lit (.int .u8 2), .lit (.int .u8 29), .lit (.int .u8 14), .lit (.int .u8 24), .lit (.int .u8 3), .lit (.int .u8 30), .lit (.int .u8 22), .lit (.int .u8 20), .lit (.int .u8 15), .lit (.int .u8 25), .lit (.int .u8 17), .lit (.int .u8 4), .lit (.int .u8 8), .lit (.int .u8 31), .lit (.int .u8 27), .lit (.int .u8 13), .lit (.int .u8 23), .lit (.int .u8 21), .lit (.int .u8 19), .lit (.int .u8 16), .lit (.int .u8 7), .lit (.int .u8 26), .lit (.int .u8 12), .lit (.int .u8 18), .lit (.int .u8 6), .lit (.int .u8 11), .lit (.int .u8 5), .lit (.int .u8 10), .lit (.int .u8 9)]
def laid_math_bits_deBruijn64tab {H : Type} : DataW H := .agg [.lit (.int .u8 0), .lit (.int .u8 1), .lit (.int .u8 56), .lit (.int .u8 2), .lit (.int .u8 57), .lit (.int .u8 49), .lit (.int .u8 28), .lit (.int .u8 3), .lit (.int .u8 61), .lit (.int .u8 58), .lit (.int .u8 42), .lit (.int .u8 50), .lit (.int .u8 38), .lit (.int .u8 29), .lit (.int .u8 17), .lit (.int .u8 4), .lit (.int .u8 62), .lit (.int .u8 47), .lit (.int .u8 59), .lit (.int .u8 36), .lit (.int .u8 45), .lit (.int .u8 43), .lit (.int .u8 51), .lit (.int .u8 22), .lit (.int .u8 53), .lit (.int .u8 39), .lit (.int .u8 33), .lit (.int .u8 30), .lit (.int .u8 24), .lit (.int .u8 18), .lit (.int .u8 12), .lit (.int .u8 5), .lit (.int .u8 63), .lit (.int .u8 55), .lit (.int .u8 48), .lit (.int .u8 27), .lit (.int .u8 60), .lit (.int .u8 41), .lit (.int .u8 37), .lit (.int .u8 16), .lit (.int .u8 46), .lit (.int .u8 35), .lit (.int .u8 44), .lit (.int .u8 21), .lit (.int .u8 52), .lit (.int .u8 32), .lit (.int .u8 23), .lit (.int .u8 11), .lit (.int .u8 54), .lit (.int .u8 26), .lit (.int .u8 40), .lit (.int .u8 15), .lit (.int .u8 34), .lit (.int .u8 20), .lit (.int .u8 31), .lit (.int .u8 10), .lit (.int .u8 25), .lit (.int .u8 14), .lit (.int .u8 19), .lit (.int .u8 9), .lit (.int .u8 13), .lit (.int .u8 8), .lit (.int .u8 7), .lit (.int .u8 6)]
def laid_internal_strconv_uint64pow10 {H : Type} : DataW H := .agg [.lit (.int .u64 1), .lit (.int .u64 10), .lit (.int .u64 100), .lit (.int .u64 1000), .lit (.int .u64 10000), .lit (.int .u64 100000), .lit (.int .u64 1000000), .lit (.int .u64 10000000), .lit (.int .u64 100000000), .lit (.int .u64 1000000000), .lit (.int .u64 10000000000), .lit (.int .u64 100000000000), .lit (.int .u64 1000000000000), .lit (.int .u64 10000000000000), .lit (.int .u64 100000000000000), .lit (.int .u64 1000000000000000), .lit (.int .u64 10000000000000000), .lit (.int .u64 100000000000000000), .lit (.int .u64 1000000000000000000), .lit (.int .u64 10000000000000000000)]

/-- 'laws.FnFixRoundTrip': WHATEVER THE INPUT: true; the input reads as it did. -/
def fnFixRoundTripSpec : ChangeSpec := { name := "fnFixRoundTrip", fn := fun _ => fun
  | [d] => { results := [.lit (.bool true)], args := [d] }
  | _ => none }
def fnFixRoundTripRow : OpenClaim := { program := "ytopaglepkpblaaadoor", sum := "9669d8def9445952c092fb7c30314b7713894e5c6059e1d6895fe983e27ff230", func := "loop.example/satelliteclock/laws.FnFixRoundTrip", spec := "fnFixRoundTrip", inPlace := ["internal/abi.NoEscape"], recurses := true, named := ["internal/strconv.uint64pow10", "math/bits.deBruijn32tab", "math/bits.deBruijn64tab"], apart := false, laid := [("math/bits.deBruijn32tab", laid_math_bits_deBruijn32tab), ("math/bits.deBruijn64tab", laid_math_bits_deBruijn64tab), ("internal/strconv.uint64pow10", laid_internal_strconv_uint64pow10)] }
def FnFixRoundTripSaid : Prop := fnFixRoundTripRow.holds Tryd.pinned (OpenSpec.ofChange fnFixRoundTripSpec)

/-- ITS FALSE NEIGHBOUR: 'it returns false'. Refute it at one input. -/
def fnFixRoundTripWrong : ChangeSpec := { name := "fnFixRoundTrip", fn := fun _ => fun
  | [d] => { results := [.lit (.bool false)], args := [d] }
  | _ => none }
def FnFixRoundTripWrongFalsely : Prop := fnFixRoundTripRow.holds Tryd.pinned (OpenSpec.ofChange fnFixRoundTripWrong)

/-- 'laws.FnFixCanonical': WHATEVER THE INPUT: true; the input reads as it did. -/
def fnFixCanonicalSpec : ChangeSpec := { name := "fnFixCanonical", fn := fun _ => fun
  | [d] => { results := [.lit (.bool true)], args := [d] }
  | _ => none }
def fnFixCanonicalRow : OpenClaim := { program := "ytopaglepkpblaaadoor", sum := "9669d8def9445952c092fb7c30314b7713894e5c6059e1d6895fe983e27ff230", func := "loop.example/satelliteclock/laws.FnFixCanonical", spec := "fnFixCanonical", inPlace := ["internal/abi.NoEscape"], recurses := true, named := ["internal/strconv.uint64pow10", "math/bits.deBruijn32tab", "math/bits.deBruijn64tab"], apart := false, laid := [("math/bits.deBruijn32tab", laid_math_bits_deBruijn32tab), ("math/bits.deBruijn64tab", laid_math_bits_deBruijn64tab), ("internal/strconv.uint64pow10", laid_internal_strconv_uint64pow10)] }
def FnFixCanonicalSaid : Prop := fnFixCanonicalRow.holds Tryd.pinned (OpenSpec.ofChange fnFixCanonicalSpec)

/-- ITS FALSE NEIGHBOUR: 'it returns false'. Refute it at one input. -/
def fnFixCanonicalWrong : ChangeSpec := { name := "fnFixCanonical", fn := fun _ => fun
  | [d] => { results := [.lit (.bool false)], args := [d] }
  | _ => none }
def FnFixCanonicalWrongFalsely : Prop := fnFixCanonicalRow.holds Tryd.pinned (OpenSpec.ofChange fnFixCanonicalWrong)

/-- 'laws.FnFixFrame': WHATEVER THE INPUT: true; the input reads as it did. -/
def fnFixFrameSpec : ChangeSpec := { name := "fnFixFrame", fn := fun _ => fun
  | [d] => { results := [.lit (.bool true)], args := [d] }
  | _ => none }
def fnFixFrameRow : OpenClaim := { program := "ytopaglepkpblaaadoor", sum := "9669d8def9445952c092fb7c30314b7713894e5c6059e1d6895fe983e27ff230", func := "loop.example/satelliteclock/laws.FnFixFrame", spec := "fnFixFrame", inPlace := ["internal/abi.NoEscape"], recurses := true, named := ["internal/strconv.uint64pow10", "math/bits.deBruijn32tab", "math/bits.deBruijn64tab"], apart := false, laid := [("math/bits.deBruijn32tab", laid_math_bits_deBruijn32tab), ("math/bits.deBruijn64tab", laid_math_bits_deBruijn64tab), ("internal/strconv.uint64pow10", laid_internal_strconv_uint64pow10)] }
def FnFixFrameSaid : Prop := fnFixFrameRow.holds Tryd.pinned (OpenSpec.ofChange fnFixFrameSpec)

/-- ITS FALSE NEIGHBOUR: 'it returns false'. Refute it at one input. -/
def fnFixFrameWrong : ChangeSpec := { name := "fnFixFrame", fn := fun _ => fun
  | [d] => { results := [.lit (.bool false)], args := [d] }
  | _ => none }
def FnFixFrameWrongFalsely : Prop := fnFixFrameRow.holds Tryd.pinned (OpenSpec.ofChange fnFixFrameWrong)

/-- 'laws.FnExactFormatFix': WHATEVER THE INPUT: true; the input reads as it did. -/
def fnExactFormatFixSpec : ChangeSpec := { name := "fnExactFormatFix", fn := fun _ => fun
  | [d] => { results := [.lit (.bool true)], args := [d] }
  | _ => none }
def fnExactFormatFixRow : OpenClaim := { program := "ytopaglepkpblaaadoor", sum := "9669d8def9445952c092fb7c30314b7713894e5c6059e1d6895fe983e27ff230", func := "loop.example/satelliteclock/laws.FnExactFormatFix", spec := "fnExactFormatFix", inPlace := ["internal/abi.NoEscape"], recurses := true, named := ["internal/strconv.uint64pow10", "math/bits.deBruijn32tab", "math/bits.deBruijn64tab"], apart := false, laid := [("math/bits.deBruijn32tab", laid_math_bits_deBruijn32tab), ("math/bits.deBruijn64tab", laid_math_bits_deBruijn64tab), ("internal/strconv.uint64pow10", laid_internal_strconv_uint64pow10)] }
def FnExactFormatFixSaid : Prop := fnExactFormatFixRow.holds Tryd.pinned (OpenSpec.ofChange fnExactFormatFixSpec)

/-- ITS FALSE NEIGHBOUR: 'it returns false'. Refute it at one input. -/
def fnExactFormatFixWrong : ChangeSpec := { name := "fnExactFormatFix", fn := fun _ => fun
  | [d] => { results := [.lit (.bool false)], args := [d] }
  | _ => none }
def FnExactFormatFixWrongFalsely : Prop := fnExactFormatFixRow.holds Tryd.pinned (OpenSpec.ofChange fnExactFormatFixWrong)

/-- 'laws.FnExactParseFix': WHATEVER THE INPUT: true; the input reads as it did. -/
def fnExactParseFixSpec : ChangeSpec := { name := "fnExactParseFix", fn := fun _ => fun
  | [d] => { results := [.lit (.bool true)], args := [d] }
  | _ => none }
def fnExactParseFixRow : OpenClaim := { program := "ytopaglepkpblaaadoor", sum := "9669d8def9445952c092fb7c30314b7713894e5c6059e1d6895fe983e27ff230", func := "loop.example/satelliteclock/laws.FnExactParseFix", spec := "fnExactParseFix", inPlace := ["internal/abi.NoEscape"], recurses := true, named := ["internal/strconv.uint64pow10", "math/bits.deBruijn32tab", "math/bits.deBruijn64tab"], apart := false, laid := [("math/bits.deBruijn32tab", laid_math_bits_deBruijn32tab), ("math/bits.deBruijn64tab", laid_math_bits_deBruijn64tab), ("internal/strconv.uint64pow10", laid_internal_strconv_uint64pow10)] }
def FnExactParseFixSaid : Prop := fnExactParseFixRow.holds Tryd.pinned (OpenSpec.ofChange fnExactParseFixSpec)

/-- ITS FALSE NEIGHBOUR: 'it returns false'. Refute it at one input. -/
def fnExactParseFixWrong : ChangeSpec := { name := "fnExactParseFix", fn := fun _ => fun
  | [d] => { results := [.lit (.bool false)], args := [d] }
  | _ => none }
def FnExactParseFixWrongFalsely : Prop := fnExactParseFixRow.holds Tryd.pinned (OpenSpec.ofChange fnExactParseFixWrong)

/- THE SECOND FORM. 'bulk': how many values and letters a reading holds, each counted each time it is reached (what is shared counts as often as it is met; a slice's spare places count too). A statement '..UptoSaid' is the law's where the arguments, and the package variables that the reading takes, are together of bulk at most 1048576: NARROWER than '..Said'. Prove '..Said' where nothing that the law and all that it calls make is longer than what came in: it says more and counts as full. Else prove '..UptoSaid'. A law counts once. -/
mutual
def uptoBulk {H : Type} : DataW H → Nat
  | .lit (.string bytes) => bytes.length + 1
  | .lit _ => 1
  | .nil => 1
  | .ptr d => uptoBulk d + 1
  | .slice elems spare => uptoBulkAll elems + uptoBulkAll spare + 1
  | .agg parts => uptoBulkAll parts + 1
  | .iface _ d => uptoBulk d + 1
  | .map entries => uptoBulkEntries entries + 1
  | .held _ => 1
def uptoBulkAll {H : Type} : List (DataW H) → Nat
  | [] => 0
  | d :: r => uptoBulk d + uptoBulkAll r
def uptoBulkEntries {H : Type} : List (Lit × DataW H) → Nat
  | [] => 0
  | x :: r => uptoBulkEntry x + uptoBulkEntries r
def uptoBulkEntry {H : Type} : Lit × DataW H → Nat
  | (.string bytes, d) => bytes.length + uptoBulk d + 1
  | (_, d) => uptoBulk d + 1
 end
def uptoSmall : (H : Type) → List (DataW H) → Bool := fun _ ds => decide (uptoBulkAll ds ≤ 1048576)
def OpenSpec.upto (s : _root_.Go.ChangeSpec) : _root_.Go.OpenSpec := { _root_.Go.OpenSpec.ofChange s with cond := some uptoSmall }

/-- 'laws.FnFixRoundTrip', WHERE WHAT IT READS IS OF BULK AT MOST 1048576: true; the input reads as it did. -/
def fnFixRoundTripUptoRow : OpenClaim := { program := "ytopaglepkpblaaadoor", sum := "9669d8def9445952c092fb7c30314b7713894e5c6059e1d6895fe983e27ff230", func := "loop.example/satelliteclock/laws.FnFixRoundTrip", spec := "fnFixRoundTrip", inPlace := ["internal/abi.NoEscape"], recurses := true, named := ["internal/strconv.uint64pow10", "math/bits.deBruijn32tab", "math/bits.deBruijn64tab"], apart := false, laid := [("math/bits.deBruijn32tab", laid_math_bits_deBruijn32tab), ("math/bits.deBruijn64tab", laid_math_bits_deBruijn64tab), ("internal/strconv.uint64pow10", laid_internal_strconv_uint64pow10)], narrowed := true }
def FnFixRoundTripUptoSaid : Prop := fnFixRoundTripUptoRow.holds Tryd.pinned (OpenSpec.upto fnFixRoundTripSpec)

/-- 'laws.FnFixCanonical', WHERE WHAT IT READS IS OF BULK AT MOST 1048576: true; the input reads as it did. -/
def fnFixCanonicalUptoRow : OpenClaim := { program := "ytopaglepkpblaaadoor", sum := "9669d8def9445952c092fb7c30314b7713894e5c6059e1d6895fe983e27ff230", func := "loop.example/satelliteclock/laws.FnFixCanonical", spec := "fnFixCanonical", inPlace := ["internal/abi.NoEscape"], recurses := true, named := ["internal/strconv.uint64pow10", "math/bits.deBruijn32tab", "math/bits.deBruijn64tab"], apart := false, laid := [("math/bits.deBruijn32tab", laid_math_bits_deBruijn32tab), ("math/bits.deBruijn64tab", laid_math_bits_deBruijn64tab), ("internal/strconv.uint64pow10", laid_internal_strconv_uint64pow10)], narrowed := true }
def FnFixCanonicalUptoSaid : Prop := fnFixCanonicalUptoRow.holds Tryd.pinned (OpenSpec.upto fnFixCanonicalSpec)

/-- 'laws.FnFixFrame', WHERE WHAT IT READS IS OF BULK AT MOST 1048576: true; the input reads as it did. -/
def fnFixFrameUptoRow : OpenClaim := { program := "ytopaglepkpblaaadoor", sum := "9669d8def9445952c092fb7c30314b7713894e5c6059e1d6895fe983e27ff230", func := "loop.example/satelliteclock/laws.FnFixFrame", spec := "fnFixFrame", inPlace := ["internal/abi.NoEscape"], recurses := true, named := ["internal/strconv.uint64pow10", "math/bits.deBruijn32tab", "math/bits.deBruijn64tab"], apart := false, laid := [("math/bits.deBruijn32tab", laid_math_bits_deBruijn32tab), ("math/bits.deBruijn64tab", laid_math_bits_deBruijn64tab), ("internal/strconv.uint64pow10", laid_internal_strconv_uint64pow10)], narrowed := true }
def FnFixFrameUptoSaid : Prop := fnFixFrameUptoRow.holds Tryd.pinned (OpenSpec.upto fnFixFrameSpec)

/-- 'laws.FnExactFormatFix', WHERE WHAT IT READS IS OF BULK AT MOST 1048576: true; the input reads as it did. -/
def fnExactFormatFixUptoRow : OpenClaim := { program := "ytopaglepkpblaaadoor", sum := "9669d8def9445952c092fb7c30314b7713894e5c6059e1d6895fe983e27ff230", func := "loop.example/satelliteclock/laws.FnExactFormatFix", spec := "fnExactFormatFix", inPlace := ["internal/abi.NoEscape"], recurses := true, named := ["internal/strconv.uint64pow10", "math/bits.deBruijn32tab", "math/bits.deBruijn64tab"], apart := false, laid := [("math/bits.deBruijn32tab", laid_math_bits_deBruijn32tab), ("math/bits.deBruijn64tab", laid_math_bits_deBruijn64tab), ("internal/strconv.uint64pow10", laid_internal_strconv_uint64pow10)], narrowed := true }
def FnExactFormatFixUptoSaid : Prop := fnExactFormatFixUptoRow.holds Tryd.pinned (OpenSpec.upto fnExactFormatFixSpec)

/-- 'laws.FnExactParseFix', WHERE WHAT IT READS IS OF BULK AT MOST 1048576: true; the input reads as it did. -/
def fnExactParseFixUptoRow : OpenClaim := { program := "ytopaglepkpblaaadoor", sum := "9669d8def9445952c092fb7c30314b7713894e5c6059e1d6895fe983e27ff230", func := "loop.example/satelliteclock/laws.FnExactParseFix", spec := "fnExactParseFix", inPlace := ["internal/abi.NoEscape"], recurses := true, named := ["internal/strconv.uint64pow10", "math/bits.deBruijn32tab", "math/bits.deBruijn64tab"], apart := false, laid := [("math/bits.deBruijn32tab", laid_math_bits_deBruijn32tab), ("math/bits.deBruijn64tab", laid_math_bits_deBruijn64tab), ("internal/strconv.uint64pow10", laid_internal_strconv_uint64pow10)], narrowed := true }
def FnExactParseFixUptoSaid : Prop := fnExactParseFixUptoRow.holds Tryd.pinned (OpenSpec.upto fnExactParseFixSpec)

end Rows
end Go.Proofs.YtopaglepkpblaaaDoor
