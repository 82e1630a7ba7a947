/-
  No cell of these rows narrows 'for every input' (looked for: loops, veiled, ifaces, maps, wideKeys, modest, calm, conditions, laid).
  DERIVED. THE GIVEN ROWS OF THIS SEAT. 8 by the template 'for every input the law returns true; each argument reads behind the call as it read before'; 0 by the template 'total and deterministic' (their statements: YtoomkafhmennoacTotals.lean).
  GIVEN WITH THE SEED: the statements are not yours to turn. If you find one false, say at which input.
  Laid BY PROGRAM, IN A SANDBOX (cutbox-rows.mjs): the forced cells as the released guide's own fill.sh prints them over the translation 2f70c722e851bf35… (all of the seat's roots in one cut). By AI agents, Wed Nov 11 2026. No macro, syntax, notation, axiom, sorry.
-/
import Derived.Test.YtoomkafhmennoacChecked
import GoSem.Claim
import GoSem.ClaimJoined
import GoSem.ClaimMapViews
import Derived.JoinedTies
import Derived.KernelRfl
namespace Go.Proofs.Ytoomkafhmennoac
/- THE CELL 'sum', in the pinned program and in every row, IS THE sha256 OF THE DUMP (.gsa) THAT YtoomkafhmennoacProg.lean LOADS. Nothing in Lean hashes anything: it is a label: what it is worth is what the hold of that sum in a sandbox is worth. -/
noncomputable def Try.pinned : Pinned := { name := "ytoomkafhmennoac", sum := "2f70c722e851bf3587aeed7b2c10f56db46d476be7c7c832698f4f75a7a3a805", checked := Try.checked }
namespace Rows
def none {H : Type} : Left H := { results := [], args := [] }

/-- 'laws.FnExactReadFrame': WHATEVER THE INPUT: true; the input reads as it did. -/
def fnExactReadFrameSpec : ChangeSpec := { name := "fnExactReadFrame", fn := fun _ => fun
  | [d] => { results := [.lit (.bool true)], args := [d] }
  | _ => none }
def fnExactReadFrameRow : OpenClaim := { program := "ytoomkafhmennoac", sum := "2f70c722e851bf3587aeed7b2c10f56db46d476be7c7c832698f4f75a7a3a805", func := "loop.example/satelliteclock/laws.FnExactReadFrame", spec := "fnExactReadFrame", apart := false }
def FnExactReadFrameSaid : Prop := fnExactReadFrameRow.holds Try.pinned (OpenSpec.ofChange fnExactReadFrameSpec)

/-- ITS FALSE NEIGHBOUR: 'it returns false'. Refute it at one input. -/
def fnExactReadFrameWrong : ChangeSpec := { name := "fnExactReadFrame", fn := fun _ => fun
  | [d] => { results := [.lit (.bool false)], args := [d] }
  | _ => none }
def FnExactReadFrameWrongFalsely : Prop := fnExactReadFrameRow.holds Try.pinned (OpenSpec.ofChange fnExactReadFrameWrong)

/-- 'laws.FnExactSplitFrames': WHATEVER THE INPUT: true; the input reads as it did. -/
def fnExactSplitFramesSpec : ChangeSpec := { name := "fnExactSplitFrames", fn := fun _ => fun
  | [d] => { results := [.lit (.bool true)], args := [d] }
  | _ => none }
def fnExactSplitFramesRow : OpenClaim := { program := "ytoomkafhmennoac", sum := "2f70c722e851bf3587aeed7b2c10f56db46d476be7c7c832698f4f75a7a3a805", func := "loop.example/satelliteclock/laws.FnExactSplitFrames", spec := "fnExactSplitFrames", apart := false }
def FnExactSplitFramesSaid : Prop := fnExactSplitFramesRow.holds Try.pinned (OpenSpec.ofChange fnExactSplitFramesSpec)

/-- ITS FALSE NEIGHBOUR: 'it returns false'. Refute it at one input. -/
def fnExactSplitFramesWrong : ChangeSpec := { name := "fnExactSplitFrames", fn := fun _ => fun
  | [d] => { results := [.lit (.bool false)], args := [d] }
  | _ => none }
def FnExactSplitFramesWrongFalsely : Prop := fnExactSplitFramesRow.holds Try.pinned (OpenSpec.ofChange fnExactSplitFramesWrong)

/-- 'laws.FnExactValidLeaps': WHATEVER THE INPUT: true; the input reads as it did. -/
def fnExactValidLeapsSpec : ChangeSpec := { name := "fnExactValidLeaps", fn := fun _ => fun
  | [d] => { results := [.lit (.bool true)], args := [d] }
  | _ => none }
def fnExactValidLeapsRow : OpenClaim := { program := "ytoomkafhmennoac", sum := "2f70c722e851bf3587aeed7b2c10f56db46d476be7c7c832698f4f75a7a3a805", func := "loop.example/satelliteclock/laws.FnExactValidLeaps", spec := "fnExactValidLeaps", apart := false }
def FnExactValidLeapsSaid : Prop := fnExactValidLeapsRow.holds Try.pinned (OpenSpec.ofChange fnExactValidLeapsSpec)

/-- ITS FALSE NEIGHBOUR: 'it returns false'. Refute it at one input. -/
def fnExactValidLeapsWrong : ChangeSpec := { name := "fnExactValidLeaps", fn := fun _ => fun
  | [d] => { results := [.lit (.bool false)], args := [d] }
  | _ => none }
def FnExactValidLeapsWrongFalsely : Prop := fnExactValidLeapsRow.holds Try.pinned (OpenSpec.ofChange fnExactValidLeapsWrong)

/-- 'laws.FnExactLeapsBefore': WHATEVER THE INPUT: true; the input reads as it did. -/
def fnExactLeapsBeforeSpec : ChangeSpec := { name := "fnExactLeapsBefore", fn := fun _ => fun
  | [d1, d2] => { results := [.lit (.bool true)], args := [d1, d2] }
  | _ => none }
def fnExactLeapsBeforeRow : OpenClaim := { program := "ytoomkafhmennoac", sum := "2f70c722e851bf3587aeed7b2c10f56db46d476be7c7c832698f4f75a7a3a805", func := "loop.example/satelliteclock/laws.FnExactLeapsBefore", spec := "fnExactLeapsBefore", apart := false }
def FnExactLeapsBeforeSaid : Prop := fnExactLeapsBeforeRow.holds Try.pinned (OpenSpec.ofChange fnExactLeapsBeforeSpec)

/-- ITS FALSE NEIGHBOUR: 'it returns false'. Refute it at one input. -/
def fnExactLeapsBeforeWrong : ChangeSpec := { name := "fnExactLeapsBefore", fn := fun _ => fun
  | [d1, d2] => { results := [.lit (.bool false)], args := [d1, d2] }
  | _ => none }
def FnExactLeapsBeforeWrongFalsely : Prop := fnExactLeapsBeforeRow.holds Try.pinned (OpenSpec.ofChange fnExactLeapsBeforeWrong)

/-- 'laws.FnExactIsLeapSecond': WHATEVER THE INPUT: true; the input reads as it did. -/
def fnExactIsLeapSecondSpec : ChangeSpec := { name := "fnExactIsLeapSecond", fn := fun _ => fun
  | [d1, d2] => { results := [.lit (.bool true)], args := [d1, d2] }
  | _ => none }
def fnExactIsLeapSecondRow : OpenClaim := { program := "ytoomkafhmennoac", sum := "2f70c722e851bf3587aeed7b2c10f56db46d476be7c7c832698f4f75a7a3a805", func := "loop.example/satelliteclock/laws.FnExactIsLeapSecond", spec := "fnExactIsLeapSecond", apart := false }
def FnExactIsLeapSecondSaid : Prop := fnExactIsLeapSecondRow.holds Try.pinned (OpenSpec.ofChange fnExactIsLeapSecondSpec)

/-- ITS FALSE NEIGHBOUR: 'it returns false'. Refute it at one input. -/
def fnExactIsLeapSecondWrong : ChangeSpec := { name := "fnExactIsLeapSecond", fn := fun _ => fun
  | [d1, d2] => { results := [.lit (.bool false)], args := [d1, d2] }
  | _ => none }
def FnExactIsLeapSecondWrongFalsely : Prop := fnExactIsLeapSecondRow.holds Try.pinned (OpenSpec.ofChange fnExactIsLeapSecondWrong)

/-- 'laws.FnExactCivilOf': WHATEVER THE INPUT: true; the input reads as it did. -/
def fnExactCivilOfSpec : ChangeSpec := { name := "fnExactCivilOf", fn := fun _ => fun
  | [d1, d2] => { results := [.lit (.bool true)], args := [d1, d2] }
  | _ => none }
def fnExactCivilOfRow : OpenClaim := { program := "ytoomkafhmennoac", sum := "2f70c722e851bf3587aeed7b2c10f56db46d476be7c7c832698f4f75a7a3a805", func := "loop.example/satelliteclock/laws.FnExactCivilOf", spec := "fnExactCivilOf", apart := false }
def FnExactCivilOfSaid : Prop := fnExactCivilOfRow.holds Try.pinned (OpenSpec.ofChange fnExactCivilOfSpec)

/-- ITS FALSE NEIGHBOUR: 'it returns false'. Refute it at one input. -/
def fnExactCivilOfWrong : ChangeSpec := { name := "fnExactCivilOf", fn := fun _ => fun
  | [d1, d2] => { results := [.lit (.bool false)], args := [d1, d2] }
  | _ => none }
def FnExactCivilOfWrongFalsely : Prop := fnExactCivilOfRow.holds Try.pinned (OpenSpec.ofChange fnExactCivilOfWrong)

/-- 'laws.FnExactSatelliteOf': WHATEVER THE INPUT: true; the input reads as it did. -/
def fnExactSatelliteOfSpec : ChangeSpec := { name := "fnExactSatelliteOf", fn := fun _ => fun
  | [d1, d2] => { results := [.lit (.bool true)], args := [d1, d2] }
  | _ => none }
def fnExactSatelliteOfRow : OpenClaim := { program := "ytoomkafhmennoac", sum := "2f70c722e851bf3587aeed7b2c10f56db46d476be7c7c832698f4f75a7a3a805", func := "loop.example/satelliteclock/laws.FnExactSatelliteOf", spec := "fnExactSatelliteOf", unfollowed := true, recurses := true, apart := false }
def FnExactSatelliteOfSaid : Prop := fnExactSatelliteOfRow.holds Try.pinned (OpenSpec.ofChange fnExactSatelliteOfSpec)

/-- ITS FALSE NEIGHBOUR: 'it returns false'. Refute it at one input. -/
def fnExactSatelliteOfWrong : ChangeSpec := { name := "fnExactSatelliteOf", fn := fun _ => fun
  | [d1, d2] => { results := [.lit (.bool false)], args := [d1, d2] }
  | _ => none }
def FnExactSatelliteOfWrongFalsely : Prop := fnExactSatelliteOfRow.holds Try.pinned (OpenSpec.ofChange fnExactSatelliteOfWrong)

/-- 'laws.FnExactNextLeap': WHATEVER THE INPUT: true; the input reads as it did. -/
def fnExactNextLeapSpec : ChangeSpec := { name := "fnExactNextLeap", fn := fun _ => fun
  | [d1, d2] => { results := [.lit (.bool true)], args := [d1, d2] }
  | _ => none }
def fnExactNextLeapRow : OpenClaim := { program := "ytoomkafhmennoac", sum := "2f70c722e851bf3587aeed7b2c10f56db46d476be7c7c832698f4f75a7a3a805", func := "loop.example/satelliteclock/laws.FnExactNextLeap", spec := "fnExactNextLeap", apart := false }
def FnExactNextLeapSaid : Prop := fnExactNextLeapRow.holds Try.pinned (OpenSpec.ofChange fnExactNextLeapSpec)

/-- ITS FALSE NEIGHBOUR: 'it returns false'. Refute it at one input. -/
def fnExactNextLeapWrong : ChangeSpec := { name := "fnExactNextLeap", fn := fun _ => fun
  | [d1, d2] => { results := [.lit (.bool false)], args := [d1, d2] }
  | _ => none }
def FnExactNextLeapWrongFalsely : Prop := fnExactNextLeapRow.holds Try.pinned (OpenSpec.ofChange fnExactNextLeapWrong)

/- THE SECOND FORM. 'bulk': how many values and letters a reading holds, each counted each time it is reached (what is shared counts as often as it is met; a slice's spare places count too). A statement '..UptoSaid' is the law's where the arguments, and the package variables that the reading takes, are together of bulk at most 1048576: NARROWER than '..Said'. Prove '..Said' where nothing that the law and all that it calls make is longer than what came in: it says more and counts as full. Else prove '..UptoSaid'. A law counts once. -/
mutual
def uptoBulk {H : Type} : DataW H → Nat
  | .lit (.string bytes) => bytes.length + 1
  | .lit _ => 1
  | .nil => 1
  | .ptr d => uptoBulk d + 1
  | .slice elems spare => uptoBulkAll elems + uptoBulkAll spare + 1
  | .agg parts => uptoBulkAll parts + 1
  | .iface _ d => uptoBulk d + 1
  | .map entries => uptoBulkEntries entries + 1
  | .held _ => 1
def uptoBulkAll {H : Type} : List (DataW H) → Nat
  | [] => 0
  | d :: r => uptoBulk d + uptoBulkAll r
def uptoBulkEntries {H : Type} : List (Lit × DataW H) → Nat
  | [] => 0
  | x :: r => uptoBulkEntry x + uptoBulkEntries r
def uptoBulkEntry {H : Type} : Lit × DataW H → Nat
  | (.string bytes, d) => bytes.length + uptoBulk d + 1
  | (_, d) => uptoBulk d + 1
 end
def uptoSmall : (H : Type) → List (DataW H) → Bool := fun _ ds => decide (uptoBulkAll ds ≤ 1048576)
def OpenSpec.upto (s : _root_.Go.ChangeSpec) : _root_.Go.OpenSpec := { _root_.Go.OpenSpec.ofChange s with cond := some uptoSmall }

/-- 'laws.FnExactReadFrame', WHERE WHAT IT READS IS OF BULK AT MOST 1048576: true; the input reads as it did. -/
def fnExactReadFrameUptoRow : OpenClaim := { program := "ytoomkafhmennoac", sum := "2f70c722e851bf3587aeed7b2c10f56db46d476be7c7c832698f4f75a7a3a805", func := "loop.example/satelliteclock/laws.FnExactReadFrame", spec := "fnExactReadFrame", apart := false, narrowed := true }
def FnExactReadFrameUptoSaid : Prop := fnExactReadFrameUptoRow.holds Try.pinned (OpenSpec.upto fnExactReadFrameSpec)

/-- 'laws.FnExactSplitFrames', WHERE WHAT IT READS IS OF BULK AT MOST 1048576: true; the input reads as it did. -/
def fnExactSplitFramesUptoRow : OpenClaim := { program := "ytoomkafhmennoac", sum := "2f70c722e851bf3587aeed7b2c10f56db46d476be7c7c832698f4f75a7a3a805", func := "loop.example/satelliteclock/laws.FnExactSplitFrames", spec := "fnExactSplitFrames", apart := false, narrowed := true }
def FnExactSplitFramesUptoSaid : Prop := fnExactSplitFramesUptoRow.holds Try.pinned (OpenSpec.upto fnExactSplitFramesSpec)

/-- 'laws.FnExactValidLeaps', WHERE WHAT IT READS IS OF BULK AT MOST 1048576: true; the input reads as it did. -/
def fnExactValidLeapsUptoRow : OpenClaim := { program := "ytoomkafhmennoac", sum := "2f70c722e851bf3587aeed7b2c10f56db46d476be7c7c832698f4f75a7a3a805", func := "loop.example/satelliteclock/laws.FnExactValidLeaps", spec := "fnExactValidLeaps", apart := false, narrowed := true }
def FnExactValidLeapsUptoSaid : Prop := fnExactValidLeapsUptoRow.holds Try.pinned (OpenSpec.upto fnExactValidLeapsSpec)

/-- 'laws.FnExactLeapsBefore', WHERE WHAT IT READS IS OF BULK AT MOST 1048576: true; the input reads as it did. -/
def fnExactLeapsBeforeUptoRow : OpenClaim := { program := "ytoomkafhmennoac", sum := "2f70c722e851bf3587aeed7b2c10f56db46d476be7c7c832698f4f75a7a3a805", func := "loop.example/satelliteclock/laws.FnExactLeapsBefore", spec := "fnExactLeapsBefore", apart := false, narrowed := true }
def FnExactLeapsBeforeUptoSaid : Prop := fnExactLeapsBeforeUptoRow.holds Try.pinned (OpenSpec.upto fnExactLeapsBeforeSpec)

/-- 'laws.FnExactIsLeapSecond', WHERE WHAT IT READS IS OF BULK AT MOST 1048576: true; the input reads as it did. -/
def fnExactIsLeapSecondUptoRow : OpenClaim := { program := "ytoomkafhmennoac", sum := "2f70c722e851bf3587aeed7b2c10f56db46d476be7c7c832698f4f75a7a3a805", func := "loop.example/satelliteclock/laws.FnExactIsLeapSecond", spec := "fnExactIsLeapSecond", apart := false, narrowed := true }
def FnExactIsLeapSecondUptoSaid : Prop := fnExactIsLeapSecondUptoRow.holds Try.pinned (OpenSpec.upto fnExactIsLeapSecondSpec)

/-- 'laws.FnExactCivilOf', WHERE WHAT IT READS IS OF BULK AT MOST 1048576: true; the input reads as it did. -/
def fnExactCivilOfUptoRow : OpenClaim := { program := "ytoomkafhmennoac", sum := "2f70c722e851bf3587aeed7b2c10f56db46d476be7c7c832698f4f75a7a3a805", func := "loop.example/satelliteclock/laws.FnExactCivilOf", spec := "fnExactCivilOf", apart := false, narrowed := true }
def FnExactCivilOfUptoSaid : Prop := fnExactCivilOfUptoRow.holds Try.pinned (OpenSpec.upto fnExactCivilOfSpec)

/-- 'laws.FnExactSatelliteOf', WHERE WHAT IT READS IS OF BULK AT MOST 1048576: true; the input reads as it did. -/
def fnExactSatelliteOfUptoRow : OpenClaim := { program := "ytoomkafhmennoac", sum := "2f70c722e851bf3587aeed7b2c10f56db46d476be7c7c832698f4f75a7a3a805", func := "loop.example/satelliteclock/laws.FnExactSatelliteOf", spec := "fnExactSatelliteOf", unfollowed := true, recurses := true, apart := false, narrowed := true }
def FnExactSatelliteOfUptoSaid : Prop := fnExactSatelliteOfUptoRow.holds Try.pinned (OpenSpec.upto fnExactSatelliteOfSpec)

/-- 'laws.FnExactNextLeap', WHERE WHAT IT READS IS OF BULK AT MOST 1048576: true; the input reads as it did. -/
def fnExactNextLeapUptoRow : OpenClaim := { program := "ytoomkafhmennoac", sum := "2f70c722e851bf3587aeed7b2c10f56db46d476be7c7c832698f4f75a7a3a805", func := "loop.example/satelliteclock/laws.FnExactNextLeap", spec := "fnExactNextLeap", apart := false, narrowed := true }
def FnExactNextLeapUptoSaid : Prop := fnExactNextLeapUptoRow.holds Try.pinned (OpenSpec.upto fnExactNextLeapSpec)

end Rows
end Go.Proofs.Ytoomkafhmennoac
