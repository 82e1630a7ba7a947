/-
  No cell of these rows narrows 'for every input' (looked for: loops, veiled, ifaces, maps, wideKeys, modest, calm, conditions, laid).
  DERIVED. THE GIVEN ROWS OF THIS SEAT. 12 by the template 'for every input the law returns true; each argument reads behind the call as it read before'; 0 by the template 'total and deterministic' (their statements: YtoomkafhmennoaaTotals.lean).
  GIVEN WITH THE SEED: the statements are not yours to turn. If you find one false, say at which input.
  Laid BY PROGRAM, IN A SANDBOX (cutbox-rows.mjs): the forced cells as the released guide's own fill.sh prints them over the translation ed49df570711aaf1… (all of the seat's roots in one cut). By AI agents, Wed Nov 11 2026. No macro, syntax, notation, axiom, sorry.
-/
import Derived.Test.YtoomkafhmennoaaChecked
import GoSem.Claim
import GoSem.ClaimJoined
import GoSem.ClaimMapViews
import Derived.JoinedTies
import Derived.KernelRfl
namespace Go.Proofs.Ytoomkafhmennoaa
/- THE CELL 'sum', in the pinned program and in every row, IS THE sha256 OF THE DUMP (.gsa) THAT YtoomkafhmennoaaProg.lean LOADS. Nothing in Lean hashes anything: it is a label: what it is worth is what the hold of that sum in a sandbox is worth. -/
noncomputable def Try.pinned : Pinned := { name := "ytoomkafhmennoaa", sum := "ed49df570711aaf17a153d23e184bd1a6fbaf563ebd5b9ec19f72c5d7922740d", checked := Try.checked }
namespace Rows
def none {H : Type} : Left H := { results := [], args := [] }

/-- 'laws.FnChecksumOf': WHATEVER THE INPUT: true; the input reads as it did. -/
def fnChecksumOfSpec : ChangeSpec := { name := "fnChecksumOf", fn := fun _ => fun
  | [d] => { results := [.lit (.bool true)], args := [d] }
  | _ => none }
def fnChecksumOfRow : OpenClaim := { program := "ytoomkafhmennoaa", sum := "ed49df570711aaf17a153d23e184bd1a6fbaf563ebd5b9ec19f72c5d7922740d", func := "loop.example/satelliteclock/laws.FnChecksumOf", spec := "fnChecksumOf", recurses := true, apart := false }
def FnChecksumOfSaid : Prop := fnChecksumOfRow.holds Try.pinned (OpenSpec.ofChange fnChecksumOfSpec)

/-- ITS FALSE NEIGHBOUR: 'it returns false'. Refute it at one input. -/
def fnChecksumOfWrong : ChangeSpec := { name := "fnChecksumOf", fn := fun _ => fun
  | [d] => { results := [.lit (.bool false)], args := [d] }
  | _ => none }
def FnChecksumOfWrongFalsely : Prop := fnChecksumOfRow.holds Try.pinned (OpenSpec.ofChange fnChecksumOfWrong)

/-- 'laws.FnChecksumOfOrder': WHATEVER THE INPUT: true; the input reads as it did. -/
def fnChecksumOfOrderSpec : ChangeSpec := { name := "fnChecksumOfOrder", fn := fun _ => fun
  | [d] => { results := [.lit (.bool true)], args := [d] }
  | _ => none }
def fnChecksumOfOrderRow : OpenClaim := { program := "ytoomkafhmennoaa", sum := "ed49df570711aaf17a153d23e184bd1a6fbaf563ebd5b9ec19f72c5d7922740d", func := "loop.example/satelliteclock/laws.FnChecksumOfOrder", spec := "fnChecksumOfOrder", recurses := true, apart := false }
def FnChecksumOfOrderSaid : Prop := fnChecksumOfOrderRow.holds Try.pinned (OpenSpec.ofChange fnChecksumOfOrderSpec)

/-- ITS FALSE NEIGHBOUR: 'it returns false'. Refute it at one input. -/
def fnChecksumOfOrderWrong : ChangeSpec := { name := "fnChecksumOfOrder", fn := fun _ => fun
  | [d] => { results := [.lit (.bool false)], args := [d] }
  | _ => none }
def FnChecksumOfOrderWrongFalsely : Prop := fnChecksumOfOrderRow.holds Try.pinned (OpenSpec.ofChange fnChecksumOfOrderWrong)

/-- 'laws.FnFrameBody': WHATEVER THE INPUT: true; the input reads as it did. -/
def fnFrameBodySpec : ChangeSpec := { name := "fnFrameBody", fn := fun _ => fun
  | [d] => { results := [.lit (.bool true)], args := [d] }
  | _ => none }
def fnFrameBodyRow : OpenClaim := { program := "ytoomkafhmennoaa", sum := "ed49df570711aaf17a153d23e184bd1a6fbaf563ebd5b9ec19f72c5d7922740d", func := "loop.example/satelliteclock/laws.FnFrameBody", spec := "fnFrameBody", recurses := true, apart := false }
def FnFrameBodySaid : Prop := fnFrameBodyRow.holds Try.pinned (OpenSpec.ofChange fnFrameBodySpec)

/-- ITS FALSE NEIGHBOUR: 'it returns false'. Refute it at one input. -/
def fnFrameBodyWrong : ChangeSpec := { name := "fnFrameBody", fn := fun _ => fun
  | [d] => { results := [.lit (.bool false)], args := [d] }
  | _ => none }
def FnFrameBodyWrongFalsely : Prop := fnFrameBodyRow.holds Try.pinned (OpenSpec.ofChange fnFrameBodyWrong)

/-- 'laws.FnReadFrame': WHATEVER THE INPUT: true; the input reads as it did. -/
def fnReadFrameSpec : ChangeSpec := { name := "fnReadFrame", fn := fun _ => fun
  | [d] => { results := [.lit (.bool true)], args := [d] }
  | _ => none }
def fnReadFrameRow : OpenClaim := { program := "ytoomkafhmennoaa", sum := "ed49df570711aaf17a153d23e184bd1a6fbaf563ebd5b9ec19f72c5d7922740d", func := "loop.example/satelliteclock/laws.FnReadFrame", spec := "fnReadFrame", recurses := true, apart := false }
def FnReadFrameSaid : Prop := fnReadFrameRow.holds Try.pinned (OpenSpec.ofChange fnReadFrameSpec)

/-- ITS FALSE NEIGHBOUR: 'it returns false'. Refute it at one input. -/
def fnReadFrameWrong : ChangeSpec := { name := "fnReadFrame", fn := fun _ => fun
  | [d] => { results := [.lit (.bool false)], args := [d] }
  | _ => none }
def FnReadFrameWrongFalsely : Prop := fnReadFrameRow.holds Try.pinned (OpenSpec.ofChange fnReadFrameWrong)

/-- 'laws.FnReadFrameWrong': WHATEVER THE INPUT: true; the input reads as it did. -/
def fnReadFrameWrongSpec : ChangeSpec := { name := "fnReadFrameWrong", fn := fun _ => fun
  | [d] => { results := [.lit (.bool true)], args := [d] }
  | _ => none }
def fnReadFrameWrongRow : OpenClaim := { program := "ytoomkafhmennoaa", sum := "ed49df570711aaf17a153d23e184bd1a6fbaf563ebd5b9ec19f72c5d7922740d", func := "loop.example/satelliteclock/laws.FnReadFrameWrong", spec := "fnReadFrameWrong", recurses := true, apart := false }
def FnReadFrameWrongSaid : Prop := fnReadFrameWrongRow.holds Try.pinned (OpenSpec.ofChange fnReadFrameWrongSpec)

/-- ITS FALSE NEIGHBOUR: 'it returns false'. Refute it at one input. -/
def fnReadFrameWrongWrong : ChangeSpec := { name := "fnReadFrameWrong", fn := fun _ => fun
  | [d] => { results := [.lit (.bool false)], args := [d] }
  | _ => none }
def FnReadFrameWrongWrongFalsely : Prop := fnReadFrameWrongRow.holds Try.pinned (OpenSpec.ofChange fnReadFrameWrongWrong)

/-- 'laws.FnSplitFrames': WHATEVER THE INPUT: true; the input reads as it did. -/
def fnSplitFramesSpec : ChangeSpec := { name := "fnSplitFrames", fn := fun _ => fun
  | [d] => { results := [.lit (.bool true)], args := [d] }
  | _ => none }
def fnSplitFramesRow : OpenClaim := { program := "ytoomkafhmennoaa", sum := "ed49df570711aaf17a153d23e184bd1a6fbaf563ebd5b9ec19f72c5d7922740d", func := "loop.example/satelliteclock/laws.FnSplitFrames", spec := "fnSplitFrames", recurses := true, apart := false }
def FnSplitFramesSaid : Prop := fnSplitFramesRow.holds Try.pinned (OpenSpec.ofChange fnSplitFramesSpec)

/-- ITS FALSE NEIGHBOUR: 'it returns false'. Refute it at one input. -/
def fnSplitFramesWrong : ChangeSpec := { name := "fnSplitFrames", fn := fun _ => fun
  | [d] => { results := [.lit (.bool false)], args := [d] }
  | _ => none }
def FnSplitFramesWrongFalsely : Prop := fnSplitFramesRow.holds Try.pinned (OpenSpec.ofChange fnSplitFramesWrong)

/-- 'laws.FnSplitFramesJoin': WHATEVER THE INPUT: true; the input reads as it did. -/
def fnSplitFramesJoinSpec : ChangeSpec := { name := "fnSplitFramesJoin", fn := fun _ => fun
  | [d] => { results := [.lit (.bool true)], args := [d] }
  | _ => none }
def fnSplitFramesJoinRow : OpenClaim := { program := "ytoomkafhmennoaa", sum := "ed49df570711aaf17a153d23e184bd1a6fbaf563ebd5b9ec19f72c5d7922740d", func := "loop.example/satelliteclock/laws.FnSplitFramesJoin", spec := "fnSplitFramesJoin", recurses := true, apart := false }
def FnSplitFramesJoinSaid : Prop := fnSplitFramesJoinRow.holds Try.pinned (OpenSpec.ofChange fnSplitFramesJoinSpec)

/-- ITS FALSE NEIGHBOUR: 'it returns false'. Refute it at one input. -/
def fnSplitFramesJoinWrong : ChangeSpec := { name := "fnSplitFramesJoin", fn := fun _ => fun
  | [d] => { results := [.lit (.bool false)], args := [d] }
  | _ => none }
def FnSplitFramesJoinWrongFalsely : Prop := fnSplitFramesJoinRow.holds Try.pinned (OpenSpec.ofChange fnSplitFramesJoinWrong)

/-- 'laws.FnValidLeaps': WHATEVER THE INPUT: true; the input reads as it did. -/
def fnValidLeapsSpec : ChangeSpec := { name := "fnValidLeaps", fn := fun _ => fun
  | [d] => { results := [.lit (.bool true)], args := [d] }
  | _ => none }
def fnValidLeapsRow : OpenClaim := { program := "ytoomkafhmennoaa", sum := "ed49df570711aaf17a153d23e184bd1a6fbaf563ebd5b9ec19f72c5d7922740d", func := "loop.example/satelliteclock/laws.FnValidLeaps", spec := "fnValidLeaps", apart := false }
def FnValidLeapsSaid : Prop := fnValidLeapsRow.holds Try.pinned (OpenSpec.ofChange fnValidLeapsSpec)

/-- ITS FALSE NEIGHBOUR: 'it returns false'. Refute it at one input. -/
def fnValidLeapsWrong : ChangeSpec := { name := "fnValidLeaps", fn := fun _ => fun
  | [d] => { results := [.lit (.bool false)], args := [d] }
  | _ => none }
def FnValidLeapsWrongFalsely : Prop := fnValidLeapsRow.holds Try.pinned (OpenSpec.ofChange fnValidLeapsWrong)

/-- 'laws.FnLeapsBefore': WHATEVER THE INPUT: true; the input reads as it did. -/
def fnLeapsBeforeSpec : ChangeSpec := { name := "fnLeapsBefore", fn := fun _ => fun
  | [d] => { results := [.lit (.bool true)], args := [d] }
  | _ => none }
def fnLeapsBeforeRow : OpenClaim := { program := "ytoomkafhmennoaa", sum := "ed49df570711aaf17a153d23e184bd1a6fbaf563ebd5b9ec19f72c5d7922740d", func := "loop.example/satelliteclock/laws.FnLeapsBefore", spec := "fnLeapsBefore", apart := false }
def FnLeapsBeforeSaid : Prop := fnLeapsBeforeRow.holds Try.pinned (OpenSpec.ofChange fnLeapsBeforeSpec)

/-- ITS FALSE NEIGHBOUR: 'it returns false'. Refute it at one input. -/
def fnLeapsBeforeWrong : ChangeSpec := { name := "fnLeapsBefore", fn := fun _ => fun
  | [d] => { results := [.lit (.bool false)], args := [d] }
  | _ => none }
def FnLeapsBeforeWrongFalsely : Prop := fnLeapsBeforeRow.holds Try.pinned (OpenSpec.ofChange fnLeapsBeforeWrong)

/-- 'laws.FnLeapsBeforeAll': WHATEVER THE INPUT: true; the input reads as it did. -/
def fnLeapsBeforeAllSpec : ChangeSpec := { name := "fnLeapsBeforeAll", fn := fun _ => fun
  | [d] => { results := [.lit (.bool true)], args := [d] }
  | _ => none }
def fnLeapsBeforeAllRow : OpenClaim := { program := "ytoomkafhmennoaa", sum := "ed49df570711aaf17a153d23e184bd1a6fbaf563ebd5b9ec19f72c5d7922740d", func := "loop.example/satelliteclock/laws.FnLeapsBeforeAll", spec := "fnLeapsBeforeAll", apart := false }
def FnLeapsBeforeAllSaid : Prop := fnLeapsBeforeAllRow.holds Try.pinned (OpenSpec.ofChange fnLeapsBeforeAllSpec)

/-- ITS FALSE NEIGHBOUR: 'it returns false'. Refute it at one input. -/
def fnLeapsBeforeAllWrong : ChangeSpec := { name := "fnLeapsBeforeAll", fn := fun _ => fun
  | [d] => { results := [.lit (.bool false)], args := [d] }
  | _ => none }
def FnLeapsBeforeAllWrongFalsely : Prop := fnLeapsBeforeAllRow.holds Try.pinned (OpenSpec.ofChange fnLeapsBeforeAllWrong)

/-- 'laws.FnIsLeapSecond': WHATEVER THE INPUT: true; the input reads as it did. -/
def fnIsLeapSecondSpec : ChangeSpec := { name := "fnIsLeapSecond", fn := fun _ => fun
  | [d] => { results := [.lit (.bool true)], args := [d] }
  | _ => none }
def fnIsLeapSecondRow : OpenClaim := { program := "ytoomkafhmennoaa", sum := "ed49df570711aaf17a153d23e184bd1a6fbaf563ebd5b9ec19f72c5d7922740d", func := "loop.example/satelliteclock/laws.FnIsLeapSecond", spec := "fnIsLeapSecond", apart := false }
def FnIsLeapSecondSaid : Prop := fnIsLeapSecondRow.holds Try.pinned (OpenSpec.ofChange fnIsLeapSecondSpec)

/-- ITS FALSE NEIGHBOUR: 'it returns false'. Refute it at one input. -/
def fnIsLeapSecondWrong : ChangeSpec := { name := "fnIsLeapSecond", fn := fun _ => fun
  | [d] => { results := [.lit (.bool false)], args := [d] }
  | _ => none }
def FnIsLeapSecondWrongFalsely : Prop := fnIsLeapSecondRow.holds Try.pinned (OpenSpec.ofChange fnIsLeapSecondWrong)

/-- 'laws.FnCivilOf': WHATEVER THE INPUT: true; the input reads as it did. -/
def fnCivilOfSpec : ChangeSpec := { name := "fnCivilOf", fn := fun _ => fun
  | [d] => { results := [.lit (.bool true)], args := [d] }
  | _ => none }
def fnCivilOfRow : OpenClaim := { program := "ytoomkafhmennoaa", sum := "ed49df570711aaf17a153d23e184bd1a6fbaf563ebd5b9ec19f72c5d7922740d", func := "loop.example/satelliteclock/laws.FnCivilOf", spec := "fnCivilOf", apart := false }
def FnCivilOfSaid : Prop := fnCivilOfRow.holds Try.pinned (OpenSpec.ofChange fnCivilOfSpec)

/-- ITS FALSE NEIGHBOUR: 'it returns false'. Refute it at one input. -/
def fnCivilOfWrong : ChangeSpec := { name := "fnCivilOf", fn := fun _ => fun
  | [d] => { results := [.lit (.bool false)], args := [d] }
  | _ => none }
def FnCivilOfWrongFalsely : Prop := fnCivilOfRow.holds Try.pinned (OpenSpec.ofChange fnCivilOfWrong)

/- THE SECOND FORM. 'bulk': how many values and letters a reading holds, each counted each time it is reached (what is shared counts as often as it is met; a slice's spare places count too). A statement '..UptoSaid' is the law's where the arguments, and the package variables that the reading takes, are together of bulk at most 1048576: NARROWER than '..Said'. Prove '..Said' where nothing that the law and all that it calls make is longer than what came in: it says more and counts as full. Else prove '..UptoSaid'. A law counts once. -/
mutual
def uptoBulk {H : Type} : DataW H → Nat
  | .lit (.string bytes) => bytes.length + 1
  | .lit _ => 1
  | .nil => 1
  | .ptr d => uptoBulk d + 1
  | .slice elems spare => uptoBulkAll elems + uptoBulkAll spare + 1
  | .agg parts => uptoBulkAll parts + 1
  | .iface _ d => uptoBulk d + 1
  | .map entries => uptoBulkEntries entries + 1
  | .held _ => 1
def uptoBulkAll {H : Type} : List (DataW H) → Nat
  | [] => 0
  | d :: r => uptoBulk d + uptoBulkAll r
def uptoBulkEntries {H : Type} : List (Lit × DataW H) → Nat
  | [] => 0
  | x :: r => uptoBulkEntry x + uptoBulkEntries r
def uptoBulkEntry {H : Type} : Lit × DataW H → Nat
  | (.string bytes, d) => bytes.length + uptoBulk d + 1
  | (_, d) => uptoBulk d + 1
 end
def uptoSmall : (H : Type) → List (DataW H) → Bool := fun _ ds => decide (uptoBulkAll ds ≤ 1048576)
def OpenSpec.upto (s : _root_.Go.ChangeSpec) : _root_.Go.OpenSpec := { _root_.Go.OpenSpec.ofChange s with cond := some uptoSmall }

/-- 'laws.FnChecksumOf', WHERE WHAT IT READS IS OF BULK AT MOST 1048576: true; the input reads as it did. -/
def fnChecksumOfUptoRow : OpenClaim := { program := "ytoomkafhmennoaa", sum := "ed49df570711aaf17a153d23e184bd1a6fbaf563ebd5b9ec19f72c5d7922740d", func := "loop.example/satelliteclock/laws.FnChecksumOf", spec := "fnChecksumOf", recurses := true, apart := false, narrowed := true }
def FnChecksumOfUptoSaid : Prop := fnChecksumOfUptoRow.holds Try.pinned (OpenSpec.upto fnChecksumOfSpec)

/-- 'laws.FnChecksumOfOrder', WHERE WHAT IT READS IS OF BULK AT MOST 1048576: true; the input reads as it did. -/
def fnChecksumOfOrderUptoRow : OpenClaim := { program := "ytoomkafhmennoaa", sum := "ed49df570711aaf17a153d23e184bd1a6fbaf563ebd5b9ec19f72c5d7922740d", func := "loop.example/satelliteclock/laws.FnChecksumOfOrder", spec := "fnChecksumOfOrder", recurses := true, apart := false, narrowed := true }
def FnChecksumOfOrderUptoSaid : Prop := fnChecksumOfOrderUptoRow.holds Try.pinned (OpenSpec.upto fnChecksumOfOrderSpec)

/-- 'laws.FnFrameBody', WHERE WHAT IT READS IS OF BULK AT MOST 1048576: true; the input reads as it did. -/
def fnFrameBodyUptoRow : OpenClaim := { program := "ytoomkafhmennoaa", sum := "ed49df570711aaf17a153d23e184bd1a6fbaf563ebd5b9ec19f72c5d7922740d", func := "loop.example/satelliteclock/laws.FnFrameBody", spec := "fnFrameBody", recurses := true, apart := false, narrowed := true }
def FnFrameBodyUptoSaid : Prop := fnFrameBodyUptoRow.holds Try.pinned (OpenSpec.upto fnFrameBodySpec)

/-- 'laws.FnReadFrame', WHERE WHAT IT READS IS OF BULK AT MOST 1048576: true; the input reads as it did. -/
def fnReadFrameUptoRow : OpenClaim := { program := "ytoomkafhmennoaa", sum := "ed49df570711aaf17a153d23e184bd1a6fbaf563ebd5b9ec19f72c5d7922740d", func := "loop.example/satelliteclock/laws.FnReadFrame", spec := "fnReadFrame", recurses := true, apart := false, narrowed := true }
def FnReadFrameUptoSaid : Prop := fnReadFrameUptoRow.holds Try.pinned (OpenSpec.upto fnReadFrameSpec)

/-- 'laws.FnReadFrameWrong', WHERE WHAT IT READS IS OF BULK AT MOST 1048576: true; the input reads as it did. -/
def fnReadFrameWrongUptoRow : OpenClaim := { program := "ytoomkafhmennoaa", sum := "ed49df570711aaf17a153d23e184bd1a6fbaf563ebd5b9ec19f72c5d7922740d", func := "loop.example/satelliteclock/laws.FnReadFrameWrong", spec := "fnReadFrameWrong", recurses := true, apart := false, narrowed := true }
def FnReadFrameWrongUptoSaid : Prop := fnReadFrameWrongUptoRow.holds Try.pinned (OpenSpec.upto fnReadFrameWrongSpec)

/-- 'laws.FnSplitFrames', WHERE WHAT IT READS IS OF BULK AT MOST 1048576: true; the input reads as it did. -/
def fnSplitFramesUptoRow : OpenClaim := { program := "ytoomkafhmennoaa", sum := "ed49df570711aaf17a153d23e184bd1a6fbaf563ebd5b9ec19f72c5d7922740d", func := "loop.example/satelliteclock/laws.FnSplitFrames", spec := "fnSplitFrames", recurses := true, apart := false, narrowed := true }
def FnSplitFramesUptoSaid : Prop := fnSplitFramesUptoRow.holds Try.pinned (OpenSpec.upto fnSplitFramesSpec)

/-- 'laws.FnSplitFramesJoin', WHERE WHAT IT READS IS OF BULK AT MOST 1048576: true; the input reads as it did. -/
def fnSplitFramesJoinUptoRow : OpenClaim := { program := "ytoomkafhmennoaa", sum := "ed49df570711aaf17a153d23e184bd1a6fbaf563ebd5b9ec19f72c5d7922740d", func := "loop.example/satelliteclock/laws.FnSplitFramesJoin", spec := "fnSplitFramesJoin", recurses := true, apart := false, narrowed := true }
def FnSplitFramesJoinUptoSaid : Prop := fnSplitFramesJoinUptoRow.holds Try.pinned (OpenSpec.upto fnSplitFramesJoinSpec)

/-- 'laws.FnValidLeaps', WHERE WHAT IT READS IS OF BULK AT MOST 1048576: true; the input reads as it did. -/
def fnValidLeapsUptoRow : OpenClaim := { program := "ytoomkafhmennoaa", sum := "ed49df570711aaf17a153d23e184bd1a6fbaf563ebd5b9ec19f72c5d7922740d", func := "loop.example/satelliteclock/laws.FnValidLeaps", spec := "fnValidLeaps", apart := false, narrowed := true }
def FnValidLeapsUptoSaid : Prop := fnValidLeapsUptoRow.holds Try.pinned (OpenSpec.upto fnValidLeapsSpec)

/-- 'laws.FnLeapsBefore', WHERE WHAT IT READS IS OF BULK AT MOST 1048576: true; the input reads as it did. -/
def fnLeapsBeforeUptoRow : OpenClaim := { program := "ytoomkafhmennoaa", sum := "ed49df570711aaf17a153d23e184bd1a6fbaf563ebd5b9ec19f72c5d7922740d", func := "loop.example/satelliteclock/laws.FnLeapsBefore", spec := "fnLeapsBefore", apart := false, narrowed := true }
def FnLeapsBeforeUptoSaid : Prop := fnLeapsBeforeUptoRow.holds Try.pinned (OpenSpec.upto fnLeapsBeforeSpec)

/-- 'laws.FnLeapsBeforeAll', WHERE WHAT IT READS IS OF BULK AT MOST 1048576: true; the input reads as it did. -/
def fnLeapsBeforeAllUptoRow : OpenClaim := { program := "ytoomkafhmennoaa", sum := "ed49df570711aaf17a153d23e184bd1a6fbaf563ebd5b9ec19f72c5d7922740d", func := "loop.example/satelliteclock/laws.FnLeapsBeforeAll", spec := "fnLeapsBeforeAll", apart := false, narrowed := true }
def FnLeapsBeforeAllUptoSaid : Prop := fnLeapsBeforeAllUptoRow.holds Try.pinned (OpenSpec.upto fnLeapsBeforeAllSpec)

/-- 'laws.FnIsLeapSecond', WHERE WHAT IT READS IS OF BULK AT MOST 1048576: true; the input reads as it did. -/
def fnIsLeapSecondUptoRow : OpenClaim := { program := "ytoomkafhmennoaa", sum := "ed49df570711aaf17a153d23e184bd1a6fbaf563ebd5b9ec19f72c5d7922740d", func := "loop.example/satelliteclock/laws.FnIsLeapSecond", spec := "fnIsLeapSecond", apart := false, narrowed := true }
def FnIsLeapSecondUptoSaid : Prop := fnIsLeapSecondUptoRow.holds Try.pinned (OpenSpec.upto fnIsLeapSecondSpec)

/-- 'laws.FnCivilOf', WHERE WHAT IT READS IS OF BULK AT MOST 1048576: true; the input reads as it did. -/
def fnCivilOfUptoRow : OpenClaim := { program := "ytoomkafhmennoaa", sum := "ed49df570711aaf17a153d23e184bd1a6fbaf563ebd5b9ec19f72c5d7922740d", func := "loop.example/satelliteclock/laws.FnCivilOf", spec := "fnCivilOf", apart := false, narrowed := true }
def FnCivilOfUptoSaid : Prop := fnCivilOfUptoRow.holds Try.pinned (OpenSpec.upto fnCivilOfSpec)

end Rows
end Go.Proofs.Ytoomkafhmennoaa
