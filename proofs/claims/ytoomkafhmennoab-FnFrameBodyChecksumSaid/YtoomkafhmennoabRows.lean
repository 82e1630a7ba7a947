/-
  No cell of these rows narrows 'for every input' (looked for: loops, veiled, ifaces, maps, wideKeys, modest, calm, conditions, laid).
  DERIVED. THE GIVEN ROWS OF THIS SEAT. 12 by the template 'for every input the law returns true; each argument reads behind the call as it read before'; 0 by the template 'total and deterministic' (their statements: YtoomkafhmennoabTotals.lean).
  GIVEN WITH THE SEED: the statements are not yours to turn. If you find one false, say at which input.
  Laid BY PROGRAM, IN A SANDBOX (cutbox-rows.mjs): the forced cells as the released guide's own fill.sh prints them over the translation 7886c7957836a522… (all of the seat's roots in one cut). By AI agents, Wed Nov 11 2026. No macro, syntax, notation, axiom, sorry.
-/
import Derived.Test.YtoomkafhmennoabChecked
import GoSem.Claim
import GoSem.ClaimJoined
import GoSem.ClaimMapViews
import Derived.JoinedTies
import Derived.KernelRfl
namespace Go.Proofs.Ytoomkafhmennoab
/- THE CELL 'sum', in the pinned program and in every row, IS THE sha256 OF THE DUMP (.gsa) THAT YtoomkafhmennoabProg.lean LOADS. Nothing in Lean hashes anything: it is a label: what it is worth is what the hold of that sum in a sandbox is worth. -/
noncomputable def Try.pinned : Pinned := { name := "ytoomkafhmennoab", sum := "7886c7957836a522e2d9192f2a1e3037596901d4cb6e3ed4a92c5629489efa76", checked := Try.checked }
namespace Rows
def none {H : Type} : Left H := { results := [], args := [] }

/-- 'laws.FnCivilOfNone': WHATEVER THE INPUT: true; the input reads as it did. -/
def fnCivilOfNoneSpec : ChangeSpec := { name := "fnCivilOfNone", fn := fun _ => fun
  | [d] => { results := [.lit (.bool true)], args := [d] }
  | _ => none }
def fnCivilOfNoneRow : OpenClaim := { program := "ytoomkafhmennoab", sum := "7886c7957836a522e2d9192f2a1e3037596901d4cb6e3ed4a92c5629489efa76", func := "loop.example/satelliteclock/laws.FnCivilOfNone", spec := "fnCivilOfNone", apart := false }
def FnCivilOfNoneSaid : Prop := fnCivilOfNoneRow.holds Try.pinned (OpenSpec.ofChange fnCivilOfNoneSpec)

/-- ITS FALSE NEIGHBOUR: 'it returns false'. Refute it at one input. -/
def fnCivilOfNoneWrong : ChangeSpec := { name := "fnCivilOfNone", fn := fun _ => fun
  | [d] => { results := [.lit (.bool false)], args := [d] }
  | _ => none }
def FnCivilOfNoneWrongFalsely : Prop := fnCivilOfNoneRow.holds Try.pinned (OpenSpec.ofChange fnCivilOfNoneWrong)

/-- 'laws.FnSatelliteOf': WHATEVER THE INPUT: true; the input reads as it did. -/
def fnSatelliteOfSpec : ChangeSpec := { name := "fnSatelliteOf", fn := fun _ => fun
  | [d] => { results := [.lit (.bool true)], args := [d] }
  | _ => none }
def fnSatelliteOfRow : OpenClaim := { program := "ytoomkafhmennoab", sum := "7886c7957836a522e2d9192f2a1e3037596901d4cb6e3ed4a92c5629489efa76", func := "loop.example/satelliteclock/laws.FnSatelliteOf", spec := "fnSatelliteOf", unfollowed := true, recurses := true, apart := false }
def FnSatelliteOfSaid : Prop := fnSatelliteOfRow.holds Try.pinned (OpenSpec.ofChange fnSatelliteOfSpec)

/-- ITS FALSE NEIGHBOUR: 'it returns false'. Refute it at one input. -/
def fnSatelliteOfWrong : ChangeSpec := { name := "fnSatelliteOf", fn := fun _ => fun
  | [d] => { results := [.lit (.bool false)], args := [d] }
  | _ => none }
def FnSatelliteOfWrongFalsely : Prop := fnSatelliteOfRow.holds Try.pinned (OpenSpec.ofChange fnSatelliteOfWrong)

/-- 'laws.FnSatelliteOfNext': WHATEVER THE INPUT: true; the input reads as it did. -/
def fnSatelliteOfNextSpec : ChangeSpec := { name := "fnSatelliteOfNext", fn := fun _ => fun
  | [d] => { results := [.lit (.bool true)], args := [d] }
  | _ => none }
def fnSatelliteOfNextRow : OpenClaim := { program := "ytoomkafhmennoab", sum := "7886c7957836a522e2d9192f2a1e3037596901d4cb6e3ed4a92c5629489efa76", func := "loop.example/satelliteclock/laws.FnSatelliteOfNext", spec := "fnSatelliteOfNext", unfollowed := true, recurses := true, apart := false }
def FnSatelliteOfNextSaid : Prop := fnSatelliteOfNextRow.holds Try.pinned (OpenSpec.ofChange fnSatelliteOfNextSpec)

/-- ITS FALSE NEIGHBOUR: 'it returns false'. Refute it at one input. -/
def fnSatelliteOfNextWrong : ChangeSpec := { name := "fnSatelliteOfNext", fn := fun _ => fun
  | [d] => { results := [.lit (.bool false)], args := [d] }
  | _ => none }
def FnSatelliteOfNextWrongFalsely : Prop := fnSatelliteOfNextRow.holds Try.pinned (OpenSpec.ofChange fnSatelliteOfNextWrong)

/-- 'laws.FnNextLeap': WHATEVER THE INPUT: true; the input reads as it did. -/
def fnNextLeapSpec : ChangeSpec := { name := "fnNextLeap", fn := fun _ => fun
  | [d] => { results := [.lit (.bool true)], args := [d] }
  | _ => none }
def fnNextLeapRow : OpenClaim := { program := "ytoomkafhmennoab", sum := "7886c7957836a522e2d9192f2a1e3037596901d4cb6e3ed4a92c5629489efa76", func := "loop.example/satelliteclock/laws.FnNextLeap", spec := "fnNextLeap", apart := false }
def FnNextLeapSaid : Prop := fnNextLeapRow.holds Try.pinned (OpenSpec.ofChange fnNextLeapSpec)

/-- ITS FALSE NEIGHBOUR: 'it returns false'. Refute it at one input. -/
def fnNextLeapWrong : ChangeSpec := { name := "fnNextLeap", fn := fun _ => fun
  | [d] => { results := [.lit (.bool false)], args := [d] }
  | _ => none }
def FnNextLeapWrongFalsely : Prop := fnNextLeapRow.holds Try.pinned (OpenSpec.ofChange fnNextLeapWrong)

/-- 'laws.FnNextLeapNone': WHATEVER THE INPUT: true; the input reads as it did. -/
def fnNextLeapNoneSpec : ChangeSpec := { name := "fnNextLeapNone", fn := fun _ => fun
  | [d] => { results := [.lit (.bool true)], args := [d] }
  | _ => none }
def fnNextLeapNoneRow : OpenClaim := { program := "ytoomkafhmennoab", sum := "7886c7957836a522e2d9192f2a1e3037596901d4cb6e3ed4a92c5629489efa76", func := "loop.example/satelliteclock/laws.FnNextLeapNone", spec := "fnNextLeapNone", apart := false }
def FnNextLeapNoneSaid : Prop := fnNextLeapNoneRow.holds Try.pinned (OpenSpec.ofChange fnNextLeapNoneSpec)

/-- ITS FALSE NEIGHBOUR: 'it returns false'. Refute it at one input. -/
def fnNextLeapNoneWrong : ChangeSpec := { name := "fnNextLeapNone", fn := fun _ => fun
  | [d] => { results := [.lit (.bool false)], args := [d] }
  | _ => none }
def FnNextLeapNoneWrongFalsely : Prop := fnNextLeapNoneRow.holds Try.pinned (OpenSpec.ofChange fnNextLeapNoneWrong)

/-- 'laws.FnFrameBodyChecksum': WHATEVER THE INPUT: true; the input reads as it did. -/
def fnFrameBodyChecksumSpec : ChangeSpec := { name := "fnFrameBodyChecksum", fn := fun _ => fun
  | [d] => { results := [.lit (.bool true)], args := [d] }
  | _ => none }
def fnFrameBodyChecksumRow : OpenClaim := { program := "ytoomkafhmennoab", sum := "7886c7957836a522e2d9192f2a1e3037596901d4cb6e3ed4a92c5629489efa76", func := "loop.example/satelliteclock/laws.FnFrameBodyChecksum", spec := "fnFrameBodyChecksum", recurses := true, apart := false }
def FnFrameBodyChecksumSaid : Prop := fnFrameBodyChecksumRow.holds Try.pinned (OpenSpec.ofChange fnFrameBodyChecksumSpec)

/-- ITS FALSE NEIGHBOUR: 'it returns false'. Refute it at one input. -/
def fnFrameBodyChecksumWrong : ChangeSpec := { name := "fnFrameBodyChecksum", fn := fun _ => fun
  | [d] => { results := [.lit (.bool false)], args := [d] }
  | _ => none }
def FnFrameBodyChecksumWrongFalsely : Prop := fnFrameBodyChecksumRow.holds Try.pinned (OpenSpec.ofChange fnFrameBodyChecksumWrong)

/-- 'laws.FnSplitFramesNoise': WHATEVER THE INPUT: true; the input reads as it did. -/
def fnSplitFramesNoiseSpec : ChangeSpec := { name := "fnSplitFramesNoise", fn := fun _ => fun
  | [d] => { results := [.lit (.bool true)], args := [d] }
  | _ => none }
def fnSplitFramesNoiseRow : OpenClaim := { program := "ytoomkafhmennoab", sum := "7886c7957836a522e2d9192f2a1e3037596901d4cb6e3ed4a92c5629489efa76", func := "loop.example/satelliteclock/laws.FnSplitFramesNoise", spec := "fnSplitFramesNoise", recurses := true, apart := false }
def FnSplitFramesNoiseSaid : Prop := fnSplitFramesNoiseRow.holds Try.pinned (OpenSpec.ofChange fnSplitFramesNoiseSpec)

/-- ITS FALSE NEIGHBOUR: 'it returns false'. Refute it at one input. -/
def fnSplitFramesNoiseWrong : ChangeSpec := { name := "fnSplitFramesNoise", fn := fun _ => fun
  | [d] => { results := [.lit (.bool false)], args := [d] }
  | _ => none }
def FnSplitFramesNoiseWrongFalsely : Prop := fnSplitFramesNoiseRow.holds Try.pinned (OpenSpec.ofChange fnSplitFramesNoiseWrong)

/-- 'laws.FnLeapsBeforeParts': WHATEVER THE INPUT: true; the input reads as it did. -/
def fnLeapsBeforePartsSpec : ChangeSpec := { name := "fnLeapsBeforeParts", fn := fun _ => fun
  | [d] => { results := [.lit (.bool true)], args := [d] }
  | _ => none }
def fnLeapsBeforePartsRow : OpenClaim := { program := "ytoomkafhmennoab", sum := "7886c7957836a522e2d9192f2a1e3037596901d4cb6e3ed4a92c5629489efa76", func := "loop.example/satelliteclock/laws.FnLeapsBeforeParts", spec := "fnLeapsBeforeParts", apart := false }
def FnLeapsBeforePartsSaid : Prop := fnLeapsBeforePartsRow.holds Try.pinned (OpenSpec.ofChange fnLeapsBeforePartsSpec)

/-- ITS FALSE NEIGHBOUR: 'it returns false'. Refute it at one input. -/
def fnLeapsBeforePartsWrong : ChangeSpec := { name := "fnLeapsBeforeParts", fn := fun _ => fun
  | [d] => { results := [.lit (.bool false)], args := [d] }
  | _ => none }
def FnLeapsBeforePartsWrongFalsely : Prop := fnLeapsBeforePartsRow.holds Try.pinned (OpenSpec.ofChange fnLeapsBeforePartsWrong)

/-- 'laws.FnCivilOfSatellite': WHATEVER THE INPUT: true; the input reads as it did. -/
def fnCivilOfSatelliteSpec : ChangeSpec := { name := "fnCivilOfSatellite", fn := fun _ => fun
  | [d] => { results := [.lit (.bool true)], args := [d] }
  | _ => none }
def fnCivilOfSatelliteRow : OpenClaim := { program := "ytoomkafhmennoab", sum := "7886c7957836a522e2d9192f2a1e3037596901d4cb6e3ed4a92c5629489efa76", func := "loop.example/satelliteclock/laws.FnCivilOfSatellite", spec := "fnCivilOfSatellite", unfollowed := true, recurses := true, apart := false }
def FnCivilOfSatelliteSaid : Prop := fnCivilOfSatelliteRow.holds Try.pinned (OpenSpec.ofChange fnCivilOfSatelliteSpec)

/-- ITS FALSE NEIGHBOUR: 'it returns false'. Refute it at one input. -/
def fnCivilOfSatelliteWrong : ChangeSpec := { name := "fnCivilOfSatellite", fn := fun _ => fun
  | [d] => { results := [.lit (.bool false)], args := [d] }
  | _ => none }
def FnCivilOfSatelliteWrongFalsely : Prop := fnCivilOfSatelliteRow.holds Try.pinned (OpenSpec.ofChange fnCivilOfSatelliteWrong)

/-- 'laws.FnIsLeapSecondCivil': WHATEVER THE INPUT: true; the input reads as it did. -/
def fnIsLeapSecondCivilSpec : ChangeSpec := { name := "fnIsLeapSecondCivil", fn := fun _ => fun
  | [d] => { results := [.lit (.bool true)], args := [d] }
  | _ => none }
def fnIsLeapSecondCivilRow : OpenClaim := { program := "ytoomkafhmennoab", sum := "7886c7957836a522e2d9192f2a1e3037596901d4cb6e3ed4a92c5629489efa76", func := "loop.example/satelliteclock/laws.FnIsLeapSecondCivil", spec := "fnIsLeapSecondCivil", apart := false }
def FnIsLeapSecondCivilSaid : Prop := fnIsLeapSecondCivilRow.holds Try.pinned (OpenSpec.ofChange fnIsLeapSecondCivilSpec)

/-- ITS FALSE NEIGHBOUR: 'it returns false'. Refute it at one input. -/
def fnIsLeapSecondCivilWrong : ChangeSpec := { name := "fnIsLeapSecondCivil", fn := fun _ => fun
  | [d] => { results := [.lit (.bool false)], args := [d] }
  | _ => none }
def FnIsLeapSecondCivilWrongFalsely : Prop := fnIsLeapSecondCivilRow.holds Try.pinned (OpenSpec.ofChange fnIsLeapSecondCivilWrong)

/-- 'laws.FnExactChecksumOf': WHATEVER THE INPUT: true; the input reads as it did. -/
def fnExactChecksumOfSpec : ChangeSpec := { name := "fnExactChecksumOf", fn := fun _ => fun
  | [d] => { results := [.lit (.bool true)], args := [d] }
  | _ => none }
def fnExactChecksumOfRow : OpenClaim := { program := "ytoomkafhmennoab", sum := "7886c7957836a522e2d9192f2a1e3037596901d4cb6e3ed4a92c5629489efa76", func := "loop.example/satelliteclock/laws.FnExactChecksumOf", spec := "fnExactChecksumOf", apart := false }
def FnExactChecksumOfSaid : Prop := fnExactChecksumOfRow.holds Try.pinned (OpenSpec.ofChange fnExactChecksumOfSpec)

/-- ITS FALSE NEIGHBOUR: 'it returns false'. Refute it at one input. -/
def fnExactChecksumOfWrong : ChangeSpec := { name := "fnExactChecksumOf", fn := fun _ => fun
  | [d] => { results := [.lit (.bool false)], args := [d] }
  | _ => none }
def FnExactChecksumOfWrongFalsely : Prop := fnExactChecksumOfRow.holds Try.pinned (OpenSpec.ofChange fnExactChecksumOfWrong)

/-- 'laws.FnExactFrameBody': WHATEVER THE INPUT: true; the input reads as it did. -/
def fnExactFrameBodySpec : ChangeSpec := { name := "fnExactFrameBody", fn := fun _ => fun
  | [d] => { results := [.lit (.bool true)], args := [d] }
  | _ => none }
def fnExactFrameBodyRow : OpenClaim := { program := "ytoomkafhmennoab", sum := "7886c7957836a522e2d9192f2a1e3037596901d4cb6e3ed4a92c5629489efa76", func := "loop.example/satelliteclock/laws.FnExactFrameBody", spec := "fnExactFrameBody", apart := false }
def FnExactFrameBodySaid : Prop := fnExactFrameBodyRow.holds Try.pinned (OpenSpec.ofChange fnExactFrameBodySpec)

/-- ITS FALSE NEIGHBOUR: 'it returns false'. Refute it at one input. -/
def fnExactFrameBodyWrong : ChangeSpec := { name := "fnExactFrameBody", fn := fun _ => fun
  | [d] => { results := [.lit (.bool false)], args := [d] }
  | _ => none }
def FnExactFrameBodyWrongFalsely : Prop := fnExactFrameBodyRow.holds Try.pinned (OpenSpec.ofChange fnExactFrameBodyWrong)

/- THE SECOND FORM. 'bulk': how many values and letters a reading holds, each counted each time it is reached (what is shared counts as often as it is met; a slice's spare places count too). A statement '..UptoSaid' is the law's where the arguments, and the package variables that the reading takes, are together of bulk at most 1048576: NARROWER than '..Said'. Prove '..Said' where nothing that the law and all that it calls make is longer than what came in: it says more and counts as full. Else prove '..UptoSaid'. A law counts once. -/
mutual
def uptoBulk {H : Type} : DataW H → Nat
  | .lit (.string bytes) => bytes.length + 1
  | .lit _ => 1
  | .nil => 1
  | .ptr d => uptoBulk d + 1
  | .slice elems spare => uptoBulkAll elems + uptoBulkAll spare + 1
  | .agg parts => uptoBulkAll parts + 1
  | .iface _ d => uptoBulk d + 1
  | .map entries => uptoBulkEntries entries + 1
  | .held _ => 1
def uptoBulkAll {H : Type} : List (DataW H) → Nat
  | [] => 0
  | d :: r => uptoBulk d + uptoBulkAll r
def uptoBulkEntries {H : Type} : List (Lit × DataW H) → Nat
  | [] => 0
  | x :: r => uptoBulkEntry x + uptoBulkEntries r
def uptoBulkEntry {H : Type} : Lit × DataW H → Nat
  | (.string bytes, d) => bytes.length + uptoBulk d + 1
  | (_, d) => uptoBulk d + 1
 end
def uptoSmall : (H : Type) → List (DataW H) → Bool := fun _ ds => decide (uptoBulkAll ds ≤ 1048576)
def OpenSpec.upto (s : _root_.Go.ChangeSpec) : _root_.Go.OpenSpec := { _root_.Go.OpenSpec.ofChange s with cond := some uptoSmall }

/-- 'laws.FnCivilOfNone', WHERE WHAT IT READS IS OF BULK AT MOST 1048576: true; the input reads as it did. -/
def fnCivilOfNoneUptoRow : OpenClaim := { program := "ytoomkafhmennoab", sum := "7886c7957836a522e2d9192f2a1e3037596901d4cb6e3ed4a92c5629489efa76", func := "loop.example/satelliteclock/laws.FnCivilOfNone", spec := "fnCivilOfNone", apart := false, narrowed := true }
def FnCivilOfNoneUptoSaid : Prop := fnCivilOfNoneUptoRow.holds Try.pinned (OpenSpec.upto fnCivilOfNoneSpec)

/-- 'laws.FnSatelliteOf', WHERE WHAT IT READS IS OF BULK AT MOST 1048576: true; the input reads as it did. -/
def fnSatelliteOfUptoRow : OpenClaim := { program := "ytoomkafhmennoab", sum := "7886c7957836a522e2d9192f2a1e3037596901d4cb6e3ed4a92c5629489efa76", func := "loop.example/satelliteclock/laws.FnSatelliteOf", spec := "fnSatelliteOf", unfollowed := true, recurses := true, apart := false, narrowed := true }
def FnSatelliteOfUptoSaid : Prop := fnSatelliteOfUptoRow.holds Try.pinned (OpenSpec.upto fnSatelliteOfSpec)

/-- 'laws.FnSatelliteOfNext', WHERE WHAT IT READS IS OF BULK AT MOST 1048576: true; the input reads as it did. -/
def fnSatelliteOfNextUptoRow : OpenClaim := { program := "ytoomkafhmennoab", sum := "7886c7957836a522e2d9192f2a1e3037596901d4cb6e3ed4a92c5629489efa76", func := "loop.example/satelliteclock/laws.FnSatelliteOfNext", spec := "fnSatelliteOfNext", unfollowed := true, recurses := true, apart := false, narrowed := true }
def FnSatelliteOfNextUptoSaid : Prop := fnSatelliteOfNextUptoRow.holds Try.pinned (OpenSpec.upto fnSatelliteOfNextSpec)

/-- 'laws.FnNextLeap', WHERE WHAT IT READS IS OF BULK AT MOST 1048576: true; the input reads as it did. -/
def fnNextLeapUptoRow : OpenClaim := { program := "ytoomkafhmennoab", sum := "7886c7957836a522e2d9192f2a1e3037596901d4cb6e3ed4a92c5629489efa76", func := "loop.example/satelliteclock/laws.FnNextLeap", spec := "fnNextLeap", apart := false, narrowed := true }
def FnNextLeapUptoSaid : Prop := fnNextLeapUptoRow.holds Try.pinned (OpenSpec.upto fnNextLeapSpec)

/-- 'laws.FnNextLeapNone', WHERE WHAT IT READS IS OF BULK AT MOST 1048576: true; the input reads as it did. -/
def fnNextLeapNoneUptoRow : OpenClaim := { program := "ytoomkafhmennoab", sum := "7886c7957836a522e2d9192f2a1e3037596901d4cb6e3ed4a92c5629489efa76", func := "loop.example/satelliteclock/laws.FnNextLeapNone", spec := "fnNextLeapNone", apart := false, narrowed := true }
def FnNextLeapNoneUptoSaid : Prop := fnNextLeapNoneUptoRow.holds Try.pinned (OpenSpec.upto fnNextLeapNoneSpec)

/-- 'laws.FnFrameBodyChecksum', WHERE WHAT IT READS IS OF BULK AT MOST 1048576: true; the input reads as it did. -/
def fnFrameBodyChecksumUptoRow : OpenClaim := { program := "ytoomkafhmennoab", sum := "7886c7957836a522e2d9192f2a1e3037596901d4cb6e3ed4a92c5629489efa76", func := "loop.example/satelliteclock/laws.FnFrameBodyChecksum", spec := "fnFrameBodyChecksum", recurses := true, apart := false, narrowed := true }
def FnFrameBodyChecksumUptoSaid : Prop := fnFrameBodyChecksumUptoRow.holds Try.pinned (OpenSpec.upto fnFrameBodyChecksumSpec)

/-- 'laws.FnSplitFramesNoise', WHERE WHAT IT READS IS OF BULK AT MOST 1048576: true; the input reads as it did. -/
def fnSplitFramesNoiseUptoRow : OpenClaim := { program := "ytoomkafhmennoab", sum := "7886c7957836a522e2d9192f2a1e3037596901d4cb6e3ed4a92c5629489efa76", func := "loop.example/satelliteclock/laws.FnSplitFramesNoise", spec := "fnSplitFramesNoise", recurses := true, apart := false, narrowed := true }
def FnSplitFramesNoiseUptoSaid : Prop := fnSplitFramesNoiseUptoRow.holds Try.pinned (OpenSpec.upto fnSplitFramesNoiseSpec)

/-- 'laws.FnLeapsBeforeParts', WHERE WHAT IT READS IS OF BULK AT MOST 1048576: true; the input reads as it did. -/
def fnLeapsBeforePartsUptoRow : OpenClaim := { program := "ytoomkafhmennoab", sum := "7886c7957836a522e2d9192f2a1e3037596901d4cb6e3ed4a92c5629489efa76", func := "loop.example/satelliteclock/laws.FnLeapsBeforeParts", spec := "fnLeapsBeforeParts", apart := false, narrowed := true }
def FnLeapsBeforePartsUptoSaid : Prop := fnLeapsBeforePartsUptoRow.holds Try.pinned (OpenSpec.upto fnLeapsBeforePartsSpec)

/-- 'laws.FnCivilOfSatellite', WHERE WHAT IT READS IS OF BULK AT MOST 1048576: true; the input reads as it did. -/
def fnCivilOfSatelliteUptoRow : OpenClaim := { program := "ytoomkafhmennoab", sum := "7886c7957836a522e2d9192f2a1e3037596901d4cb6e3ed4a92c5629489efa76", func := "loop.example/satelliteclock/laws.FnCivilOfSatellite", spec := "fnCivilOfSatellite", unfollowed := true, recurses := true, apart := false, narrowed := true }
def FnCivilOfSatelliteUptoSaid : Prop := fnCivilOfSatelliteUptoRow.holds Try.pinned (OpenSpec.upto fnCivilOfSatelliteSpec)

/-- 'laws.FnIsLeapSecondCivil', WHERE WHAT IT READS IS OF BULK AT MOST 1048576: true; the input reads as it did. -/
def fnIsLeapSecondCivilUptoRow : OpenClaim := { program := "ytoomkafhmennoab", sum := "7886c7957836a522e2d9192f2a1e3037596901d4cb6e3ed4a92c5629489efa76", func := "loop.example/satelliteclock/laws.FnIsLeapSecondCivil", spec := "fnIsLeapSecondCivil", apart := false, narrowed := true }
def FnIsLeapSecondCivilUptoSaid : Prop := fnIsLeapSecondCivilUptoRow.holds Try.pinned (OpenSpec.upto fnIsLeapSecondCivilSpec)

/-- 'laws.FnExactChecksumOf', WHERE WHAT IT READS IS OF BULK AT MOST 1048576: true; the input reads as it did. -/
def fnExactChecksumOfUptoRow : OpenClaim := { program := "ytoomkafhmennoab", sum := "7886c7957836a522e2d9192f2a1e3037596901d4cb6e3ed4a92c5629489efa76", func := "loop.example/satelliteclock/laws.FnExactChecksumOf", spec := "fnExactChecksumOf", apart := false, narrowed := true }
def FnExactChecksumOfUptoSaid : Prop := fnExactChecksumOfUptoRow.holds Try.pinned (OpenSpec.upto fnExactChecksumOfSpec)

/-- 'laws.FnExactFrameBody', WHERE WHAT IT READS IS OF BULK AT MOST 1048576: true; the input reads as it did. -/
def fnExactFrameBodyUptoRow : OpenClaim := { program := "ytoomkafhmennoab", sum := "7886c7957836a522e2d9192f2a1e3037596901d4cb6e3ed4a92c5629489efa76", func := "loop.example/satelliteclock/laws.FnExactFrameBody", spec := "fnExactFrameBody", apart := false, narrowed := true }
def FnExactFrameBodyUptoSaid : Prop := fnExactFrameBodyUptoRow.holds Try.pinned (OpenSpec.upto fnExactFrameBodySpec)

end Rows
end Go.Proofs.Ytoomkafhmennoab
