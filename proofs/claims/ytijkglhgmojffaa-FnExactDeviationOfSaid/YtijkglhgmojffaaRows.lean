/-
  No cell of these rows narrows 'for every input' (looked for: loops, veiled, ifaces, maps, wideKeys, modest, calm, conditions, laid).
  DERIVED. THE GIVEN ROWS OF THIS SEAT. 10 by the template 'for every input the law returns true; each argument reads behind the call as it read before'; 0 by the template 'total and deterministic' (their statements: YtijkglhgmojffaaTotals.lean).
  GIVEN WITH THE SEED: the statements are not yours to turn. If you find one false, say at which input.
  Laid BY PROGRAM, IN A SANDBOX (cutbox-rows.mjs): the forced cells as the released guide's own fill.sh prints them over the translation 1ff57136ee12cc4c… (all of the seat's roots in one cut). By AI agents, Wed Nov 11 2026. No macro, syntax, notation, axiom, sorry.
-/
import Derived.Test.YtijkglhgmojffaaChecked
import GoSem.Claim
import GoSem.ClaimJoined
import GoSem.ClaimMapViews
import Derived.JoinedTies
import Derived.KernelRfl
namespace Go.Proofs.Ytijkglhgmojffaa
/- THE CELL 'sum', in the pinned program and in every row, IS THE sha256 OF THE DUMP (.gsa) THAT YtijkglhgmojffaaProg.lean LOADS. Nothing in Lean hashes anything: it is a label: what it is worth is what the hold of that sum in a sandbox is worth. -/
noncomputable def Try.pinned : Pinned := { name := "ytijkglhgmojffaa", sum := "1ff57136ee12cc4c71fcdebcd3735a867eec043b62e1349ca10451b7cb3efa88", checked := Try.checked }
namespace Rows
def none {H : Type} : Left H := { results := [], args := [] }

/-- 'laws.FnSecondDiffs': WHATEVER THE INPUT: true; the input reads as it did. -/
def fnSecondDiffsSpec : ChangeSpec := { name := "fnSecondDiffs", fn := fun _ => fun
  | [d] => { results := [.lit (.bool true)], args := [d] }
  | _ => none }
def fnSecondDiffsRow : OpenClaim := { program := "ytijkglhgmojffaa", sum := "1ff57136ee12cc4c71fcdebcd3735a867eec043b62e1349ca10451b7cb3efa88", func := "loop.example/satelliteclock/laws.FnSecondDiffs", spec := "fnSecondDiffs", unfollowed := true, recurses := true, apart := false }
def FnSecondDiffsSaid : Prop := fnSecondDiffsRow.holds Try.pinned (OpenSpec.ofChange fnSecondDiffsSpec)

/-- ITS FALSE NEIGHBOUR: 'it returns false'. Refute it at one input. -/
def fnSecondDiffsWrong : ChangeSpec := { name := "fnSecondDiffs", fn := fun _ => fun
  | [d] => { results := [.lit (.bool false)], args := [d] }
  | _ => none }
def FnSecondDiffsWrongFalsely : Prop := fnSecondDiffsRow.holds Try.pinned (OpenSpec.ofChange fnSecondDiffsWrong)

/-- 'laws.FnSecondDiffsLine': WHATEVER THE INPUT: true; the input reads as it did. -/
def fnSecondDiffsLineSpec : ChangeSpec := { name := "fnSecondDiffsLine", fn := fun _ => fun
  | [d] => { results := [.lit (.bool true)], args := [d] }
  | _ => none }
def fnSecondDiffsLineRow : OpenClaim := { program := "ytijkglhgmojffaa", sum := "1ff57136ee12cc4c71fcdebcd3735a867eec043b62e1349ca10451b7cb3efa88", func := "loop.example/satelliteclock/laws.FnSecondDiffsLine", spec := "fnSecondDiffsLine", unfollowed := true, recurses := true, apart := false }
def FnSecondDiffsLineSaid : Prop := fnSecondDiffsLineRow.holds Try.pinned (OpenSpec.ofChange fnSecondDiffsLineSpec)

/-- ITS FALSE NEIGHBOUR: 'it returns false'. Refute it at one input. -/
def fnSecondDiffsLineWrong : ChangeSpec := { name := "fnSecondDiffsLine", fn := fun _ => fun
  | [d] => { results := [.lit (.bool false)], args := [d] }
  | _ => none }
def FnSecondDiffsLineWrongFalsely : Prop := fnSecondDiffsLineRow.holds Try.pinned (OpenSpec.ofChange fnSecondDiffsLineWrong)

/-- 'laws.FnSecondDiffsTurn': WHATEVER THE INPUT: true; the input reads as it did. -/
def fnSecondDiffsTurnSpec : ChangeSpec := { name := "fnSecondDiffsTurn", fn := fun _ => fun
  | [d] => { results := [.lit (.bool true)], args := [d] }
  | _ => none }
def fnSecondDiffsTurnRow : OpenClaim := { program := "ytijkglhgmojffaa", sum := "1ff57136ee12cc4c71fcdebcd3735a867eec043b62e1349ca10451b7cb3efa88", func := "loop.example/satelliteclock/laws.FnSecondDiffsTurn", spec := "fnSecondDiffsTurn", unfollowed := true, recurses := true, apart := false }
def FnSecondDiffsTurnSaid : Prop := fnSecondDiffsTurnRow.holds Try.pinned (OpenSpec.ofChange fnSecondDiffsTurnSpec)

/-- ITS FALSE NEIGHBOUR: 'it returns false'. Refute it at one input. -/
def fnSecondDiffsTurnWrong : ChangeSpec := { name := "fnSecondDiffsTurn", fn := fun _ => fun
  | [d] => { results := [.lit (.bool false)], args := [d] }
  | _ => none }
def FnSecondDiffsTurnWrongFalsely : Prop := fnSecondDiffsTurnRow.holds Try.pinned (OpenSpec.ofChange fnSecondDiffsTurnWrong)

/-- 'laws.FnDeviationOf': WHATEVER THE INPUT: true; the input reads as it did. -/
def fnDeviationOfSpec : ChangeSpec := { name := "fnDeviationOf", fn := fun _ => fun
  | [d] => { results := [.lit (.bool true)], args := [d] }
  | _ => none }
def fnDeviationOfRow : OpenClaim := { program := "ytijkglhgmojffaa", sum := "1ff57136ee12cc4c71fcdebcd3735a867eec043b62e1349ca10451b7cb3efa88", func := "loop.example/satelliteclock/laws.FnDeviationOf", spec := "fnDeviationOf", unfollowed := true, recurses := true, apart := false }
def FnDeviationOfSaid : Prop := fnDeviationOfRow.holds Try.pinned (OpenSpec.ofChange fnDeviationOfSpec)

/-- ITS FALSE NEIGHBOUR: 'it returns false'. Refute it at one input. -/
def fnDeviationOfWrong : ChangeSpec := { name := "fnDeviationOf", fn := fun _ => fun
  | [d] => { results := [.lit (.bool false)], args := [d] }
  | _ => none }
def FnDeviationOfWrongFalsely : Prop := fnDeviationOfRow.holds Try.pinned (OpenSpec.ofChange fnDeviationOfWrong)

/-- 'laws.FnDeviationOfMean': WHATEVER THE INPUT: true; the input reads as it did. -/
def fnDeviationOfMeanSpec : ChangeSpec := { name := "fnDeviationOfMean", fn := fun _ => fun
  | [d] => { results := [.lit (.bool true)], args := [d] }
  | _ => none }
def fnDeviationOfMeanRow : OpenClaim := { program := "ytijkglhgmojffaa", sum := "1ff57136ee12cc4c71fcdebcd3735a867eec043b62e1349ca10451b7cb3efa88", func := "loop.example/satelliteclock/laws.FnDeviationOfMean", spec := "fnDeviationOfMean", unfollowed := true, recurses := true, apart := false }
def FnDeviationOfMeanSaid : Prop := fnDeviationOfMeanRow.holds Try.pinned (OpenSpec.ofChange fnDeviationOfMeanSpec)

/-- ITS FALSE NEIGHBOUR: 'it returns false'. Refute it at one input. -/
def fnDeviationOfMeanWrong : ChangeSpec := { name := "fnDeviationOfMean", fn := fun _ => fun
  | [d] => { results := [.lit (.bool false)], args := [d] }
  | _ => none }
def FnDeviationOfMeanWrongFalsely : Prop := fnDeviationOfMeanRow.holds Try.pinned (OpenSpec.ofChange fnDeviationOfMeanWrong)

/-- 'laws.FnBestStep': WHATEVER THE INPUT: true; the input reads as it did. -/
def fnBestStepSpec : ChangeSpec := { name := "fnBestStep", fn := fun _ => fun
  | [d] => { results := [.lit (.bool true)], args := [d] }
  | _ => none }
def fnBestStepRow : OpenClaim := { program := "ytijkglhgmojffaa", sum := "1ff57136ee12cc4c71fcdebcd3735a867eec043b62e1349ca10451b7cb3efa88", func := "loop.example/satelliteclock/laws.FnBestStep", spec := "fnBestStep", unfollowed := true, recurses := true, apart := false }
def FnBestStepSaid : Prop := fnBestStepRow.holds Try.pinned (OpenSpec.ofChange fnBestStepSpec)

/-- ITS FALSE NEIGHBOUR: 'it returns false'. Refute it at one input. -/
def fnBestStepWrong : ChangeSpec := { name := "fnBestStep", fn := fun _ => fun
  | [d] => { results := [.lit (.bool false)], args := [d] }
  | _ => none }
def FnBestStepWrongFalsely : Prop := fnBestStepRow.holds Try.pinned (OpenSpec.ofChange fnBestStepWrong)

/-- 'laws.FnBestStepNone': WHATEVER THE INPUT: true; the input reads as it did. -/
def fnBestStepNoneSpec : ChangeSpec := { name := "fnBestStepNone", fn := fun _ => fun
  | [d] => { results := [.lit (.bool true)], args := [d] }
  | _ => none }
def fnBestStepNoneRow : OpenClaim := { program := "ytijkglhgmojffaa", sum := "1ff57136ee12cc4c71fcdebcd3735a867eec043b62e1349ca10451b7cb3efa88", func := "loop.example/satelliteclock/laws.FnBestStepNone", spec := "fnBestStepNone", unfollowed := true, recurses := true, apart := false }
def FnBestStepNoneSaid : Prop := fnBestStepNoneRow.holds Try.pinned (OpenSpec.ofChange fnBestStepNoneSpec)

/-- ITS FALSE NEIGHBOUR: 'it returns false'. Refute it at one input. -/
def fnBestStepNoneWrong : ChangeSpec := { name := "fnBestStepNone", fn := fun _ => fun
  | [d] => { results := [.lit (.bool false)], args := [d] }
  | _ => none }
def FnBestStepNoneWrongFalsely : Prop := fnBestStepNoneRow.holds Try.pinned (OpenSpec.ofChange fnBestStepNoneWrong)

/-- 'laws.FnExactSecondDiffs': WHATEVER THE INPUT: true; the input reads as it did. -/
def fnExactSecondDiffsSpec : ChangeSpec := { name := "fnExactSecondDiffs", fn := fun _ => fun
  | [d1, d2] => { results := [.lit (.bool true)], args := [d1, d2] }
  | _ => none }
def fnExactSecondDiffsRow : OpenClaim := { program := "ytijkglhgmojffaa", sum := "1ff57136ee12cc4c71fcdebcd3735a867eec043b62e1349ca10451b7cb3efa88", func := "loop.example/satelliteclock/laws.FnExactSecondDiffs", spec := "fnExactSecondDiffs", unfollowed := true, recurses := true, apart := false }
def FnExactSecondDiffsSaid : Prop := fnExactSecondDiffsRow.holds Try.pinned (OpenSpec.ofChange fnExactSecondDiffsSpec)

/-- ITS FALSE NEIGHBOUR: 'it returns false'. Refute it at one input. -/
def fnExactSecondDiffsWrong : ChangeSpec := { name := "fnExactSecondDiffs", fn := fun _ => fun
  | [d1, d2] => { results := [.lit (.bool false)], args := [d1, d2] }
  | _ => none }
def FnExactSecondDiffsWrongFalsely : Prop := fnExactSecondDiffsRow.holds Try.pinned (OpenSpec.ofChange fnExactSecondDiffsWrong)

/-- 'laws.FnExactDeviationOf': WHATEVER THE INPUT: true; the input reads as it did. -/
def fnExactDeviationOfSpec : ChangeSpec := { name := "fnExactDeviationOf", fn := fun _ => fun
  | [d1, d2] => { results := [.lit (.bool true)], args := [d1, d2] }
  | _ => none }
def fnExactDeviationOfRow : OpenClaim := { program := "ytijkglhgmojffaa", sum := "1ff57136ee12cc4c71fcdebcd3735a867eec043b62e1349ca10451b7cb3efa88", func := "loop.example/satelliteclock/laws.FnExactDeviationOf", spec := "fnExactDeviationOf", unfollowed := true, recurses := true, apart := false }
def FnExactDeviationOfSaid : Prop := fnExactDeviationOfRow.holds Try.pinned (OpenSpec.ofChange fnExactDeviationOfSpec)

/-- ITS FALSE NEIGHBOUR: 'it returns false'. Refute it at one input. -/
def fnExactDeviationOfWrong : ChangeSpec := { name := "fnExactDeviationOf", fn := fun _ => fun
  | [d1, d2] => { results := [.lit (.bool false)], args := [d1, d2] }
  | _ => none }
def FnExactDeviationOfWrongFalsely : Prop := fnExactDeviationOfRow.holds Try.pinned (OpenSpec.ofChange fnExactDeviationOfWrong)

/-- 'laws.FnExactBestStep': WHATEVER THE INPUT: true; the input reads as it did. -/
def fnExactBestStepSpec : ChangeSpec := { name := "fnExactBestStep", fn := fun _ => fun
  | [d] => { results := [.lit (.bool true)], args := [d] }
  | _ => none }
def fnExactBestStepRow : OpenClaim := { program := "ytijkglhgmojffaa", sum := "1ff57136ee12cc4c71fcdebcd3735a867eec043b62e1349ca10451b7cb3efa88", func := "loop.example/satelliteclock/laws.FnExactBestStep", spec := "fnExactBestStep", unfollowed := true, recurses := true, apart := false }
def FnExactBestStepSaid : Prop := fnExactBestStepRow.holds Try.pinned (OpenSpec.ofChange fnExactBestStepSpec)

/-- ITS FALSE NEIGHBOUR: 'it returns false'. Refute it at one input. -/
def fnExactBestStepWrong : ChangeSpec := { name := "fnExactBestStep", fn := fun _ => fun
  | [d] => { results := [.lit (.bool false)], args := [d] }
  | _ => none }
def FnExactBestStepWrongFalsely : Prop := fnExactBestStepRow.holds Try.pinned (OpenSpec.ofChange fnExactBestStepWrong)

/- THE SECOND FORM. 'bulk': how many values and letters a reading holds, each counted each time it is reached (what is shared counts as often as it is met; a slice's spare places count too). A statement '..UptoSaid' is the law's where the arguments, and the package variables that the reading takes, are together of bulk at most 1048576: NARROWER than '..Said'. Prove '..Said' where nothing that the law and all that it calls make is longer than what came in: it says more and counts as full. Else prove '..UptoSaid'. A law counts once. -/
mutual
def uptoBulk {H : Type} : DataW H → Nat
  | .lit (.string bytes) => bytes.length + 1
  | .lit _ => 1
  | .nil => 1
  | .ptr d => uptoBulk d + 1
  | .slice elems spare => uptoBulkAll elems + uptoBulkAll spare + 1
  | .agg parts => uptoBulkAll parts + 1
  | .iface _ d => uptoBulk d + 1
  | .map entries => uptoBulkEntries entries + 1
  | .held _ => 1
def uptoBulkAll {H : Type} : List (DataW H) → Nat
  | [] => 0
  | d :: r => uptoBulk d + uptoBulkAll r
def uptoBulkEntries {H : Type} : List (Lit × DataW H) → Nat
  | [] => 0
  | x :: r => uptoBulkEntry x + uptoBulkEntries r
def uptoBulkEntry {H : Type} : Lit × DataW H → Nat
  | (.string bytes, d) => bytes.length + uptoBulk d + 1
  | (_, d) => uptoBulk d + 1
 end
def uptoSmall : (H : Type) → List (DataW H) → Bool := fun _ ds => decide (uptoBulkAll ds ≤ 1048576)
def OpenSpec.upto (s : _root_.Go.ChangeSpec) : _root_.Go.OpenSpec := { _root_.Go.OpenSpec.ofChange s with cond := some uptoSmall }

/-- 'laws.FnSecondDiffs', WHERE WHAT IT READS IS OF BULK AT MOST 1048576: true; the input reads as it did. -/
def fnSecondDiffsUptoRow : OpenClaim := { program := "ytijkglhgmojffaa", sum := "1ff57136ee12cc4c71fcdebcd3735a867eec043b62e1349ca10451b7cb3efa88", func := "loop.example/satelliteclock/laws.FnSecondDiffs", spec := "fnSecondDiffs", unfollowed := true, recurses := true, apart := false, narrowed := true }
def FnSecondDiffsUptoSaid : Prop := fnSecondDiffsUptoRow.holds Try.pinned (OpenSpec.upto fnSecondDiffsSpec)

/-- 'laws.FnSecondDiffsLine', WHERE WHAT IT READS IS OF BULK AT MOST 1048576: true; the input reads as it did. -/
def fnSecondDiffsLineUptoRow : OpenClaim := { program := "ytijkglhgmojffaa", sum := "1ff57136ee12cc4c71fcdebcd3735a867eec043b62e1349ca10451b7cb3efa88", func := "loop.example/satelliteclock/laws.FnSecondDiffsLine", spec := "fnSecondDiffsLine", unfollowed := true, recurses := true, apart := false, narrowed := true }
def FnSecondDiffsLineUptoSaid : Prop := fnSecondDiffsLineUptoRow.holds Try.pinned (OpenSpec.upto fnSecondDiffsLineSpec)

/-- 'laws.FnSecondDiffsTurn', WHERE WHAT IT READS IS OF BULK AT MOST 1048576: true; the input reads as it did. -/
def fnSecondDiffsTurnUptoRow : OpenClaim := { program := "ytijkglhgmojffaa", sum := "1ff57136ee12cc4c71fcdebcd3735a867eec043b62e1349ca10451b7cb3efa88", func := "loop.example/satelliteclock/laws.FnSecondDiffsTurn", spec := "fnSecondDiffsTurn", unfollowed := true, recurses := true, apart := false, narrowed := true }
def FnSecondDiffsTurnUptoSaid : Prop := fnSecondDiffsTurnUptoRow.holds Try.pinned (OpenSpec.upto fnSecondDiffsTurnSpec)

/-- 'laws.FnDeviationOf', WHERE WHAT IT READS IS OF BULK AT MOST 1048576: true; the input reads as it did. -/
def fnDeviationOfUptoRow : OpenClaim := { program := "ytijkglhgmojffaa", sum := "1ff57136ee12cc4c71fcdebcd3735a867eec043b62e1349ca10451b7cb3efa88", func := "loop.example/satelliteclock/laws.FnDeviationOf", spec := "fnDeviationOf", unfollowed := true, recurses := true, apart := false, narrowed := true }
def FnDeviationOfUptoSaid : Prop := fnDeviationOfUptoRow.holds Try.pinned (OpenSpec.upto fnDeviationOfSpec)

/-- 'laws.FnDeviationOfMean', WHERE WHAT IT READS IS OF BULK AT MOST 1048576: true; the input reads as it did. -/
def fnDeviationOfMeanUptoRow : OpenClaim := { program := "ytijkglhgmojffaa", sum := "1ff57136ee12cc4c71fcdebcd3735a867eec043b62e1349ca10451b7cb3efa88", func := "loop.example/satelliteclock/laws.FnDeviationOfMean", spec := "fnDeviationOfMean", unfollowed := true, recurses := true, apart := false, narrowed := true }
def FnDeviationOfMeanUptoSaid : Prop := fnDeviationOfMeanUptoRow.holds Try.pinned (OpenSpec.upto fnDeviationOfMeanSpec)

/-- 'laws.FnBestStep', WHERE WHAT IT READS IS OF BULK AT MOST 1048576: true; the input reads as it did. -/
def fnBestStepUptoRow : OpenClaim := { program := "ytijkglhgmojffaa", sum := "1ff57136ee12cc4c71fcdebcd3735a867eec043b62e1349ca10451b7cb3efa88", func := "loop.example/satelliteclock/laws.FnBestStep", spec := "fnBestStep", unfollowed := true, recurses := true, apart := false, narrowed := true }
def FnBestStepUptoSaid : Prop := fnBestStepUptoRow.holds Try.pinned (OpenSpec.upto fnBestStepSpec)

/-- 'laws.FnBestStepNone', WHERE WHAT IT READS IS OF BULK AT MOST 1048576: true; the input reads as it did. -/
def fnBestStepNoneUptoRow : OpenClaim := { program := "ytijkglhgmojffaa", sum := "1ff57136ee12cc4c71fcdebcd3735a867eec043b62e1349ca10451b7cb3efa88", func := "loop.example/satelliteclock/laws.FnBestStepNone", spec := "fnBestStepNone", unfollowed := true, recurses := true, apart := false, narrowed := true }
def FnBestStepNoneUptoSaid : Prop := fnBestStepNoneUptoRow.holds Try.pinned (OpenSpec.upto fnBestStepNoneSpec)

/-- 'laws.FnExactSecondDiffs', WHERE WHAT IT READS IS OF BULK AT MOST 1048576: true; the input reads as it did. -/
def fnExactSecondDiffsUptoRow : OpenClaim := { program := "ytijkglhgmojffaa", sum := "1ff57136ee12cc4c71fcdebcd3735a867eec043b62e1349ca10451b7cb3efa88", func := "loop.example/satelliteclock/laws.FnExactSecondDiffs", spec := "fnExactSecondDiffs", unfollowed := true, recurses := true, apart := false, narrowed := true }
def FnExactSecondDiffsUptoSaid : Prop := fnExactSecondDiffsUptoRow.holds Try.pinned (OpenSpec.upto fnExactSecondDiffsSpec)

/-- 'laws.FnExactDeviationOf', WHERE WHAT IT READS IS OF BULK AT MOST 1048576: true; the input reads as it did. -/
def fnExactDeviationOfUptoRow : OpenClaim := { program := "ytijkglhgmojffaa", sum := "1ff57136ee12cc4c71fcdebcd3735a867eec043b62e1349ca10451b7cb3efa88", func := "loop.example/satelliteclock/laws.FnExactDeviationOf", spec := "fnExactDeviationOf", unfollowed := true, recurses := true, apart := false, narrowed := true }
def FnExactDeviationOfUptoSaid : Prop := fnExactDeviationOfUptoRow.holds Try.pinned (OpenSpec.upto fnExactDeviationOfSpec)

/-- 'laws.FnExactBestStep', WHERE WHAT IT READS IS OF BULK AT MOST 1048576: true; the input reads as it did. -/
def fnExactBestStepUptoRow : OpenClaim := { program := "ytijkglhgmojffaa", sum := "1ff57136ee12cc4c71fcdebcd3735a867eec043b62e1349ca10451b7cb3efa88", func := "loop.example/satelliteclock/laws.FnExactBestStep", spec := "fnExactBestStep", unfollowed := true, recurses := true, apart := false, narrowed := true }
def FnExactBestStepUptoSaid : Prop := fnExactBestStepUptoRow.holds Try.pinned (OpenSpec.upto fnExactBestStepSpec)

end Rows
end Go.Proofs.Ytijkglhgmojffaa
