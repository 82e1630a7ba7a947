/-
  No cell of these rows narrows 'for every input' (looked for: loops, veiled, ifaces, maps, wideKeys, modest, calm, conditions, laid).
  DERIVED. THE GIVEN ROWS OF THIS SEAT. 9 by the template 'for every input the law returns true; each argument reads behind the call as it read before'; 0 by the template 'total and deterministic' (their statements: YtoaldklkacmflaaTotals.lean).
  GIVEN WITH THE SEED: the statements are not yours to turn. If you find one false, say at which input.
  Laid BY PROGRAM, IN A SANDBOX (cutbox-rows.mjs): the forced cells as the released guide's own fill.sh prints them over the translation 580bf42480d14575… (all of the seat's roots in one cut). By AI agents, Wed Nov 11 2026. No macro, syntax, notation, axiom, sorry.
-/
import Derived.Test.YtoaldklkacmflaaChecked
import GoSem.Claim
import GoSem.ClaimJoined
import GoSem.ClaimMapViews
import Derived.JoinedTies
import Derived.KernelRfl
namespace Go.Proofs.Ytoaldklkacmflaa
/- THE CELL 'sum', in the pinned program and in every row, IS THE sha256 OF THE DUMP (.gsa) THAT YtoaldklkacmflaaProg.lean LOADS. Nothing in Lean hashes anything: it is a label: what it is worth is what the hold of that sum in a sandbox is worth. -/
noncomputable def Try.pinned : Pinned := { name := "ytoaldklkacmflaa", sum := "580bf42480d14575104de5ed0ccae6f0e8598d7bc52248c83b92ecf76b66c65b", checked := Try.checked }
namespace Rows
def none {H : Type} : Left H := { results := [], args := [] }

/-- 'laws.FnOffsetOf': WHATEVER THE INPUT: true; the input reads as it did. -/
def fnOffsetOfSpec : ChangeSpec := { name := "fnOffsetOf", fn := fun _ => fun
  | [d] => { results := [.lit (.bool true)], args := [d] }
  | _ => none }
def fnOffsetOfRow : OpenClaim := { program := "ytoaldklkacmflaa", sum := "580bf42480d14575104de5ed0ccae6f0e8598d7bc52248c83b92ecf76b66c65b", func := "loop.example/satelliteclock/laws.FnOffsetOf", spec := "fnOffsetOf", apart := false }
def FnOffsetOfSaid : Prop := fnOffsetOfRow.holds Try.pinned (OpenSpec.ofChange fnOffsetOfSpec)

/-- ITS FALSE NEIGHBOUR: 'it returns false'. Refute it at one input. -/
def fnOffsetOfWrong : ChangeSpec := { name := "fnOffsetOf", fn := fun _ => fun
  | [d] => { results := [.lit (.bool false)], args := [d] }
  | _ => none }
def FnOffsetOfWrongFalsely : Prop := fnOffsetOfRow.holds Try.pinned (OpenSpec.ofChange fnOffsetOfWrong)

/-- 'laws.FnOffsetOfShift': WHATEVER THE INPUT: true; the input reads as it did. -/
def fnOffsetOfShiftSpec : ChangeSpec := { name := "fnOffsetOfShift", fn := fun _ => fun
  | [d] => { results := [.lit (.bool true)], args := [d] }
  | _ => none }
def fnOffsetOfShiftRow : OpenClaim := { program := "ytoaldklkacmflaa", sum := "580bf42480d14575104de5ed0ccae6f0e8598d7bc52248c83b92ecf76b66c65b", func := "loop.example/satelliteclock/laws.FnOffsetOfShift", spec := "fnOffsetOfShift", apart := false }
def FnOffsetOfShiftSaid : Prop := fnOffsetOfShiftRow.holds Try.pinned (OpenSpec.ofChange fnOffsetOfShiftSpec)

/-- ITS FALSE NEIGHBOUR: 'it returns false'. Refute it at one input. -/
def fnOffsetOfShiftWrong : ChangeSpec := { name := "fnOffsetOfShift", fn := fun _ => fun
  | [d] => { results := [.lit (.bool false)], args := [d] }
  | _ => none }
def FnOffsetOfShiftWrongFalsely : Prop := fnOffsetOfShiftRow.holds Try.pinned (OpenSpec.ofChange fnOffsetOfShiftWrong)

/-- 'laws.FnDelayOf': WHATEVER THE INPUT: true; the input reads as it did. -/
def fnDelayOfSpec : ChangeSpec := { name := "fnDelayOf", fn := fun _ => fun
  | [d] => { results := [.lit (.bool true)], args := [d] }
  | _ => none }
def fnDelayOfRow : OpenClaim := { program := "ytoaldklkacmflaa", sum := "580bf42480d14575104de5ed0ccae6f0e8598d7bc52248c83b92ecf76b66c65b", func := "loop.example/satelliteclock/laws.FnDelayOf", spec := "fnDelayOf", apart := false }
def FnDelayOfSaid : Prop := fnDelayOfRow.holds Try.pinned (OpenSpec.ofChange fnDelayOfSpec)

/-- ITS FALSE NEIGHBOUR: 'it returns false'. Refute it at one input. -/
def fnDelayOfWrong : ChangeSpec := { name := "fnDelayOf", fn := fun _ => fun
  | [d] => { results := [.lit (.bool false)], args := [d] }
  | _ => none }
def FnDelayOfWrongFalsely : Prop := fnDelayOfRow.holds Try.pinned (OpenSpec.ofChange fnDelayOfWrong)

/-- 'laws.FnSpanOf': WHATEVER THE INPUT: true; the input reads as it did. -/
def fnSpanOfSpec : ChangeSpec := { name := "fnSpanOf", fn := fun _ => fun
  | [d] => { results := [.lit (.bool true)], args := [d] }
  | _ => none }
def fnSpanOfRow : OpenClaim := { program := "ytoaldklkacmflaa", sum := "580bf42480d14575104de5ed0ccae6f0e8598d7bc52248c83b92ecf76b66c65b", func := "loop.example/satelliteclock/laws.FnSpanOf", spec := "fnSpanOf", apart := false }
def FnSpanOfSaid : Prop := fnSpanOfRow.holds Try.pinned (OpenSpec.ofChange fnSpanOfSpec)

/-- ITS FALSE NEIGHBOUR: 'it returns false'. Refute it at one input. -/
def fnSpanOfWrong : ChangeSpec := { name := "fnSpanOf", fn := fun _ => fun
  | [d] => { results := [.lit (.bool false)], args := [d] }
  | _ => none }
def FnSpanOfWrongFalsely : Prop := fnSpanOfRow.holds Try.pinned (OpenSpec.ofChange fnSpanOfWrong)

/-- 'laws.FnSpanOfVote': WHATEVER THE INPUT: true; the input reads as it did. -/
def fnSpanOfVoteSpec : ChangeSpec := { name := "fnSpanOfVote", fn := fun _ => fun
  | [d] => { results := [.lit (.bool true)], args := [d] }
  | _ => none }
def fnSpanOfVoteRow : OpenClaim := { program := "ytoaldklkacmflaa", sum := "580bf42480d14575104de5ed0ccae6f0e8598d7bc52248c83b92ecf76b66c65b", func := "loop.example/satelliteclock/laws.FnSpanOfVote", spec := "fnSpanOfVote", unfollowed := true, recurses := true, apart := false }
def FnSpanOfVoteSaid : Prop := fnSpanOfVoteRow.holds Try.pinned (OpenSpec.ofChange fnSpanOfVoteSpec)

/-- ITS FALSE NEIGHBOUR: 'it returns false'. Refute it at one input. -/
def fnSpanOfVoteWrong : ChangeSpec := { name := "fnSpanOfVote", fn := fun _ => fun
  | [d] => { results := [.lit (.bool false)], args := [d] }
  | _ => none }
def FnSpanOfVoteWrongFalsely : Prop := fnSpanOfVoteRow.holds Try.pinned (OpenSpec.ofChange fnSpanOfVoteWrong)

/-- 'laws.FnSpanOfWide': WHATEVER THE INPUT: true; the input reads as it did. -/
def fnSpanOfWideSpec : ChangeSpec := { name := "fnSpanOfWide", fn := fun _ => fun
  | [d] => { results := [.lit (.bool true)], args := [d] }
  | _ => none }
def fnSpanOfWideRow : OpenClaim := { program := "ytoaldklkacmflaa", sum := "580bf42480d14575104de5ed0ccae6f0e8598d7bc52248c83b92ecf76b66c65b", func := "loop.example/satelliteclock/laws.FnSpanOfWide", spec := "fnSpanOfWide", apart := false }
def FnSpanOfWideSaid : Prop := fnSpanOfWideRow.holds Try.pinned (OpenSpec.ofChange fnSpanOfWideSpec)

/-- ITS FALSE NEIGHBOUR: 'it returns false'. Refute it at one input. -/
def fnSpanOfWideWrong : ChangeSpec := { name := "fnSpanOfWide", fn := fun _ => fun
  | [d] => { results := [.lit (.bool false)], args := [d] }
  | _ => none }
def FnSpanOfWideWrongFalsely : Prop := fnSpanOfWideRow.holds Try.pinned (OpenSpec.ofChange fnSpanOfWideWrong)

/-- 'laws.FnExactOffsetOf': WHATEVER THE INPUT: true; the input reads as it did. -/
def fnExactOffsetOfSpec : ChangeSpec := { name := "fnExactOffsetOf", fn := fun _ => fun
  | [d] => { results := [.lit (.bool true)], args := [d] }
  | _ => none }
def fnExactOffsetOfRow : OpenClaim := { program := "ytoaldklkacmflaa", sum := "580bf42480d14575104de5ed0ccae6f0e8598d7bc52248c83b92ecf76b66c65b", func := "loop.example/satelliteclock/laws.FnExactOffsetOf", spec := "fnExactOffsetOf", apart := false }
def FnExactOffsetOfSaid : Prop := fnExactOffsetOfRow.holds Try.pinned (OpenSpec.ofChange fnExactOffsetOfSpec)

/-- ITS FALSE NEIGHBOUR: 'it returns false'. Refute it at one input. -/
def fnExactOffsetOfWrong : ChangeSpec := { name := "fnExactOffsetOf", fn := fun _ => fun
  | [d] => { results := [.lit (.bool false)], args := [d] }
  | _ => none }
def FnExactOffsetOfWrongFalsely : Prop := fnExactOffsetOfRow.holds Try.pinned (OpenSpec.ofChange fnExactOffsetOfWrong)

/-- 'laws.FnExactDelayOf': WHATEVER THE INPUT: true; the input reads as it did. -/
def fnExactDelayOfSpec : ChangeSpec := { name := "fnExactDelayOf", fn := fun _ => fun
  | [d] => { results := [.lit (.bool true)], args := [d] }
  | _ => none }
def fnExactDelayOfRow : OpenClaim := { program := "ytoaldklkacmflaa", sum := "580bf42480d14575104de5ed0ccae6f0e8598d7bc52248c83b92ecf76b66c65b", func := "loop.example/satelliteclock/laws.FnExactDelayOf", spec := "fnExactDelayOf", apart := false }
def FnExactDelayOfSaid : Prop := fnExactDelayOfRow.holds Try.pinned (OpenSpec.ofChange fnExactDelayOfSpec)

/-- ITS FALSE NEIGHBOUR: 'it returns false'. Refute it at one input. -/
def fnExactDelayOfWrong : ChangeSpec := { name := "fnExactDelayOf", fn := fun _ => fun
  | [d] => { results := [.lit (.bool false)], args := [d] }
  | _ => none }
def FnExactDelayOfWrongFalsely : Prop := fnExactDelayOfRow.holds Try.pinned (OpenSpec.ofChange fnExactDelayOfWrong)

/-- 'laws.FnExactSpanOf': WHATEVER THE INPUT: true; the input reads as it did. -/
def fnExactSpanOfSpec : ChangeSpec := { name := "fnExactSpanOf", fn := fun _ => fun
  | [d] => { results := [.lit (.bool true)], args := [d] }
  | _ => none }
def fnExactSpanOfRow : OpenClaim := { program := "ytoaldklkacmflaa", sum := "580bf42480d14575104de5ed0ccae6f0e8598d7bc52248c83b92ecf76b66c65b", func := "loop.example/satelliteclock/laws.FnExactSpanOf", spec := "fnExactSpanOf", apart := false }
def FnExactSpanOfSaid : Prop := fnExactSpanOfRow.holds Try.pinned (OpenSpec.ofChange fnExactSpanOfSpec)

/-- ITS FALSE NEIGHBOUR: 'it returns false'. Refute it at one input. -/
def fnExactSpanOfWrong : ChangeSpec := { name := "fnExactSpanOf", fn := fun _ => fun
  | [d] => { results := [.lit (.bool false)], args := [d] }
  | _ => none }
def FnExactSpanOfWrongFalsely : Prop := fnExactSpanOfRow.holds Try.pinned (OpenSpec.ofChange fnExactSpanOfWrong)

/- THE SECOND FORM. 'bulk': how many values and letters a reading holds, each counted each time it is reached (what is shared counts as often as it is met; a slice's spare places count too). A statement '..UptoSaid' is the law's where the arguments, and the package variables that the reading takes, are together of bulk at most 1048576: NARROWER than '..Said'. Prove '..Said' where nothing that the law and all that it calls make is longer than what came in: it says more and counts as full. Else prove '..UptoSaid'. A law counts once. -/
mutual
def uptoBulk {H : Type} : DataW H → Nat
  | .lit (.string bytes) => bytes.length + 1
  | .lit _ => 1
  | .nil => 1
  | .ptr d => uptoBulk d + 1
  | .slice elems spare => uptoBulkAll elems + uptoBulkAll spare + 1
  | .agg parts => uptoBulkAll parts + 1
  | .iface _ d => uptoBulk d + 1
  | .map entries => uptoBulkEntries entries + 1
  | .held _ => 1
def uptoBulkAll {H : Type} : List (DataW H) → Nat
  | [] => 0
  | d :: r => uptoBulk d + uptoBulkAll r
def uptoBulkEntries {H : Type} : List (Lit × DataW H) → Nat
  | [] => 0
  | x :: r => uptoBulkEntry x + uptoBulkEntries r
def uptoBulkEntry {H : Type} : Lit × DataW H → Nat
  | (.string bytes, d) => bytes.length + uptoBulk d + 1
  | (_, d) => uptoBulk d + 1
 end
def uptoSmall : (H : Type) → List (DataW H) → Bool := fun _ ds => decide (uptoBulkAll ds ≤ 1048576)
def OpenSpec.upto (s : _root_.Go.ChangeSpec) : _root_.Go.OpenSpec := { _root_.Go.OpenSpec.ofChange s with cond := some uptoSmall }

/-- 'laws.FnOffsetOf', WHERE WHAT IT READS IS OF BULK AT MOST 1048576: true; the input reads as it did. -/
def fnOffsetOfUptoRow : OpenClaim := { program := "ytoaldklkacmflaa", sum := "580bf42480d14575104de5ed0ccae6f0e8598d7bc52248c83b92ecf76b66c65b", func := "loop.example/satelliteclock/laws.FnOffsetOf", spec := "fnOffsetOf", apart := false, narrowed := true }
def FnOffsetOfUptoSaid : Prop := fnOffsetOfUptoRow.holds Try.pinned (OpenSpec.upto fnOffsetOfSpec)

/-- 'laws.FnOffsetOfShift', WHERE WHAT IT READS IS OF BULK AT MOST 1048576: true; the input reads as it did. -/
def fnOffsetOfShiftUptoRow : OpenClaim := { program := "ytoaldklkacmflaa", sum := "580bf42480d14575104de5ed0ccae6f0e8598d7bc52248c83b92ecf76b66c65b", func := "loop.example/satelliteclock/laws.FnOffsetOfShift", spec := "fnOffsetOfShift", apart := false, narrowed := true }
def FnOffsetOfShiftUptoSaid : Prop := fnOffsetOfShiftUptoRow.holds Try.pinned (OpenSpec.upto fnOffsetOfShiftSpec)

/-- 'laws.FnDelayOf', WHERE WHAT IT READS IS OF BULK AT MOST 1048576: true; the input reads as it did. -/
def fnDelayOfUptoRow : OpenClaim := { program := "ytoaldklkacmflaa", sum := "580bf42480d14575104de5ed0ccae6f0e8598d7bc52248c83b92ecf76b66c65b", func := "loop.example/satelliteclock/laws.FnDelayOf", spec := "fnDelayOf", apart := false, narrowed := true }
def FnDelayOfUptoSaid : Prop := fnDelayOfUptoRow.holds Try.pinned (OpenSpec.upto fnDelayOfSpec)

/-- 'laws.FnSpanOf', WHERE WHAT IT READS IS OF BULK AT MOST 1048576: true; the input reads as it did. -/
def fnSpanOfUptoRow : OpenClaim := { program := "ytoaldklkacmflaa", sum := "580bf42480d14575104de5ed0ccae6f0e8598d7bc52248c83b92ecf76b66c65b", func := "loop.example/satelliteclock/laws.FnSpanOf", spec := "fnSpanOf", apart := false, narrowed := true }
def FnSpanOfUptoSaid : Prop := fnSpanOfUptoRow.holds Try.pinned (OpenSpec.upto fnSpanOfSpec)

/-- 'laws.FnSpanOfVote', WHERE WHAT IT READS IS OF BULK AT MOST 1048576: true; the input reads as it did. -/
def fnSpanOfVoteUptoRow : OpenClaim := { program := "ytoaldklkacmflaa", sum := "580bf42480d14575104de5ed0ccae6f0e8598d7bc52248c83b92ecf76b66c65b", func := "loop.example/satelliteclock/laws.FnSpanOfVote", spec := "fnSpanOfVote", unfollowed := true, recurses := true, apart := false, narrowed := true }
def FnSpanOfVoteUptoSaid : Prop := fnSpanOfVoteUptoRow.holds Try.pinned (OpenSpec.upto fnSpanOfVoteSpec)

/-- 'laws.FnSpanOfWide', WHERE WHAT IT READS IS OF BULK AT MOST 1048576: true; the input reads as it did. -/
def fnSpanOfWideUptoRow : OpenClaim := { program := "ytoaldklkacmflaa", sum := "580bf42480d14575104de5ed0ccae6f0e8598d7bc52248c83b92ecf76b66c65b", func := "loop.example/satelliteclock/laws.FnSpanOfWide", spec := "fnSpanOfWide", apart := false, narrowed := true }
def FnSpanOfWideUptoSaid : Prop := fnSpanOfWideUptoRow.holds Try.pinned (OpenSpec.upto fnSpanOfWideSpec)

/-- 'laws.FnExactOffsetOf', WHERE WHAT IT READS IS OF BULK AT MOST 1048576: true; the input reads as it did. -/
def fnExactOffsetOfUptoRow : OpenClaim := { program := "ytoaldklkacmflaa", sum := "580bf42480d14575104de5ed0ccae6f0e8598d7bc52248c83b92ecf76b66c65b", func := "loop.example/satelliteclock/laws.FnExactOffsetOf", spec := "fnExactOffsetOf", apart := false, narrowed := true }
def FnExactOffsetOfUptoSaid : Prop := fnExactOffsetOfUptoRow.holds Try.pinned (OpenSpec.upto fnExactOffsetOfSpec)

/-- 'laws.FnExactDelayOf', WHERE WHAT IT READS IS OF BULK AT MOST 1048576: true; the input reads as it did. -/
def fnExactDelayOfUptoRow : OpenClaim := { program := "ytoaldklkacmflaa", sum := "580bf42480d14575104de5ed0ccae6f0e8598d7bc52248c83b92ecf76b66c65b", func := "loop.example/satelliteclock/laws.FnExactDelayOf", spec := "fnExactDelayOf", apart := false, narrowed := true }
def FnExactDelayOfUptoSaid : Prop := fnExactDelayOfUptoRow.holds Try.pinned (OpenSpec.upto fnExactDelayOfSpec)

/-- 'laws.FnExactSpanOf', WHERE WHAT IT READS IS OF BULK AT MOST 1048576: true; the input reads as it did. -/
def fnExactSpanOfUptoRow : OpenClaim := { program := "ytoaldklkacmflaa", sum := "580bf42480d14575104de5ed0ccae6f0e8598d7bc52248c83b92ecf76b66c65b", func := "loop.example/satelliteclock/laws.FnExactSpanOf", spec := "fnExactSpanOf", apart := false, narrowed := true }
def FnExactSpanOfUptoSaid : Prop := fnExactSpanOfUptoRow.holds Try.pinned (OpenSpec.upto fnExactSpanOfSpec)

end Rows
end Go.Proofs.Ytoaldklkacmflaa
