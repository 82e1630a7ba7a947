/-
  NARROWER THAN 'FOR EVERY INPUT', by the rows' own cells (each row's printed sentence says how): FnNextPoll: laid · FnNextPollGood: laid · FnNextPollSign: laid · FnRunPolls: laid · FnRunPollsBounds: laid · FnRunPollsGood: laid · FnExactNextPoll: laid · FnExactRunPolls: laid.
  DERIVED. THE GIVEN ROWS OF THIS SEAT. 8 by the template 'for every input the law returns true; each argument reads behind the call as it read before'; 0 by the template 'total and deterministic' (their statements: YthbfjmlkcgcgaaaDoorTotals.lean).
  GIVEN WITH THE SEED: the statements are not yours to turn. If you find one false, say at which input.
  Laid BY PROGRAM, IN A SANDBOX (cutbox-rows.mjs): the forced cells as the released guide's own fill.sh prints them over the translation 79e32dac1702d0db… (all of the seat's roots in one cut). By AI agents, Wed Nov 11 2026. No macro, syntax, notation, axiom, sorry.
-/
import Derived.Test.YthbfjmlkcgcgaaaDoorChecked
import GoSem.Claim
import GoSem.ClaimJoined
import GoSem.ClaimMapViews
import Derived.JoinedTies
import Derived.KernelRfl
namespace Go.Proofs.YthbfjmlkcgcgaaaDoor
/- THE CELL 'sum', in the pinned program and in every row, IS THE sha256 OF THE DUMP (.gsa) THAT YthbfjmlkcgcgaaaDoorProg.lean LOADS. Nothing in Lean hashes anything: it is a label: what it is worth is what the hold of that sum in a sandbox is worth. -/
noncomputable def Tryd.pinned : Pinned := { name := "ythbfjmlkcgcgaaadoor", sum := "79e32dac1702d0db8ef8a3d8392b8ee7c801cbeb7aa3788aa7e9596e57594f08", checked := Tryd.checked }
namespace Rows
def none {H : Type} : Left H := { results := [], args := [] }

/- WHAT THE LISTED PACKAGE-LEVEL VARIABLES READ AS WHEN THE CALL BEGINS. Each datum BY PROGRAM (the guide's laid-datum.mjs) off the statement by which the dump's own 'gosem.cut.vars' lays the variable. In a bare row this is a premise. The card (YthbfjmlkcgcgaaaDoorCards.lean) ties it to the program's text. -/
def laid_loop_example_satelliteclock_impl_pollRules {H : Type} : DataW H := .agg [.agg [.lit (.int .i64 1), .lit (.int .i64 1)], .agg [.lit (.int .i64 (-2)), .lit (.int .i64 (-1))]]

/-- 'laws.FnNextPoll': WHATEVER THE INPUT: true; the input reads as it did. -/
def fnNextPollSpec : ChangeSpec := { name := "fnNextPoll", vars := ["loop.example/satelliteclock/impl.pollRules"], fn := fun _ => fun
  | [d, g1] => { results := [.lit (.bool true)], args := [d], vars := [g1] }
  | _ => none }
def fnNextPollRow : OpenClaim := { program := "ythbfjmlkcgcgaaadoor", sum := "79e32dac1702d0db8ef8a3d8392b8ee7c801cbeb7aa3788aa7e9596e57594f08", func := "loop.example/satelliteclock/laws.FnNextPoll", spec := "fnNextPoll", named := ["loop.example/satelliteclock/impl.pollRules"], apart := false, laid := [("loop.example/satelliteclock/impl.pollRules", laid_loop_example_satelliteclock_impl_pollRules)] }
def FnNextPollSaid : Prop := fnNextPollRow.holds Tryd.pinned (OpenSpec.ofChange fnNextPollSpec)

/-- ITS FALSE NEIGHBOUR: 'it returns false'. Refute it at one input. -/
def fnNextPollWrong : ChangeSpec := { name := "fnNextPoll", vars := ["loop.example/satelliteclock/impl.pollRules"], fn := fun _ => fun
  | [d, g1] => { results := [.lit (.bool false)], args := [d], vars := [g1] }
  | _ => none }
def FnNextPollWrongFalsely : Prop := fnNextPollRow.holds Tryd.pinned (OpenSpec.ofChange fnNextPollWrong)

/-- 'laws.FnNextPollGood': WHATEVER THE INPUT: true; the input reads as it did. -/
def fnNextPollGoodSpec : ChangeSpec := { name := "fnNextPollGood", vars := ["loop.example/satelliteclock/impl.pollRules"], fn := fun _ => fun
  | [d, g1] => { results := [.lit (.bool true)], args := [d], vars := [g1] }
  | _ => none }
def fnNextPollGoodRow : OpenClaim := { program := "ythbfjmlkcgcgaaadoor", sum := "79e32dac1702d0db8ef8a3d8392b8ee7c801cbeb7aa3788aa7e9596e57594f08", func := "loop.example/satelliteclock/laws.FnNextPollGood", spec := "fnNextPollGood", named := ["loop.example/satelliteclock/impl.pollRules"], apart := false, laid := [("loop.example/satelliteclock/impl.pollRules", laid_loop_example_satelliteclock_impl_pollRules)] }
def FnNextPollGoodSaid : Prop := fnNextPollGoodRow.holds Tryd.pinned (OpenSpec.ofChange fnNextPollGoodSpec)

/-- ITS FALSE NEIGHBOUR: 'it returns false'. Refute it at one input. -/
def fnNextPollGoodWrong : ChangeSpec := { name := "fnNextPollGood", vars := ["loop.example/satelliteclock/impl.pollRules"], fn := fun _ => fun
  | [d, g1] => { results := [.lit (.bool false)], args := [d], vars := [g1] }
  | _ => none }
def FnNextPollGoodWrongFalsely : Prop := fnNextPollGoodRow.holds Tryd.pinned (OpenSpec.ofChange fnNextPollGoodWrong)

/-- 'laws.FnNextPollSign': WHATEVER THE INPUT: true; the input reads as it did. -/
def fnNextPollSignSpec : ChangeSpec := { name := "fnNextPollSign", vars := ["loop.example/satelliteclock/impl.pollRules"], fn := fun _ => fun
  | [d, g1] => { results := [.lit (.bool true)], args := [d], vars := [g1] }
  | _ => none }
def fnNextPollSignRow : OpenClaim := { program := "ythbfjmlkcgcgaaadoor", sum := "79e32dac1702d0db8ef8a3d8392b8ee7c801cbeb7aa3788aa7e9596e57594f08", func := "loop.example/satelliteclock/laws.FnNextPollSign", spec := "fnNextPollSign", named := ["loop.example/satelliteclock/impl.pollRules"], apart := false, laid := [("loop.example/satelliteclock/impl.pollRules", laid_loop_example_satelliteclock_impl_pollRules)] }
def FnNextPollSignSaid : Prop := fnNextPollSignRow.holds Tryd.pinned (OpenSpec.ofChange fnNextPollSignSpec)

/-- ITS FALSE NEIGHBOUR: 'it returns false'. Refute it at one input. -/
def fnNextPollSignWrong : ChangeSpec := { name := "fnNextPollSign", vars := ["loop.example/satelliteclock/impl.pollRules"], fn := fun _ => fun
  | [d, g1] => { results := [.lit (.bool false)], args := [d], vars := [g1] }
  | _ => none }
def FnNextPollSignWrongFalsely : Prop := fnNextPollSignRow.holds Tryd.pinned (OpenSpec.ofChange fnNextPollSignWrong)

/-- 'laws.FnRunPolls': WHATEVER THE INPUT: true; the input reads as it did. -/
def fnRunPollsSpec : ChangeSpec := { name := "fnRunPolls", vars := ["loop.example/satelliteclock/impl.pollRules"], fn := fun _ => fun
  | [d, g1] => { results := [.lit (.bool true)], args := [d], vars := [g1] }
  | _ => none }
def fnRunPollsRow : OpenClaim := { program := "ythbfjmlkcgcgaaadoor", sum := "79e32dac1702d0db8ef8a3d8392b8ee7c801cbeb7aa3788aa7e9596e57594f08", func := "loop.example/satelliteclock/laws.FnRunPolls", spec := "fnRunPolls", named := ["loop.example/satelliteclock/impl.pollRules"], apart := false, laid := [("loop.example/satelliteclock/impl.pollRules", laid_loop_example_satelliteclock_impl_pollRules)] }
def FnRunPollsSaid : Prop := fnRunPollsRow.holds Tryd.pinned (OpenSpec.ofChange fnRunPollsSpec)

/-- ITS FALSE NEIGHBOUR: 'it returns false'. Refute it at one input. -/
def fnRunPollsWrong : ChangeSpec := { name := "fnRunPolls", vars := ["loop.example/satelliteclock/impl.pollRules"], fn := fun _ => fun
  | [d, g1] => { results := [.lit (.bool false)], args := [d], vars := [g1] }
  | _ => none }
def FnRunPollsWrongFalsely : Prop := fnRunPollsRow.holds Tryd.pinned (OpenSpec.ofChange fnRunPollsWrong)

/-- 'laws.FnRunPollsBounds': WHATEVER THE INPUT: true; the input reads as it did. -/
def fnRunPollsBoundsSpec : ChangeSpec := { name := "fnRunPollsBounds", vars := ["loop.example/satelliteclock/impl.pollRules"], fn := fun _ => fun
  | [d, g1] => { results := [.lit (.bool true)], args := [d], vars := [g1] }
  | _ => none }
def fnRunPollsBoundsRow : OpenClaim := { program := "ythbfjmlkcgcgaaadoor", sum := "79e32dac1702d0db8ef8a3d8392b8ee7c801cbeb7aa3788aa7e9596e57594f08", func := "loop.example/satelliteclock/laws.FnRunPollsBounds", spec := "fnRunPollsBounds", named := ["loop.example/satelliteclock/impl.pollRules"], apart := false, laid := [("loop.example/satelliteclock/impl.pollRules", laid_loop_example_satelliteclock_impl_pollRules)] }
def FnRunPollsBoundsSaid : Prop := fnRunPollsBoundsRow.holds Tryd.pinned (OpenSpec.ofChange fnRunPollsBoundsSpec)

/-- ITS FALSE NEIGHBOUR: 'it returns false'. Refute it at one input. -/
def fnRunPollsBoundsWrong : ChangeSpec := { name := "fnRunPollsBounds", vars := ["loop.example/satelliteclock/impl.pollRules"], fn := fun _ => fun
  | [d, g1] => { results := [.lit (.bool false)], args := [d], vars := [g1] }
  | _ => none }
def FnRunPollsBoundsWrongFalsely : Prop := fnRunPollsBoundsRow.holds Tryd.pinned (OpenSpec.ofChange fnRunPollsBoundsWrong)

/-- 'laws.FnRunPollsGood': WHATEVER THE INPUT: true; the input reads as it did. -/
def fnRunPollsGoodSpec : ChangeSpec := { name := "fnRunPollsGood", vars := ["loop.example/satelliteclock/impl.pollRules"], fn := fun _ => fun
  | [d, g1] => { results := [.lit (.bool true)], args := [d], vars := [g1] }
  | _ => none }
def fnRunPollsGoodRow : OpenClaim := { program := "ythbfjmlkcgcgaaadoor", sum := "79e32dac1702d0db8ef8a3d8392b8ee7c801cbeb7aa3788aa7e9596e57594f08", func := "loop.example/satelliteclock/laws.FnRunPollsGood", spec := "fnRunPollsGood", named := ["loop.example/satelliteclock/impl.pollRules"], apart := false, laid := [("loop.example/satelliteclock/impl.pollRules", laid_loop_example_satelliteclock_impl_pollRules)] }
def FnRunPollsGoodSaid : Prop := fnRunPollsGoodRow.holds Tryd.pinned (OpenSpec.ofChange fnRunPollsGoodSpec)

/-- ITS FALSE NEIGHBOUR: 'it returns false'. Refute it at one input. -/
def fnRunPollsGoodWrong : ChangeSpec := { name := "fnRunPollsGood", vars := ["loop.example/satelliteclock/impl.pollRules"], fn := fun _ => fun
  | [d, g1] => { results := [.lit (.bool false)], args := [d], vars := [g1] }
  | _ => none }
def FnRunPollsGoodWrongFalsely : Prop := fnRunPollsGoodRow.holds Tryd.pinned (OpenSpec.ofChange fnRunPollsGoodWrong)

/-- 'laws.FnExactNextPoll': WHATEVER THE INPUT: true; the input reads as it did. -/
def fnExactNextPollSpec : ChangeSpec := { name := "fnExactNextPoll", vars := ["loop.example/satelliteclock/impl.pollRules"], fn := fun _ => fun
  | [d1, d2, d3, g1] => { results := [.lit (.bool true)], args := [d1, d2, d3], vars := [g1] }
  | _ => none }
def fnExactNextPollRow : OpenClaim := { program := "ythbfjmlkcgcgaaadoor", sum := "79e32dac1702d0db8ef8a3d8392b8ee7c801cbeb7aa3788aa7e9596e57594f08", func := "loop.example/satelliteclock/laws.FnExactNextPoll", spec := "fnExactNextPoll", named := ["loop.example/satelliteclock/impl.pollRules"], apart := false, laid := [("loop.example/satelliteclock/impl.pollRules", laid_loop_example_satelliteclock_impl_pollRules)] }
def FnExactNextPollSaid : Prop := fnExactNextPollRow.holds Tryd.pinned (OpenSpec.ofChange fnExactNextPollSpec)

/-- ITS FALSE NEIGHBOUR: 'it returns false'. Refute it at one input. -/
def fnExactNextPollWrong : ChangeSpec := { name := "fnExactNextPoll", vars := ["loop.example/satelliteclock/impl.pollRules"], fn := fun _ => fun
  | [d1, d2, d3, g1] => { results := [.lit (.bool false)], args := [d1, d2, d3], vars := [g1] }
  | _ => none }
def FnExactNextPollWrongFalsely : Prop := fnExactNextPollRow.holds Tryd.pinned (OpenSpec.ofChange fnExactNextPollWrong)

/-- 'laws.FnExactRunPolls': WHATEVER THE INPUT: true; the input reads as it did. -/
def fnExactRunPollsSpec : ChangeSpec := { name := "fnExactRunPolls", vars := ["loop.example/satelliteclock/impl.pollRules"], fn := fun _ => fun
  | [d1, d2, d3, g1] => { results := [.lit (.bool true)], args := [d1, d2, d3], vars := [g1] }
  | _ => none }
def fnExactRunPollsRow : OpenClaim := { program := "ythbfjmlkcgcgaaadoor", sum := "79e32dac1702d0db8ef8a3d8392b8ee7c801cbeb7aa3788aa7e9596e57594f08", func := "loop.example/satelliteclock/laws.FnExactRunPolls", spec := "fnExactRunPolls", named := ["loop.example/satelliteclock/impl.pollRules"], apart := false, laid := [("loop.example/satelliteclock/impl.pollRules", laid_loop_example_satelliteclock_impl_pollRules)] }
def FnExactRunPollsSaid : Prop := fnExactRunPollsRow.holds Tryd.pinned (OpenSpec.ofChange fnExactRunPollsSpec)

/-- ITS FALSE NEIGHBOUR: 'it returns false'. Refute it at one input. -/
def fnExactRunPollsWrong : ChangeSpec := { name := "fnExactRunPolls", vars := ["loop.example/satelliteclock/impl.pollRules"], fn := fun _ => fun
  | [d1, d2, d3, g1] => { results := [.lit (.bool false)], args := [d1, d2, d3], vars := [g1] }
  | _ => none }
def FnExactRunPollsWrongFalsely : Prop := fnExactRunPollsRow.holds Tryd.pinned (OpenSpec.ofChange fnExactRunPollsWrong)

/- THE SECOND FORM. 'bulk': how many values and letters a reading holds, each counted each time it is reached (what is shared counts as often as it is met; a slice's spare places count too). A statement '..UptoSaid' is the law's where the arguments, and the package variables that the reading takes, are together of bulk at most 1048576: NARROWER than '..Said'. Prove '..Said' where nothing that the law and all that it calls make is longer than what came in: it says more and counts as full. Else prove '..UptoSaid'. A law counts once. -/
mutual
def uptoBulk {H : Type} : DataW H → Nat
  | .lit (.string bytes) => bytes.length + 1
  | .lit _ => 1
  | .nil => 1
  | .ptr d => uptoBulk d + 1
  | .slice elems spare => uptoBulkAll elems + uptoBulkAll spare + 1
  | .agg parts => uptoBulkAll parts + 1
  | .iface _ d => uptoBulk d + 1
  | .map entries => uptoBulkEntries entries + 1
  | .held _ => 1
def uptoBulkAll {H : Type} : List (DataW H) → Nat
  | [] => 0
  | d :: r => uptoBulk d + uptoBulkAll r
def uptoBulkEntries {H : Type} : List (Lit × DataW H) → Nat
  | [] => 0
  | x :: r => uptoBulkEntry x + uptoBulkEntries r
def uptoBulkEntry {H : Type} : Lit × DataW H → Nat
  | (.string bytes, d) => bytes.length + uptoBulk d + 1
  | (_, d) => uptoBulk d + 1
 end
def uptoSmall : (H : Type) → List (DataW H) → Bool := fun _ ds => decide (uptoBulkAll ds ≤ 1048576)
def OpenSpec.upto (s : _root_.Go.ChangeSpec) : _root_.Go.OpenSpec := { _root_.Go.OpenSpec.ofChange s with cond := some uptoSmall }

/-- 'laws.FnNextPoll', WHERE WHAT IT READS IS OF BULK AT MOST 1048576: true; the input reads as it did. -/
def fnNextPollUptoRow : OpenClaim := { program := "ythbfjmlkcgcgaaadoor", sum := "79e32dac1702d0db8ef8a3d8392b8ee7c801cbeb7aa3788aa7e9596e57594f08", func := "loop.example/satelliteclock/laws.FnNextPoll", spec := "fnNextPoll", named := ["loop.example/satelliteclock/impl.pollRules"], apart := false, laid := [("loop.example/satelliteclock/impl.pollRules", laid_loop_example_satelliteclock_impl_pollRules)], narrowed := true }
def FnNextPollUptoSaid : Prop := fnNextPollUptoRow.holds Tryd.pinned (OpenSpec.upto fnNextPollSpec)

/-- 'laws.FnNextPollGood', WHERE WHAT IT READS IS OF BULK AT MOST 1048576: true; the input reads as it did. -/
def fnNextPollGoodUptoRow : OpenClaim := { program := "ythbfjmlkcgcgaaadoor", sum := "79e32dac1702d0db8ef8a3d8392b8ee7c801cbeb7aa3788aa7e9596e57594f08", func := "loop.example/satelliteclock/laws.FnNextPollGood", spec := "fnNextPollGood", named := ["loop.example/satelliteclock/impl.pollRules"], apart := false, laid := [("loop.example/satelliteclock/impl.pollRules", laid_loop_example_satelliteclock_impl_pollRules)], narrowed := true }
def FnNextPollGoodUptoSaid : Prop := fnNextPollGoodUptoRow.holds Tryd.pinned (OpenSpec.upto fnNextPollGoodSpec)

/-- 'laws.FnNextPollSign', WHERE WHAT IT READS IS OF BULK AT MOST 1048576: true; the input reads as it did. -/
def fnNextPollSignUptoRow : OpenClaim := { program := "ythbfjmlkcgcgaaadoor", sum := "79e32dac1702d0db8ef8a3d8392b8ee7c801cbeb7aa3788aa7e9596e57594f08", func := "loop.example/satelliteclock/laws.FnNextPollSign", spec := "fnNextPollSign", named := ["loop.example/satelliteclock/impl.pollRules"], apart := false, laid := [("loop.example/satelliteclock/impl.pollRules", laid_loop_example_satelliteclock_impl_pollRules)], narrowed := true }
def FnNextPollSignUptoSaid : Prop := fnNextPollSignUptoRow.holds Tryd.pinned (OpenSpec.upto fnNextPollSignSpec)

/-- 'laws.FnRunPolls', WHERE WHAT IT READS IS OF BULK AT MOST 1048576: true; the input reads as it did. -/
def fnRunPollsUptoRow : OpenClaim := { program := "ythbfjmlkcgcgaaadoor", sum := "79e32dac1702d0db8ef8a3d8392b8ee7c801cbeb7aa3788aa7e9596e57594f08", func := "loop.example/satelliteclock/laws.FnRunPolls", spec := "fnRunPolls", named := ["loop.example/satelliteclock/impl.pollRules"], apart := false, laid := [("loop.example/satelliteclock/impl.pollRules", laid_loop_example_satelliteclock_impl_pollRules)], narrowed := true }
def FnRunPollsUptoSaid : Prop := fnRunPollsUptoRow.holds Tryd.pinned (OpenSpec.upto fnRunPollsSpec)

/-- 'laws.FnRunPollsBounds', WHERE WHAT IT READS IS OF BULK AT MOST 1048576: true; the input reads as it did. -/
def fnRunPollsBoundsUptoRow : OpenClaim := { program := "ythbfjmlkcgcgaaadoor", sum := "79e32dac1702d0db8ef8a3d8392b8ee7c801cbeb7aa3788aa7e9596e57594f08", func := "loop.example/satelliteclock/laws.FnRunPollsBounds", spec := "fnRunPollsBounds", named := ["loop.example/satelliteclock/impl.pollRules"], apart := false, laid := [("loop.example/satelliteclock/impl.pollRules", laid_loop_example_satelliteclock_impl_pollRules)], narrowed := true }
def FnRunPollsBoundsUptoSaid : Prop := fnRunPollsBoundsUptoRow.holds Tryd.pinned (OpenSpec.upto fnRunPollsBoundsSpec)

/-- 'laws.FnRunPollsGood', WHERE WHAT IT READS IS OF BULK AT MOST 1048576: true; the input reads as it did. -/
def fnRunPollsGoodUptoRow : OpenClaim := { program := "ythbfjmlkcgcgaaadoor", sum := "79e32dac1702d0db8ef8a3d8392b8ee7c801cbeb7aa3788aa7e9596e57594f08", func := "loop.example/satelliteclock/laws.FnRunPollsGood", spec := "fnRunPollsGood", named := ["loop.example/satelliteclock/impl.pollRules"], apart := false, laid := [("loop.example/satelliteclock/impl.pollRules", laid_loop_example_satelliteclock_impl_pollRules)], narrowed := true }
def FnRunPollsGoodUptoSaid : Prop := fnRunPollsGoodUptoRow.holds Tryd.pinned (OpenSpec.upto fnRunPollsGoodSpec)

/-- 'laws.FnExactNextPoll', WHERE WHAT IT READS IS OF BULK AT MOST 1048576: true; the input reads as it did. -/
def fnExactNextPollUptoRow : OpenClaim := { program := "ythbfjmlkcgcgaaadoor", sum := "79e32dac1702d0db8ef8a3d8392b8ee7c801cbeb7aa3788aa7e9596e57594f08", func := "loop.example/satelliteclock/laws.FnExactNextPoll", spec := "fnExactNextPoll", named := ["loop.example/satelliteclock/impl.pollRules"], apart := false, laid := [("loop.example/satelliteclock/impl.pollRules", laid_loop_example_satelliteclock_impl_pollRules)], narrowed := true }
def FnExactNextPollUptoSaid : Prop := fnExactNextPollUptoRow.holds Tryd.pinned (OpenSpec.upto fnExactNextPollSpec)

/-- 'laws.FnExactRunPolls', WHERE WHAT IT READS IS OF BULK AT MOST 1048576: true; the input reads as it did. -/
def fnExactRunPollsUptoRow : OpenClaim := { program := "ythbfjmlkcgcgaaadoor", sum := "79e32dac1702d0db8ef8a3d8392b8ee7c801cbeb7aa3788aa7e9596e57594f08", func := "loop.example/satelliteclock/laws.FnExactRunPolls", spec := "fnExactRunPolls", named := ["loop.example/satelliteclock/impl.pollRules"], apart := false, laid := [("loop.example/satelliteclock/impl.pollRules", laid_loop_example_satelliteclock_impl_pollRules)], narrowed := true }
def FnExactRunPollsUptoSaid : Prop := fnExactRunPollsUptoRow.holds Tryd.pinned (OpenSpec.upto fnExactRunPollsSpec)

end Rows
end Go.Proofs.YthbfjmlkcgcgaaaDoor
