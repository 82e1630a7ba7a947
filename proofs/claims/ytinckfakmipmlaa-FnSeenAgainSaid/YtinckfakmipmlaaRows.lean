/-
  No cell of these rows narrows 'for every input' (looked for: loops, veiled, ifaces, maps, wideKeys, modest, calm, conditions, laid).
  DERIVED. THE GIVEN ROWS OF THIS SEAT. 10 by the template 'for every input the law returns true; each argument reads behind the call as it read before'; 0 by the template 'total and deterministic' (their statements: YtinckfakmipmlaaTotals.lean).
  GIVEN WITH THE SEED: the statements are not yours to turn. If you find one false, say at which input.
  Laid BY PROGRAM, IN A SANDBOX (cutbox-rows.mjs): the forced cells as the released guide's own fill.sh prints them over the translation 2d62496839ee3606… (all of the seat's roots in one cut). By AI agents, Wed Nov 11 2026. No macro, syntax, notation, axiom, sorry.
-/
import Derived.Test.YtinckfakmipmlaaChecked
import GoSem.Claim
import GoSem.ClaimJoined
import GoSem.ClaimMapViews
import Derived.JoinedTies
import Derived.KernelRfl
namespace Go.Proofs.Ytinckfakmipmlaa
/- THE CELL 'sum', in the pinned program and in every row, IS THE sha256 OF THE DUMP (.gsa) THAT YtinckfakmipmlaaProg.lean LOADS. Nothing in Lean hashes anything: it is a label: what it is worth is what the hold of that sum in a sandbox is worth. -/
noncomputable def Try.pinned : Pinned := { name := "ytinckfakmipmlaa", sum := "2d62496839ee36061fcbb02b1a55ba87024f2310869adc1f525e43f0aebca97e", checked := Try.checked }
namespace Rows
def none {H : Type} : Left H := { results := [], args := [] }

/-- 'laws.FnValidState': WHATEVER THE INPUT: true; the input reads as it did. -/
def fnValidStateSpec : ChangeSpec := { name := "fnValidState", fn := fun _ => fun
  | [d] => { results := [.lit (.bool true)], args := [d] }
  | _ => none }
def fnValidStateRow : OpenClaim := { program := "ytinckfakmipmlaa", sum := "2d62496839ee36061fcbb02b1a55ba87024f2310869adc1f525e43f0aebca97e", func := "loop.example/satelliteclock/laws.FnValidState", spec := "fnValidState", apart := false }
def FnValidStateSaid : Prop := fnValidStateRow.holds Try.pinned (OpenSpec.ofChange fnValidStateSpec)

/-- ITS FALSE NEIGHBOUR: 'it returns false'. Refute it at one input. -/
def fnValidStateWrong : ChangeSpec := { name := "fnValidState", fn := fun _ => fun
  | [d] => { results := [.lit (.bool false)], args := [d] }
  | _ => none }
def FnValidStateWrongFalsely : Prop := fnValidStateRow.holds Try.pinned (OpenSpec.ofChange fnValidStateWrong)

/-- 'laws.FnErrorAt': WHATEVER THE INPUT: true; the input reads as it did. -/
def fnErrorAtSpec : ChangeSpec := { name := "fnErrorAt", fn := fun _ => fun
  | [d] => { results := [.lit (.bool true)], args := [d] }
  | _ => none }
def fnErrorAtRow : OpenClaim := { program := "ytinckfakmipmlaa", sum := "2d62496839ee36061fcbb02b1a55ba87024f2310869adc1f525e43f0aebca97e", func := "loop.example/satelliteclock/laws.FnErrorAt", spec := "fnErrorAt", apart := false }
def FnErrorAtSaid : Prop := fnErrorAtRow.holds Try.pinned (OpenSpec.ofChange fnErrorAtSpec)

/-- ITS FALSE NEIGHBOUR: 'it returns false'. Refute it at one input. -/
def fnErrorAtWrong : ChangeSpec := { name := "fnErrorAt", fn := fun _ => fun
  | [d] => { results := [.lit (.bool false)], args := [d] }
  | _ => none }
def FnErrorAtWrongFalsely : Prop := fnErrorAtRow.holds Try.pinned (OpenSpec.ofChange fnErrorAtWrong)

/-- 'laws.FnErrorAtSteady': WHATEVER THE INPUT: true; the input reads as it did. -/
def fnErrorAtSteadySpec : ChangeSpec := { name := "fnErrorAtSteady", fn := fun _ => fun
  | [d] => { results := [.lit (.bool true)], args := [d] }
  | _ => none }
def fnErrorAtSteadyRow : OpenClaim := { program := "ytinckfakmipmlaa", sum := "2d62496839ee36061fcbb02b1a55ba87024f2310869adc1f525e43f0aebca97e", func := "loop.example/satelliteclock/laws.FnErrorAtSteady", spec := "fnErrorAtSteady", apart := false }
def FnErrorAtSteadySaid : Prop := fnErrorAtSteadyRow.holds Try.pinned (OpenSpec.ofChange fnErrorAtSteadySpec)

/-- ITS FALSE NEIGHBOUR: 'it returns false'. Refute it at one input. -/
def fnErrorAtSteadyWrong : ChangeSpec := { name := "fnErrorAtSteady", fn := fun _ => fun
  | [d] => { results := [.lit (.bool false)], args := [d] }
  | _ => none }
def FnErrorAtSteadyWrongFalsely : Prop := fnErrorAtSteadyRow.holds Try.pinned (OpenSpec.ofChange fnErrorAtSteadyWrong)

/-- 'laws.FnLevelAt': WHATEVER THE INPUT: true; the input reads as it did. -/
def fnLevelAtSpec : ChangeSpec := { name := "fnLevelAt", fn := fun _ => fun
  | [d] => { results := [.lit (.bool true)], args := [d] }
  | _ => none }
def fnLevelAtRow : OpenClaim := { program := "ytinckfakmipmlaa", sum := "2d62496839ee36061fcbb02b1a55ba87024f2310869adc1f525e43f0aebca97e", func := "loop.example/satelliteclock/laws.FnLevelAt", spec := "fnLevelAt", apart := false }
def FnLevelAtSaid : Prop := fnLevelAtRow.holds Try.pinned (OpenSpec.ofChange fnLevelAtSpec)

/-- ITS FALSE NEIGHBOUR: 'it returns false'. Refute it at one input. -/
def fnLevelAtWrong : ChangeSpec := { name := "fnLevelAt", fn := fun _ => fun
  | [d] => { results := [.lit (.bool false)], args := [d] }
  | _ => none }
def FnLevelAtWrongFalsely : Prop := fnLevelAtRow.holds Try.pinned (OpenSpec.ofChange fnLevelAtWrong)

/-- 'laws.FnLevelAtLocked': WHATEVER THE INPUT: true; the input reads as it did. -/
def fnLevelAtLockedSpec : ChangeSpec := { name := "fnLevelAtLocked", fn := fun _ => fun
  | [d] => { results := [.lit (.bool true)], args := [d] }
  | _ => none }
def fnLevelAtLockedRow : OpenClaim := { program := "ytinckfakmipmlaa", sum := "2d62496839ee36061fcbb02b1a55ba87024f2310869adc1f525e43f0aebca97e", func := "loop.example/satelliteclock/laws.FnLevelAtLocked", spec := "fnLevelAtLocked", apart := false }
def FnLevelAtLockedSaid : Prop := fnLevelAtLockedRow.holds Try.pinned (OpenSpec.ofChange fnLevelAtLockedSpec)

/-- ITS FALSE NEIGHBOUR: 'it returns false'. Refute it at one input. -/
def fnLevelAtLockedWrong : ChangeSpec := { name := "fnLevelAtLocked", fn := fun _ => fun
  | [d] => { results := [.lit (.bool false)], args := [d] }
  | _ => none }
def FnLevelAtLockedWrongFalsely : Prop := fnLevelAtLockedRow.holds Try.pinned (OpenSpec.ofChange fnLevelAtLockedWrong)

/-- 'laws.FnHoldUntil': WHATEVER THE INPUT: true; the input reads as it did. -/
def fnHoldUntilSpec : ChangeSpec := { name := "fnHoldUntil", fn := fun _ => fun
  | [d] => { results := [.lit (.bool true)], args := [d] }
  | _ => none }
def fnHoldUntilRow : OpenClaim := { program := "ytinckfakmipmlaa", sum := "2d62496839ee36061fcbb02b1a55ba87024f2310869adc1f525e43f0aebca97e", func := "loop.example/satelliteclock/laws.FnHoldUntil", spec := "fnHoldUntil", apart := false }
def FnHoldUntilSaid : Prop := fnHoldUntilRow.holds Try.pinned (OpenSpec.ofChange fnHoldUntilSpec)

/-- ITS FALSE NEIGHBOUR: 'it returns false'. Refute it at one input. -/
def fnHoldUntilWrong : ChangeSpec := { name := "fnHoldUntil", fn := fun _ => fun
  | [d] => { results := [.lit (.bool false)], args := [d] }
  | _ => none }
def FnHoldUntilWrongFalsely : Prop := fnHoldUntilRow.holds Try.pinned (OpenSpec.ofChange fnHoldUntilWrong)

/-- 'laws.FnHoldUntilNone': WHATEVER THE INPUT: true; the input reads as it did. -/
def fnHoldUntilNoneSpec : ChangeSpec := { name := "fnHoldUntilNone", fn := fun _ => fun
  | [d] => { results := [.lit (.bool true)], args := [d] }
  | _ => none }
def fnHoldUntilNoneRow : OpenClaim := { program := "ytinckfakmipmlaa", sum := "2d62496839ee36061fcbb02b1a55ba87024f2310869adc1f525e43f0aebca97e", func := "loop.example/satelliteclock/laws.FnHoldUntilNone", spec := "fnHoldUntilNone", apart := false }
def FnHoldUntilNoneSaid : Prop := fnHoldUntilNoneRow.holds Try.pinned (OpenSpec.ofChange fnHoldUntilNoneSpec)

/-- ITS FALSE NEIGHBOUR: 'it returns false'. Refute it at one input. -/
def fnHoldUntilNoneWrong : ChangeSpec := { name := "fnHoldUntilNone", fn := fun _ => fun
  | [d] => { results := [.lit (.bool false)], args := [d] }
  | _ => none }
def FnHoldUntilNoneWrongFalsely : Prop := fnHoldUntilNoneRow.holds Try.pinned (OpenSpec.ofChange fnHoldUntilNoneWrong)

/-- 'laws.FnHoldUntilWander': WHATEVER THE INPUT: true; the input reads as it did. -/
def fnHoldUntilWanderSpec : ChangeSpec := { name := "fnHoldUntilWander", fn := fun _ => fun
  | [d] => { results := [.lit (.bool true)], args := [d] }
  | _ => none }
def fnHoldUntilWanderRow : OpenClaim := { program := "ytinckfakmipmlaa", sum := "2d62496839ee36061fcbb02b1a55ba87024f2310869adc1f525e43f0aebca97e", func := "loop.example/satelliteclock/laws.FnHoldUntilWander", spec := "fnHoldUntilWander", apart := false }
def FnHoldUntilWanderSaid : Prop := fnHoldUntilWanderRow.holds Try.pinned (OpenSpec.ofChange fnHoldUntilWanderSpec)

/-- ITS FALSE NEIGHBOUR: 'it returns false'. Refute it at one input. -/
def fnHoldUntilWanderWrong : ChangeSpec := { name := "fnHoldUntilWander", fn := fun _ => fun
  | [d] => { results := [.lit (.bool false)], args := [d] }
  | _ => none }
def FnHoldUntilWanderWrongFalsely : Prop := fnHoldUntilWanderRow.holds Try.pinned (OpenSpec.ofChange fnHoldUntilWanderWrong)

/-- 'laws.FnSeenAgain': WHATEVER THE INPUT: true; the input reads as it did. -/
def fnSeenAgainSpec : ChangeSpec := { name := "fnSeenAgain", fn := fun _ => fun
  | [d] => { results := [.lit (.bool true)], args := [d] }
  | _ => none }
def fnSeenAgainRow : OpenClaim := { program := "ytinckfakmipmlaa", sum := "2d62496839ee36061fcbb02b1a55ba87024f2310869adc1f525e43f0aebca97e", func := "loop.example/satelliteclock/laws.FnSeenAgain", spec := "fnSeenAgain", apart := false }
def FnSeenAgainSaid : Prop := fnSeenAgainRow.holds Try.pinned (OpenSpec.ofChange fnSeenAgainSpec)

/-- ITS FALSE NEIGHBOUR: 'it returns false'. Refute it at one input. -/
def fnSeenAgainWrong : ChangeSpec := { name := "fnSeenAgain", fn := fun _ => fun
  | [d] => { results := [.lit (.bool false)], args := [d] }
  | _ => none }
def FnSeenAgainWrongFalsely : Prop := fnSeenAgainRow.holds Try.pinned (OpenSpec.ofChange fnSeenAgainWrong)

/-- 'laws.FnSeenAgainTwice': WHATEVER THE INPUT: true; the input reads as it did. -/
def fnSeenAgainTwiceSpec : ChangeSpec := { name := "fnSeenAgainTwice", fn := fun _ => fun
  | [d] => { results := [.lit (.bool true)], args := [d] }
  | _ => none }
def fnSeenAgainTwiceRow : OpenClaim := { program := "ytinckfakmipmlaa", sum := "2d62496839ee36061fcbb02b1a55ba87024f2310869adc1f525e43f0aebca97e", func := "loop.example/satelliteclock/laws.FnSeenAgainTwice", spec := "fnSeenAgainTwice", apart := false }
def FnSeenAgainTwiceSaid : Prop := fnSeenAgainTwiceRow.holds Try.pinned (OpenSpec.ofChange fnSeenAgainTwiceSpec)

/-- ITS FALSE NEIGHBOUR: 'it returns false'. Refute it at one input. -/
def fnSeenAgainTwiceWrong : ChangeSpec := { name := "fnSeenAgainTwice", fn := fun _ => fun
  | [d] => { results := [.lit (.bool false)], args := [d] }
  | _ => none }
def FnSeenAgainTwiceWrongFalsely : Prop := fnSeenAgainTwiceRow.holds Try.pinned (OpenSpec.ofChange fnSeenAgainTwiceWrong)

/- THE SECOND FORM. 'bulk': how many values and letters a reading holds, each counted each time it is reached (what is shared counts as often as it is met; a slice's spare places count too). A statement '..UptoSaid' is the law's where the arguments, and the package variables that the reading takes, are together of bulk at most 1048576: NARROWER than '..Said'. Prove '..Said' where nothing that the law and all that it calls make is longer than what came in: it says more and counts as full. Else prove '..UptoSaid'. A law counts once. -/
mutual
def uptoBulk {H : Type} : DataW H → Nat
  | .lit (.string bytes) => bytes.length + 1
  | .lit _ => 1
  | .nil => 1
  | .ptr d => uptoBulk d + 1
  | .slice elems spare => uptoBulkAll elems + uptoBulkAll spare + 1
  | .agg parts => uptoBulkAll parts + 1
  | .iface _ d => uptoBulk d + 1
  | .map entries => uptoBulkEntries entries + 1
  | .held _ => 1
def uptoBulkAll {H : Type} : List (DataW H) → Nat
  | [] => 0
  | d :: r => uptoBulk d + uptoBulkAll r
def uptoBulkEntries {H : Type} : List (Lit × DataW H) → Nat
  | [] => 0
  | x :: r => uptoBulkEntry x + uptoBulkEntries r
def uptoBulkEntry {H : Type} : Lit × DataW H → Nat
  | (.string bytes, d) => bytes.length + uptoBulk d + 1
  | (_, d) => uptoBulk d + 1
 end
def uptoSmall : (H : Type) → List (DataW H) → Bool := fun _ ds => decide (uptoBulkAll ds ≤ 1048576)
def OpenSpec.upto (s : _root_.Go.ChangeSpec) : _root_.Go.OpenSpec := { _root_.Go.OpenSpec.ofChange s with cond := some uptoSmall }

/-- 'laws.FnValidState', WHERE WHAT IT READS IS OF BULK AT MOST 1048576: true; the input reads as it did. -/
def fnValidStateUptoRow : OpenClaim := { program := "ytinckfakmipmlaa", sum := "2d62496839ee36061fcbb02b1a55ba87024f2310869adc1f525e43f0aebca97e", func := "loop.example/satelliteclock/laws.FnValidState", spec := "fnValidState", apart := false, narrowed := true }
def FnValidStateUptoSaid : Prop := fnValidStateUptoRow.holds Try.pinned (OpenSpec.upto fnValidStateSpec)

/-- 'laws.FnErrorAt', WHERE WHAT IT READS IS OF BULK AT MOST 1048576: true; the input reads as it did. -/
def fnErrorAtUptoRow : OpenClaim := { program := "ytinckfakmipmlaa", sum := "2d62496839ee36061fcbb02b1a55ba87024f2310869adc1f525e43f0aebca97e", func := "loop.example/satelliteclock/laws.FnErrorAt", spec := "fnErrorAt", apart := false, narrowed := true }
def FnErrorAtUptoSaid : Prop := fnErrorAtUptoRow.holds Try.pinned (OpenSpec.upto fnErrorAtSpec)

/-- 'laws.FnErrorAtSteady', WHERE WHAT IT READS IS OF BULK AT MOST 1048576: true; the input reads as it did. -/
def fnErrorAtSteadyUptoRow : OpenClaim := { program := "ytinckfakmipmlaa", sum := "2d62496839ee36061fcbb02b1a55ba87024f2310869adc1f525e43f0aebca97e", func := "loop.example/satelliteclock/laws.FnErrorAtSteady", spec := "fnErrorAtSteady", apart := false, narrowed := true }
def FnErrorAtSteadyUptoSaid : Prop := fnErrorAtSteadyUptoRow.holds Try.pinned (OpenSpec.upto fnErrorAtSteadySpec)

/-- 'laws.FnLevelAt', WHERE WHAT IT READS IS OF BULK AT MOST 1048576: true; the input reads as it did. -/
def fnLevelAtUptoRow : OpenClaim := { program := "ytinckfakmipmlaa", sum := "2d62496839ee36061fcbb02b1a55ba87024f2310869adc1f525e43f0aebca97e", func := "loop.example/satelliteclock/laws.FnLevelAt", spec := "fnLevelAt", apart := false, narrowed := true }
def FnLevelAtUptoSaid : Prop := fnLevelAtUptoRow.holds Try.pinned (OpenSpec.upto fnLevelAtSpec)

/-- 'laws.FnLevelAtLocked', WHERE WHAT IT READS IS OF BULK AT MOST 1048576: true; the input reads as it did. -/
def fnLevelAtLockedUptoRow : OpenClaim := { program := "ytinckfakmipmlaa", sum := "2d62496839ee36061fcbb02b1a55ba87024f2310869adc1f525e43f0aebca97e", func := "loop.example/satelliteclock/laws.FnLevelAtLocked", spec := "fnLevelAtLocked", apart := false, narrowed := true }
def FnLevelAtLockedUptoSaid : Prop := fnLevelAtLockedUptoRow.holds Try.pinned (OpenSpec.upto fnLevelAtLockedSpec)

/-- 'laws.FnHoldUntil', WHERE WHAT IT READS IS OF BULK AT MOST 1048576: true; the input reads as it did. -/
def fnHoldUntilUptoRow : OpenClaim := { program := "ytinckfakmipmlaa", sum := "2d62496839ee36061fcbb02b1a55ba87024f2310869adc1f525e43f0aebca97e", func := "loop.example/satelliteclock/laws.FnHoldUntil", spec := "fnHoldUntil", apart := false, narrowed := true }
def FnHoldUntilUptoSaid : Prop := fnHoldUntilUptoRow.holds Try.pinned (OpenSpec.upto fnHoldUntilSpec)

/-- 'laws.FnHoldUntilNone', WHERE WHAT IT READS IS OF BULK AT MOST 1048576: true; the input reads as it did. -/
def fnHoldUntilNoneUptoRow : OpenClaim := { program := "ytinckfakmipmlaa", sum := "2d62496839ee36061fcbb02b1a55ba87024f2310869adc1f525e43f0aebca97e", func := "loop.example/satelliteclock/laws.FnHoldUntilNone", spec := "fnHoldUntilNone", apart := false, narrowed := true }
def FnHoldUntilNoneUptoSaid : Prop := fnHoldUntilNoneUptoRow.holds Try.pinned (OpenSpec.upto fnHoldUntilNoneSpec)

/-- 'laws.FnHoldUntilWander', WHERE WHAT IT READS IS OF BULK AT MOST 1048576: true; the input reads as it did. -/
def fnHoldUntilWanderUptoRow : OpenClaim := { program := "ytinckfakmipmlaa", sum := "2d62496839ee36061fcbb02b1a55ba87024f2310869adc1f525e43f0aebca97e", func := "loop.example/satelliteclock/laws.FnHoldUntilWander", spec := "fnHoldUntilWander", apart := false, narrowed := true }
def FnHoldUntilWanderUptoSaid : Prop := fnHoldUntilWanderUptoRow.holds Try.pinned (OpenSpec.upto fnHoldUntilWanderSpec)

/-- 'laws.FnSeenAgain', WHERE WHAT IT READS IS OF BULK AT MOST 1048576: true; the input reads as it did. -/
def fnSeenAgainUptoRow : OpenClaim := { program := "ytinckfakmipmlaa", sum := "2d62496839ee36061fcbb02b1a55ba87024f2310869adc1f525e43f0aebca97e", func := "loop.example/satelliteclock/laws.FnSeenAgain", spec := "fnSeenAgain", apart := false, narrowed := true }
def FnSeenAgainUptoSaid : Prop := fnSeenAgainUptoRow.holds Try.pinned (OpenSpec.upto fnSeenAgainSpec)

/-- 'laws.FnSeenAgainTwice', WHERE WHAT IT READS IS OF BULK AT MOST 1048576: true; the input reads as it did. -/
def fnSeenAgainTwiceUptoRow : OpenClaim := { program := "ytinckfakmipmlaa", sum := "2d62496839ee36061fcbb02b1a55ba87024f2310869adc1f525e43f0aebca97e", func := "loop.example/satelliteclock/laws.FnSeenAgainTwice", spec := "fnSeenAgainTwice", apart := false, narrowed := true }
def FnSeenAgainTwiceUptoSaid : Prop := fnSeenAgainTwiceUptoRow.holds Try.pinned (OpenSpec.upto fnSeenAgainTwiceSpec)

end Rows
end Go.Proofs.Ytinckfakmipmlaa
