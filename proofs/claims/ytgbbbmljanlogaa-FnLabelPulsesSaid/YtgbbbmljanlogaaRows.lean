/-
  No cell of these rows narrows 'for every input' (looked for: loops, veiled, ifaces, maps, wideKeys, modest, calm, conditions, laid).
  DERIVED. THE GIVEN ROWS OF THIS SEAT. 5 by the template 'for every input the law returns true; each argument reads behind the call as it read before'; 0 by the template 'total and deterministic' (their statements: YtgbbbmljanlogaaTotals.lean).
  GIVEN WITH THE SEED: the statements are not yours to turn. If you find one false, say at which input.
  Laid BY PROGRAM, IN A SANDBOX (cutbox-rows.mjs): the forced cells as the released guide's own fill.sh prints them over the translation 6c1dafd0a7e887d8… (all of the seat's roots in one cut). By AI agents, Wed Nov 11 2026. No macro, syntax, notation, axiom, sorry.
-/
import Derived.Test.YtgbbbmljanlogaaChecked
import GoSem.Claim
import GoSem.ClaimJoined
import GoSem.ClaimMapViews
import Derived.JoinedTies
import Derived.KernelRfl
namespace Go.Proofs.Ytgbbbmljanlogaa
/- THE CELL 'sum', in the pinned program and in every row, IS THE sha256 OF THE DUMP (.gsa) THAT YtgbbbmljanlogaaProg.lean LOADS. Nothing in Lean hashes anything: it is a label: what it is worth is what the hold of that sum in a sandbox is worth. -/
noncomputable def Try.pinned : Pinned := { name := "ytgbbbmljanlogaa", sum := "6c1dafd0a7e887d872b62451159e4ff43d08aadd9a9e9ac17083914e54ba19b5", checked := Try.checked }
namespace Rows
def none {H : Type} : Left H := { results := [], args := [] }

/-- 'laws.FnCleanPulsesLater': WHATEVER THE INPUT: true; the input reads as it did. -/
def fnCleanPulsesLaterSpec : ChangeSpec := { name := "fnCleanPulsesLater", fn := fun _ => fun
  | [d] => { results := [.lit (.bool true)], args := [d] }
  | _ => none }
def fnCleanPulsesLaterRow : OpenClaim := { program := "ytgbbbmljanlogaa", sum := "6c1dafd0a7e887d872b62451159e4ff43d08aadd9a9e9ac17083914e54ba19b5", func := "loop.example/satelliteclock/laws.FnCleanPulsesLater", spec := "fnCleanPulsesLater", apart := false }
def FnCleanPulsesLaterSaid : Prop := fnCleanPulsesLaterRow.holds Try.pinned (OpenSpec.ofChange fnCleanPulsesLaterSpec)

/-- ITS FALSE NEIGHBOUR: 'it returns false'. Refute it at one input. -/
def fnCleanPulsesLaterWrong : ChangeSpec := { name := "fnCleanPulsesLater", fn := fun _ => fun
  | [d] => { results := [.lit (.bool false)], args := [d] }
  | _ => none }
def FnCleanPulsesLaterWrongFalsely : Prop := fnCleanPulsesLaterRow.holds Try.pinned (OpenSpec.ofChange fnCleanPulsesLaterWrong)

/-- 'laws.FnLabelPulses': WHATEVER THE INPUT: true; the input reads as it did. -/
def fnLabelPulsesSpec : ChangeSpec := { name := "fnLabelPulses", fn := fun _ => fun
  | [d] => { results := [.lit (.bool true)], args := [d] }
  | _ => none }
def fnLabelPulsesRow : OpenClaim := { program := "ytgbbbmljanlogaa", sum := "6c1dafd0a7e887d872b62451159e4ff43d08aadd9a9e9ac17083914e54ba19b5", func := "loop.example/satelliteclock/laws.FnLabelPulses", spec := "fnLabelPulses", apart := false }
def FnLabelPulsesSaid : Prop := fnLabelPulsesRow.holds Try.pinned (OpenSpec.ofChange fnLabelPulsesSpec)

/-- ITS FALSE NEIGHBOUR: 'it returns false'. Refute it at one input. -/
def fnLabelPulsesWrong : ChangeSpec := { name := "fnLabelPulses", fn := fun _ => fun
  | [d] => { results := [.lit (.bool false)], args := [d] }
  | _ => none }
def FnLabelPulsesWrongFalsely : Prop := fnLabelPulsesRow.holds Try.pinned (OpenSpec.ofChange fnLabelPulsesWrong)

/-- 'laws.FnLabelPulsesLast': WHATEVER THE INPUT: true; the input reads as it did. -/
def fnLabelPulsesLastSpec : ChangeSpec := { name := "fnLabelPulsesLast", fn := fun _ => fun
  | [d] => { results := [.lit (.bool true)], args := [d] }
  | _ => none }
def fnLabelPulsesLastRow : OpenClaim := { program := "ytgbbbmljanlogaa", sum := "6c1dafd0a7e887d872b62451159e4ff43d08aadd9a9e9ac17083914e54ba19b5", func := "loop.example/satelliteclock/laws.FnLabelPulsesLast", spec := "fnLabelPulsesLast", apart := false }
def FnLabelPulsesLastSaid : Prop := fnLabelPulsesLastRow.holds Try.pinned (OpenSpec.ofChange fnLabelPulsesLastSpec)

/-- ITS FALSE NEIGHBOUR: 'it returns false'. Refute it at one input. -/
def fnLabelPulsesLastWrong : ChangeSpec := { name := "fnLabelPulsesLast", fn := fun _ => fun
  | [d] => { results := [.lit (.bool false)], args := [d] }
  | _ => none }
def FnLabelPulsesLastWrongFalsely : Prop := fnLabelPulsesLastRow.holds Try.pinned (OpenSpec.ofChange fnLabelPulsesLastWrong)

/-- 'laws.FnGainOfShift': WHATEVER THE INPUT: true; the input reads as it did. -/
def fnGainOfShiftSpec : ChangeSpec := { name := "fnGainOfShift", fn := fun _ => fun
  | [d] => { results := [.lit (.bool true)], args := [d] }
  | _ => none }
def fnGainOfShiftRow : OpenClaim := { program := "ytgbbbmljanlogaa", sum := "6c1dafd0a7e887d872b62451159e4ff43d08aadd9a9e9ac17083914e54ba19b5", func := "loop.example/satelliteclock/laws.FnGainOfShift", spec := "fnGainOfShift", apart := false }
def FnGainOfShiftSaid : Prop := fnGainOfShiftRow.holds Try.pinned (OpenSpec.ofChange fnGainOfShiftSpec)

/-- ITS FALSE NEIGHBOUR: 'it returns false'. Refute it at one input. -/
def fnGainOfShiftWrong : ChangeSpec := { name := "fnGainOfShift", fn := fun _ => fun
  | [d] => { results := [.lit (.bool false)], args := [d] }
  | _ => none }
def FnGainOfShiftWrongFalsely : Prop := fnGainOfShiftRow.holds Try.pinned (OpenSpec.ofChange fnGainOfShiftWrong)

/-- 'laws.FnExactLabelPulses': WHATEVER THE INPUT: true; the input reads as it did. -/
def fnExactLabelPulsesSpec : ChangeSpec := { name := "fnExactLabelPulses", fn := fun _ => fun
  | [d1, d2] => { results := [.lit (.bool true)], args := [d1, d2] }
  | _ => none }
def fnExactLabelPulsesRow : OpenClaim := { program := "ytgbbbmljanlogaa", sum := "6c1dafd0a7e887d872b62451159e4ff43d08aadd9a9e9ac17083914e54ba19b5", func := "loop.example/satelliteclock/laws.FnExactLabelPulses", spec := "fnExactLabelPulses", apart := false }
def FnExactLabelPulsesSaid : Prop := fnExactLabelPulsesRow.holds Try.pinned (OpenSpec.ofChange fnExactLabelPulsesSpec)

/-- ITS FALSE NEIGHBOUR: 'it returns false'. Refute it at one input. -/
def fnExactLabelPulsesWrong : ChangeSpec := { name := "fnExactLabelPulses", fn := fun _ => fun
  | [d1, d2] => { results := [.lit (.bool false)], args := [d1, d2] }
  | _ => none }
def FnExactLabelPulsesWrongFalsely : Prop := fnExactLabelPulsesRow.holds Try.pinned (OpenSpec.ofChange fnExactLabelPulsesWrong)

/- THE SECOND FORM. 'bulk': how many values and letters a reading holds, each counted each time it is reached (what is shared counts as often as it is met; a slice's spare places count too). A statement '..UptoSaid' is the law's where the arguments, and the package variables that the reading takes, are together of bulk at most 1048576: NARROWER than '..Said'. Prove '..Said' where nothing that the law and all that it calls make is longer than what came in: it says more and counts as full. Else prove '..UptoSaid'. A law counts once. -/
mutual
def uptoBulk {H : Type} : DataW H → Nat
  | .lit (.string bytes) => bytes.length + 1
  | .lit _ => 1
  | .nil => 1
  | .ptr d => uptoBulk d + 1
  | .slice elems spare => uptoBulkAll elems + uptoBulkAll spare + 1
  | .agg parts => uptoBulkAll parts + 1
  | .iface _ d => uptoBulk d + 1
  | .map entries => uptoBulkEntries entries + 1
  | .held _ => 1
def uptoBulkAll {H : Type} : List (DataW H) → Nat
  | [] => 0
  | d :: r => uptoBulk d + uptoBulkAll r
def uptoBulkEntries {H : Type} : List (Lit × DataW H) → Nat
  | [] => 0
  | x :: r => uptoBulkEntry x + uptoBulkEntries r
def uptoBulkEntry {H : Type} : Lit × DataW H → Nat
  | (.string bytes, d) => bytes.length + uptoBulk d + 1
  | (_, d) => uptoBulk d + 1
 end
def uptoSmall : (H : Type) → List (DataW H) → Bool := fun _ ds => decide (uptoBulkAll ds ≤ 1048576)
def OpenSpec.upto (s : _root_.Go.ChangeSpec) : _root_.Go.OpenSpec := { _root_.Go.OpenSpec.ofChange s with cond := some uptoSmall }

/-- 'laws.FnCleanPulsesLater', WHERE WHAT IT READS IS OF BULK AT MOST 1048576: true; the input reads as it did. -/
def fnCleanPulsesLaterUptoRow : OpenClaim := { program := "ytgbbbmljanlogaa", sum := "6c1dafd0a7e887d872b62451159e4ff43d08aadd9a9e9ac17083914e54ba19b5", func := "loop.example/satelliteclock/laws.FnCleanPulsesLater", spec := "fnCleanPulsesLater", apart := false, narrowed := true }
def FnCleanPulsesLaterUptoSaid : Prop := fnCleanPulsesLaterUptoRow.holds Try.pinned (OpenSpec.upto fnCleanPulsesLaterSpec)

/-- 'laws.FnLabelPulses', WHERE WHAT IT READS IS OF BULK AT MOST 1048576: true; the input reads as it did. -/
def fnLabelPulsesUptoRow : OpenClaim := { program := "ytgbbbmljanlogaa", sum := "6c1dafd0a7e887d872b62451159e4ff43d08aadd9a9e9ac17083914e54ba19b5", func := "loop.example/satelliteclock/laws.FnLabelPulses", spec := "fnLabelPulses", apart := false, narrowed := true }
def FnLabelPulsesUptoSaid : Prop := fnLabelPulsesUptoRow.holds Try.pinned (OpenSpec.upto fnLabelPulsesSpec)

/-- 'laws.FnLabelPulsesLast', WHERE WHAT IT READS IS OF BULK AT MOST 1048576: true; the input reads as it did. -/
def fnLabelPulsesLastUptoRow : OpenClaim := { program := "ytgbbbmljanlogaa", sum := "6c1dafd0a7e887d872b62451159e4ff43d08aadd9a9e9ac17083914e54ba19b5", func := "loop.example/satelliteclock/laws.FnLabelPulsesLast", spec := "fnLabelPulsesLast", apart := false, narrowed := true }
def FnLabelPulsesLastUptoSaid : Prop := fnLabelPulsesLastUptoRow.holds Try.pinned (OpenSpec.upto fnLabelPulsesLastSpec)

/-- 'laws.FnGainOfShift', WHERE WHAT IT READS IS OF BULK AT MOST 1048576: true; the input reads as it did. -/
def fnGainOfShiftUptoRow : OpenClaim := { program := "ytgbbbmljanlogaa", sum := "6c1dafd0a7e887d872b62451159e4ff43d08aadd9a9e9ac17083914e54ba19b5", func := "loop.example/satelliteclock/laws.FnGainOfShift", spec := "fnGainOfShift", apart := false, narrowed := true }
def FnGainOfShiftUptoSaid : Prop := fnGainOfShiftUptoRow.holds Try.pinned (OpenSpec.upto fnGainOfShiftSpec)

/-- 'laws.FnExactLabelPulses', WHERE WHAT IT READS IS OF BULK AT MOST 1048576: true; the input reads as it did. -/
def fnExactLabelPulsesUptoRow : OpenClaim := { program := "ytgbbbmljanlogaa", sum := "6c1dafd0a7e887d872b62451159e4ff43d08aadd9a9e9ac17083914e54ba19b5", func := "loop.example/satelliteclock/laws.FnExactLabelPulses", spec := "fnExactLabelPulses", apart := false, narrowed := true }
def FnExactLabelPulsesUptoSaid : Prop := fnExactLabelPulsesUptoRow.holds Try.pinned (OpenSpec.upto fnExactLabelPulsesSpec)

end Rows
end Go.Proofs.Ytgbbbmljanlogaa
