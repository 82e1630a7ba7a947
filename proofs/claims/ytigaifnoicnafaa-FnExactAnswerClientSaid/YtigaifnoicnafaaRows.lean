/-
  No cell of these rows narrows 'for every input' (looked for: loops, veiled, ifaces, maps, wideKeys, modest, calm, conditions, laid).
  DERIVED. THE GIVEN ROWS OF THIS SEAT. 9 by the template 'for every input the law returns true; each argument reads behind the call as it read before'; 0 by the template 'total and deterministic' (their statements: YtigaifnoicnafaaTotals.lean).
  GIVEN WITH THE SEED: the statements are not yours to turn. If you find one false, say at which input.
  Laid BY PROGRAM, IN A SANDBOX (cutbox-rows.mjs): the forced cells as the released guide's own fill.sh prints them over the translation 7f2a486f63b787aa… (all of the seat's roots in one cut). By AI agents, Wed Nov 11 2026. No macro, syntax, notation, axiom, sorry.
-/
import Derived.Test.YtigaifnoicnafaaChecked
import GoSem.Claim
import GoSem.ClaimJoined
import GoSem.ClaimMapViews
import Derived.JoinedTies
import Derived.KernelRfl
namespace Go.Proofs.Ytigaifnoicnafaa
/- THE CELL 'sum', in the pinned program and in every row, IS THE sha256 OF THE DUMP (.gsa) THAT YtigaifnoicnafaaProg.lean LOADS. Nothing in Lean hashes anything: it is a label: what it is worth is what the hold of that sum in a sandbox is worth. -/
noncomputable def Try.pinned : Pinned := { name := "ytigaifnoicnafaa", sum := "7f2a486f63b787aad4843a91f7cc7826b9aad92f773750aad96f2d7288078d85", checked := Try.checked }
namespace Rows
def none {H : Type} : Left H := { results := [], args := [] }

/-- 'laws.FnAskServer': WHATEVER THE INPUT: true; the input reads as it did. -/
def fnAskServerSpec : ChangeSpec := { name := "fnAskServer", fn := fun _ => fun
  | [d] => { results := [.lit (.bool true)], args := [d] }
  | _ => none }
def fnAskServerRow : OpenClaim := { program := "ytigaifnoicnafaa", sum := "7f2a486f63b787aad4843a91f7cc7826b9aad92f773750aad96f2d7288078d85", func := "loop.example/satelliteclock/laws.FnAskServer", spec := "fnAskServer", apart := false }
def FnAskServerSaid : Prop := fnAskServerRow.holds Try.pinned (OpenSpec.ofChange fnAskServerSpec)

/-- ITS FALSE NEIGHBOUR: 'it returns false'. Refute it at one input. -/
def fnAskServerWrong : ChangeSpec := { name := "fnAskServer", fn := fun _ => fun
  | [d] => { results := [.lit (.bool false)], args := [d] }
  | _ => none }
def FnAskServerWrongFalsely : Prop := fnAskServerRow.holds Try.pinned (OpenSpec.ofChange fnAskServerWrong)

/-- 'laws.FnAnswerClient': WHATEVER THE INPUT: true; the input reads as it did. -/
def fnAnswerClientSpec : ChangeSpec := { name := "fnAnswerClient", fn := fun _ => fun
  | [d] => { results := [.lit (.bool true)], args := [d] }
  | _ => none }
def fnAnswerClientRow : OpenClaim := { program := "ytigaifnoicnafaa", sum := "7f2a486f63b787aad4843a91f7cc7826b9aad92f773750aad96f2d7288078d85", func := "loop.example/satelliteclock/laws.FnAnswerClient", spec := "fnAnswerClient", apart := false }
def FnAnswerClientSaid : Prop := fnAnswerClientRow.holds Try.pinned (OpenSpec.ofChange fnAnswerClientSpec)

/-- ITS FALSE NEIGHBOUR: 'it returns false'. Refute it at one input. -/
def fnAnswerClientWrong : ChangeSpec := { name := "fnAnswerClient", fn := fun _ => fun
  | [d] => { results := [.lit (.bool false)], args := [d] }
  | _ => none }
def FnAnswerClientWrongFalsely : Prop := fnAnswerClientRow.holds Try.pinned (OpenSpec.ofChange fnAnswerClientWrong)

/-- 'laws.FnAnswerClientTake': WHATEVER THE INPUT: true; the input reads as it did. -/
def fnAnswerClientTakeSpec : ChangeSpec := { name := "fnAnswerClientTake", fn := fun _ => fun
  | [d] => { results := [.lit (.bool true)], args := [d] }
  | _ => none }
def fnAnswerClientTakeRow : OpenClaim := { program := "ytigaifnoicnafaa", sum := "7f2a486f63b787aad4843a91f7cc7826b9aad92f773750aad96f2d7288078d85", func := "loop.example/satelliteclock/laws.FnAnswerClientTake", spec := "fnAnswerClientTake", apart := false }
def FnAnswerClientTakeSaid : Prop := fnAnswerClientTakeRow.holds Try.pinned (OpenSpec.ofChange fnAnswerClientTakeSpec)

/-- ITS FALSE NEIGHBOUR: 'it returns false'. Refute it at one input. -/
def fnAnswerClientTakeWrong : ChangeSpec := { name := "fnAnswerClientTake", fn := fun _ => fun
  | [d] => { results := [.lit (.bool false)], args := [d] }
  | _ => none }
def FnAnswerClientTakeWrongFalsely : Prop := fnAnswerClientTakeRow.holds Try.pinned (OpenSpec.ofChange fnAnswerClientTakeWrong)

/-- 'laws.FnTakeAnswer': WHATEVER THE INPUT: true; the input reads as it did. -/
def fnTakeAnswerSpec : ChangeSpec := { name := "fnTakeAnswer", fn := fun _ => fun
  | [d] => { results := [.lit (.bool true)], args := [d] }
  | _ => none }
def fnTakeAnswerRow : OpenClaim := { program := "ytigaifnoicnafaa", sum := "7f2a486f63b787aad4843a91f7cc7826b9aad92f773750aad96f2d7288078d85", func := "loop.example/satelliteclock/laws.FnTakeAnswer", spec := "fnTakeAnswer", apart := false }
def FnTakeAnswerSaid : Prop := fnTakeAnswerRow.holds Try.pinned (OpenSpec.ofChange fnTakeAnswerSpec)

/-- ITS FALSE NEIGHBOUR: 'it returns false'. Refute it at one input. -/
def fnTakeAnswerWrong : ChangeSpec := { name := "fnTakeAnswer", fn := fun _ => fun
  | [d] => { results := [.lit (.bool false)], args := [d] }
  | _ => none }
def FnTakeAnswerWrongFalsely : Prop := fnTakeAnswerRow.holds Try.pinned (OpenSpec.ofChange fnTakeAnswerWrong)

/-- 'laws.FnTakeAnswerLate': WHATEVER THE INPUT: true; the input reads as it did. -/
def fnTakeAnswerLateSpec : ChangeSpec := { name := "fnTakeAnswerLate", fn := fun _ => fun
  | [d] => { results := [.lit (.bool true)], args := [d] }
  | _ => none }
def fnTakeAnswerLateRow : OpenClaim := { program := "ytigaifnoicnafaa", sum := "7f2a486f63b787aad4843a91f7cc7826b9aad92f773750aad96f2d7288078d85", func := "loop.example/satelliteclock/laws.FnTakeAnswerLate", spec := "fnTakeAnswerLate", apart := false }
def FnTakeAnswerLateSaid : Prop := fnTakeAnswerLateRow.holds Try.pinned (OpenSpec.ofChange fnTakeAnswerLateSpec)

/-- ITS FALSE NEIGHBOUR: 'it returns false'. Refute it at one input. -/
def fnTakeAnswerLateWrong : ChangeSpec := { name := "fnTakeAnswerLate", fn := fun _ => fun
  | [d] => { results := [.lit (.bool false)], args := [d] }
  | _ => none }
def FnTakeAnswerLateWrongFalsely : Prop := fnTakeAnswerLateRow.holds Try.pinned (OpenSpec.ofChange fnTakeAnswerLateWrong)

/-- 'laws.FnAnswerClientAlarm': WHATEVER THE INPUT: true; the input reads as it did. -/
def fnAnswerClientAlarmSpec : ChangeSpec := { name := "fnAnswerClientAlarm", fn := fun _ => fun
  | [d] => { results := [.lit (.bool true)], args := [d] }
  | _ => none }
def fnAnswerClientAlarmRow : OpenClaim := { program := "ytigaifnoicnafaa", sum := "7f2a486f63b787aad4843a91f7cc7826b9aad92f773750aad96f2d7288078d85", func := "loop.example/satelliteclock/laws.FnAnswerClientAlarm", spec := "fnAnswerClientAlarm", apart := false }
def FnAnswerClientAlarmSaid : Prop := fnAnswerClientAlarmRow.holds Try.pinned (OpenSpec.ofChange fnAnswerClientAlarmSpec)

/-- ITS FALSE NEIGHBOUR: 'it returns false'. Refute it at one input. -/
def fnAnswerClientAlarmWrong : ChangeSpec := { name := "fnAnswerClientAlarm", fn := fun _ => fun
  | [d] => { results := [.lit (.bool false)], args := [d] }
  | _ => none }
def FnAnswerClientAlarmWrongFalsely : Prop := fnAnswerClientAlarmRow.holds Try.pinned (OpenSpec.ofChange fnAnswerClientAlarmWrong)

/-- 'laws.FnExactAskServer': WHATEVER THE INPUT: true; the input reads as it did. -/
def fnExactAskServerSpec : ChangeSpec := { name := "fnExactAskServer", fn := fun _ => fun
  | [d] => { results := [.lit (.bool true)], args := [d] }
  | _ => none }
def fnExactAskServerRow : OpenClaim := { program := "ytigaifnoicnafaa", sum := "7f2a486f63b787aad4843a91f7cc7826b9aad92f773750aad96f2d7288078d85", func := "loop.example/satelliteclock/laws.FnExactAskServer", spec := "fnExactAskServer", apart := false }
def FnExactAskServerSaid : Prop := fnExactAskServerRow.holds Try.pinned (OpenSpec.ofChange fnExactAskServerSpec)

/-- ITS FALSE NEIGHBOUR: 'it returns false'. Refute it at one input. -/
def fnExactAskServerWrong : ChangeSpec := { name := "fnExactAskServer", fn := fun _ => fun
  | [d] => { results := [.lit (.bool false)], args := [d] }
  | _ => none }
def FnExactAskServerWrongFalsely : Prop := fnExactAskServerRow.holds Try.pinned (OpenSpec.ofChange fnExactAskServerWrong)

/-- 'laws.FnExactAnswerClient': WHATEVER THE INPUT: true; the input reads as it did. -/
def fnExactAnswerClientSpec : ChangeSpec := { name := "fnExactAnswerClient", fn := fun _ => fun
  | [d1, d2, d3, d4, d5] => { results := [.lit (.bool true)], args := [d1, d2, d3, d4, d5] }
  | _ => none }
def fnExactAnswerClientRow : OpenClaim := { program := "ytigaifnoicnafaa", sum := "7f2a486f63b787aad4843a91f7cc7826b9aad92f773750aad96f2d7288078d85", func := "loop.example/satelliteclock/laws.FnExactAnswerClient", spec := "fnExactAnswerClient", apart := false }
def FnExactAnswerClientSaid : Prop := fnExactAnswerClientRow.holds Try.pinned (OpenSpec.ofChange fnExactAnswerClientSpec)

/-- ITS FALSE NEIGHBOUR: 'it returns false'. Refute it at one input. -/
def fnExactAnswerClientWrong : ChangeSpec := { name := "fnExactAnswerClient", fn := fun _ => fun
  | [d1, d2, d3, d4, d5] => { results := [.lit (.bool false)], args := [d1, d2, d3, d4, d5] }
  | _ => none }
def FnExactAnswerClientWrongFalsely : Prop := fnExactAnswerClientRow.holds Try.pinned (OpenSpec.ofChange fnExactAnswerClientWrong)

/-- 'laws.FnExactTakeAnswer': WHATEVER THE INPUT: true; the input reads as it did. -/
def fnExactTakeAnswerSpec : ChangeSpec := { name := "fnExactTakeAnswer", fn := fun _ => fun
  | [d1, d2, d3] => { results := [.lit (.bool true)], args := [d1, d2, d3] }
  | _ => none }
def fnExactTakeAnswerRow : OpenClaim := { program := "ytigaifnoicnafaa", sum := "7f2a486f63b787aad4843a91f7cc7826b9aad92f773750aad96f2d7288078d85", func := "loop.example/satelliteclock/laws.FnExactTakeAnswer", spec := "fnExactTakeAnswer", apart := false }
def FnExactTakeAnswerSaid : Prop := fnExactTakeAnswerRow.holds Try.pinned (OpenSpec.ofChange fnExactTakeAnswerSpec)

/-- ITS FALSE NEIGHBOUR: 'it returns false'. Refute it at one input. -/
def fnExactTakeAnswerWrong : ChangeSpec := { name := "fnExactTakeAnswer", fn := fun _ => fun
  | [d1, d2, d3] => { results := [.lit (.bool false)], args := [d1, d2, d3] }
  | _ => none }
def FnExactTakeAnswerWrongFalsely : Prop := fnExactTakeAnswerRow.holds Try.pinned (OpenSpec.ofChange fnExactTakeAnswerWrong)

/- THE SECOND FORM. 'bulk': how many values and letters a reading holds, each counted each time it is reached (what is shared counts as often as it is met; a slice's spare places count too). A statement '..UptoSaid' is the law's where the arguments, and the package variables that the reading takes, are together of bulk at most 1048576: NARROWER than '..Said'. Prove '..Said' where nothing that the law and all that it calls make is longer than what came in: it says more and counts as full. Else prove '..UptoSaid'. A law counts once. -/
mutual
def uptoBulk {H : Type} : DataW H → Nat
  | .lit (.string bytes) => bytes.length + 1
  | .lit _ => 1
  | .nil => 1
  | .ptr d => uptoBulk d + 1
  | .slice elems spare => uptoBulkAll elems + uptoBulkAll spare + 1
  | .agg parts => uptoBulkAll parts + 1
  | .iface _ d => uptoBulk d + 1
  | .map entries => uptoBulkEntries entries + 1
  | .held _ => 1
def uptoBulkAll {H : Type} : List (DataW H) → Nat
  | [] => 0
  | d :: r => uptoBulk d + uptoBulkAll r
def uptoBulkEntries {H : Type} : List (Lit × DataW H) → Nat
  | [] => 0
  | x :: r => uptoBulkEntry x + uptoBulkEntries r
def uptoBulkEntry {H : Type} : Lit × DataW H → Nat
  | (.string bytes, d) => bytes.length + uptoBulk d + 1
  | (_, d) => uptoBulk d + 1
 end
def uptoSmall : (H : Type) → List (DataW H) → Bool := fun _ ds => decide (uptoBulkAll ds ≤ 1048576)
def OpenSpec.upto (s : _root_.Go.ChangeSpec) : _root_.Go.OpenSpec := { _root_.Go.OpenSpec.ofChange s with cond := some uptoSmall }

/-- 'laws.FnAskServer', WHERE WHAT IT READS IS OF BULK AT MOST 1048576: true; the input reads as it did. -/
def fnAskServerUptoRow : OpenClaim := { program := "ytigaifnoicnafaa", sum := "7f2a486f63b787aad4843a91f7cc7826b9aad92f773750aad96f2d7288078d85", func := "loop.example/satelliteclock/laws.FnAskServer", spec := "fnAskServer", apart := false, narrowed := true }
def FnAskServerUptoSaid : Prop := fnAskServerUptoRow.holds Try.pinned (OpenSpec.upto fnAskServerSpec)

/-- 'laws.FnAnswerClient', WHERE WHAT IT READS IS OF BULK AT MOST 1048576: true; the input reads as it did. -/
def fnAnswerClientUptoRow : OpenClaim := { program := "ytigaifnoicnafaa", sum := "7f2a486f63b787aad4843a91f7cc7826b9aad92f773750aad96f2d7288078d85", func := "loop.example/satelliteclock/laws.FnAnswerClient", spec := "fnAnswerClient", apart := false, narrowed := true }
def FnAnswerClientUptoSaid : Prop := fnAnswerClientUptoRow.holds Try.pinned (OpenSpec.upto fnAnswerClientSpec)

/-- 'laws.FnAnswerClientTake', WHERE WHAT IT READS IS OF BULK AT MOST 1048576: true; the input reads as it did. -/
def fnAnswerClientTakeUptoRow : OpenClaim := { program := "ytigaifnoicnafaa", sum := "7f2a486f63b787aad4843a91f7cc7826b9aad92f773750aad96f2d7288078d85", func := "loop.example/satelliteclock/laws.FnAnswerClientTake", spec := "fnAnswerClientTake", apart := false, narrowed := true }
def FnAnswerClientTakeUptoSaid : Prop := fnAnswerClientTakeUptoRow.holds Try.pinned (OpenSpec.upto fnAnswerClientTakeSpec)

/-- 'laws.FnTakeAnswer', WHERE WHAT IT READS IS OF BULK AT MOST 1048576: true; the input reads as it did. -/
def fnTakeAnswerUptoRow : OpenClaim := { program := "ytigaifnoicnafaa", sum := "7f2a486f63b787aad4843a91f7cc7826b9aad92f773750aad96f2d7288078d85", func := "loop.example/satelliteclock/laws.FnTakeAnswer", spec := "fnTakeAnswer", apart := false, narrowed := true }
def FnTakeAnswerUptoSaid : Prop := fnTakeAnswerUptoRow.holds Try.pinned (OpenSpec.upto fnTakeAnswerSpec)

/-- 'laws.FnTakeAnswerLate', WHERE WHAT IT READS IS OF BULK AT MOST 1048576: true; the input reads as it did. -/
def fnTakeAnswerLateUptoRow : OpenClaim := { program := "ytigaifnoicnafaa", sum := "7f2a486f63b787aad4843a91f7cc7826b9aad92f773750aad96f2d7288078d85", func := "loop.example/satelliteclock/laws.FnTakeAnswerLate", spec := "fnTakeAnswerLate", apart := false, narrowed := true }
def FnTakeAnswerLateUptoSaid : Prop := fnTakeAnswerLateUptoRow.holds Try.pinned (OpenSpec.upto fnTakeAnswerLateSpec)

/-- 'laws.FnAnswerClientAlarm', WHERE WHAT IT READS IS OF BULK AT MOST 1048576: true; the input reads as it did. -/
def fnAnswerClientAlarmUptoRow : OpenClaim := { program := "ytigaifnoicnafaa", sum := "7f2a486f63b787aad4843a91f7cc7826b9aad92f773750aad96f2d7288078d85", func := "loop.example/satelliteclock/laws.FnAnswerClientAlarm", spec := "fnAnswerClientAlarm", apart := false, narrowed := true }
def FnAnswerClientAlarmUptoSaid : Prop := fnAnswerClientAlarmUptoRow.holds Try.pinned (OpenSpec.upto fnAnswerClientAlarmSpec)

/-- 'laws.FnExactAskServer', WHERE WHAT IT READS IS OF BULK AT MOST 1048576: true; the input reads as it did. -/
def fnExactAskServerUptoRow : OpenClaim := { program := "ytigaifnoicnafaa", sum := "7f2a486f63b787aad4843a91f7cc7826b9aad92f773750aad96f2d7288078d85", func := "loop.example/satelliteclock/laws.FnExactAskServer", spec := "fnExactAskServer", apart := false, narrowed := true }
def FnExactAskServerUptoSaid : Prop := fnExactAskServerUptoRow.holds Try.pinned (OpenSpec.upto fnExactAskServerSpec)

/-- 'laws.FnExactAnswerClient', WHERE WHAT IT READS IS OF BULK AT MOST 1048576: true; the input reads as it did. -/
def fnExactAnswerClientUptoRow : OpenClaim := { program := "ytigaifnoicnafaa", sum := "7f2a486f63b787aad4843a91f7cc7826b9aad92f773750aad96f2d7288078d85", func := "loop.example/satelliteclock/laws.FnExactAnswerClient", spec := "fnExactAnswerClient", apart := false, narrowed := true }
def FnExactAnswerClientUptoSaid : Prop := fnExactAnswerClientUptoRow.holds Try.pinned (OpenSpec.upto fnExactAnswerClientSpec)

/-- 'laws.FnExactTakeAnswer', WHERE WHAT IT READS IS OF BULK AT MOST 1048576: true; the input reads as it did. -/
def fnExactTakeAnswerUptoRow : OpenClaim := { program := "ytigaifnoicnafaa", sum := "7f2a486f63b787aad4843a91f7cc7826b9aad92f773750aad96f2d7288078d85", func := "loop.example/satelliteclock/laws.FnExactTakeAnswer", spec := "fnExactTakeAnswer", apart := false, narrowed := true }
def FnExactTakeAnswerUptoSaid : Prop := fnExactTakeAnswerUptoRow.holds Try.pinned (OpenSpec.upto fnExactTakeAnswerSpec)

end Rows
end Go.Proofs.Ytigaifnoicnafaa
