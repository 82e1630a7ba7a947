/-
  No cell of these rows narrows 'for every input' (looked for: loops, veiled, ifaces, maps, wideKeys, modest, calm, conditions, laid).
  DERIVED. THE GIVEN ROWS OF THIS SEAT. 9 by the template 'for every input the law returns true; each argument reads behind the call as it read before'; 0 by the template 'total and deterministic' (their statements: YtealpfkandgjdaaTotals.lean).
  GIVEN WITH THE SEED: the statements are not yours to turn. If you find one false, say at which input.
  Laid BY PROGRAM, IN A SANDBOX (cutbox-rows.mjs): the forced cells as the released guide's own fill.sh prints them over the translation cab1464a449a6089… (all of the seat's roots in one cut). By AI agents, Wed Nov 11 2026. No macro, syntax, notation, axiom, sorry.
-/
import Derived.Test.YtealpfkandgjdaaChecked
import GoSem.Claim
import GoSem.ClaimJoined
import GoSem.ClaimMapViews
import Derived.JoinedTies
import Derived.KernelRfl
namespace Go.Proofs.Ytealpfkandgjdaa
/- THE CELL 'sum', in the pinned program and in every row, IS THE sha256 OF THE DUMP (.gsa) THAT YtealpfkandgjdaaProg.lean LOADS. Nothing in Lean hashes anything: it is a label: what it is worth is what the hold of that sum in a sandbox is worth. -/
noncomputable def Try.pinned : Pinned := { name := "ytealpfkandgjdaa", sum := "cab1464a449a6089f78d1885e4ec0ce96a6caefee0992b209ed5c6d51c556952", checked := Try.checked }
namespace Rows
def none {H : Type} : Left H := { results := [], args := [] }

/-- 'laws.FnSmearAt': WHATEVER THE INPUT: true; the input reads as it did. -/
def fnSmearAtSpec : ChangeSpec := { name := "fnSmearAt", fn := fun _ => fun
  | [d] => { results := [.lit (.bool true)], args := [d] }
  | _ => none }
def fnSmearAtRow : OpenClaim := { program := "ytealpfkandgjdaa", sum := "cab1464a449a6089f78d1885e4ec0ce96a6caefee0992b209ed5c6d51c556952", func := "loop.example/satelliteclock/laws.FnSmearAt", spec := "fnSmearAt", apart := false }
def FnSmearAtSaid : Prop := fnSmearAtRow.holds Try.pinned (OpenSpec.ofChange fnSmearAtSpec)

/-- ITS FALSE NEIGHBOUR: 'it returns false'. Refute it at one input. -/
def fnSmearAtWrong : ChangeSpec := { name := "fnSmearAt", fn := fun _ => fun
  | [d] => { results := [.lit (.bool false)], args := [d] }
  | _ => none }
def FnSmearAtWrongFalsely : Prop := fnSmearAtRow.holds Try.pinned (OpenSpec.ofChange fnSmearAtWrong)

/-- 'laws.FnSmearAtEnds': WHATEVER THE INPUT: true; the input reads as it did. -/
def fnSmearAtEndsSpec : ChangeSpec := { name := "fnSmearAtEnds", fn := fun _ => fun
  | [d] => { results := [.lit (.bool true)], args := [d] }
  | _ => none }
def fnSmearAtEndsRow : OpenClaim := { program := "ytealpfkandgjdaa", sum := "cab1464a449a6089f78d1885e4ec0ce96a6caefee0992b209ed5c6d51c556952", func := "loop.example/satelliteclock/laws.FnSmearAtEnds", spec := "fnSmearAtEnds", apart := false }
def FnSmearAtEndsSaid : Prop := fnSmearAtEndsRow.holds Try.pinned (OpenSpec.ofChange fnSmearAtEndsSpec)

/-- ITS FALSE NEIGHBOUR: 'it returns false'. Refute it at one input. -/
def fnSmearAtEndsWrong : ChangeSpec := { name := "fnSmearAtEnds", fn := fun _ => fun
  | [d] => { results := [.lit (.bool false)], args := [d] }
  | _ => none }
def FnSmearAtEndsWrongFalsely : Prop := fnSmearAtEndsRow.holds Try.pinned (OpenSpec.ofChange fnSmearAtEndsWrong)

/-- 'laws.FnSmearedStamp': WHATEVER THE INPUT: true; the input reads as it did. -/
def fnSmearedStampSpec : ChangeSpec := { name := "fnSmearedStamp", fn := fun _ => fun
  | [d] => { results := [.lit (.bool true)], args := [d] }
  | _ => none }
def fnSmearedStampRow : OpenClaim := { program := "ytealpfkandgjdaa", sum := "cab1464a449a6089f78d1885e4ec0ce96a6caefee0992b209ed5c6d51c556952", func := "loop.example/satelliteclock/laws.FnSmearedStamp", spec := "fnSmearedStamp", apart := false }
def FnSmearedStampSaid : Prop := fnSmearedStampRow.holds Try.pinned (OpenSpec.ofChange fnSmearedStampSpec)

/-- ITS FALSE NEIGHBOUR: 'it returns false'. Refute it at one input. -/
def fnSmearedStampWrong : ChangeSpec := { name := "fnSmearedStamp", fn := fun _ => fun
  | [d] => { results := [.lit (.bool false)], args := [d] }
  | _ => none }
def FnSmearedStampWrongFalsely : Prop := fnSmearedStampRow.holds Try.pinned (OpenSpec.ofChange fnSmearedStampWrong)

/-- 'laws.FnSmearDone': WHATEVER THE INPUT: true; the input reads as it did. -/
def fnSmearDoneSpec : ChangeSpec := { name := "fnSmearDone", fn := fun _ => fun
  | [d] => { results := [.lit (.bool true)], args := [d] }
  | _ => none }
def fnSmearDoneRow : OpenClaim := { program := "ytealpfkandgjdaa", sum := "cab1464a449a6089f78d1885e4ec0ce96a6caefee0992b209ed5c6d51c556952", func := "loop.example/satelliteclock/laws.FnSmearDone", spec := "fnSmearDone", apart := false }
def FnSmearDoneSaid : Prop := fnSmearDoneRow.holds Try.pinned (OpenSpec.ofChange fnSmearDoneSpec)

/-- ITS FALSE NEIGHBOUR: 'it returns false'. Refute it at one input. -/
def fnSmearDoneWrong : ChangeSpec := { name := "fnSmearDone", fn := fun _ => fun
  | [d] => { results := [.lit (.bool false)], args := [d] }
  | _ => none }
def FnSmearDoneWrongFalsely : Prop := fnSmearDoneRow.holds Try.pinned (OpenSpec.ofChange fnSmearDoneWrong)

/-- 'laws.FnSmearDoneAll': WHATEVER THE INPUT: true; the input reads as it did. -/
def fnSmearDoneAllSpec : ChangeSpec := { name := "fnSmearDoneAll", fn := fun _ => fun
  | [d] => { results := [.lit (.bool true)], args := [d] }
  | _ => none }
def fnSmearDoneAllRow : OpenClaim := { program := "ytealpfkandgjdaa", sum := "cab1464a449a6089f78d1885e4ec0ce96a6caefee0992b209ed5c6d51c556952", func := "loop.example/satelliteclock/laws.FnSmearDoneAll", spec := "fnSmearDoneAll", apart := false }
def FnSmearDoneAllSaid : Prop := fnSmearDoneAllRow.holds Try.pinned (OpenSpec.ofChange fnSmearDoneAllSpec)

/-- ITS FALSE NEIGHBOUR: 'it returns false'. Refute it at one input. -/
def fnSmearDoneAllWrong : ChangeSpec := { name := "fnSmearDoneAll", fn := fun _ => fun
  | [d] => { results := [.lit (.bool false)], args := [d] }
  | _ => none }
def FnSmearDoneAllWrongFalsely : Prop := fnSmearDoneAllRow.holds Try.pinned (OpenSpec.ofChange fnSmearDoneAllWrong)

/-- 'laws.FnSmearAtShift': WHATEVER THE INPUT: true; the input reads as it did. -/
def fnSmearAtShiftSpec : ChangeSpec := { name := "fnSmearAtShift", fn := fun _ => fun
  | [d] => { results := [.lit (.bool true)], args := [d] }
  | _ => none }
def fnSmearAtShiftRow : OpenClaim := { program := "ytealpfkandgjdaa", sum := "cab1464a449a6089f78d1885e4ec0ce96a6caefee0992b209ed5c6d51c556952", func := "loop.example/satelliteclock/laws.FnSmearAtShift", spec := "fnSmearAtShift", apart := false }
def FnSmearAtShiftSaid : Prop := fnSmearAtShiftRow.holds Try.pinned (OpenSpec.ofChange fnSmearAtShiftSpec)

/-- ITS FALSE NEIGHBOUR: 'it returns false'. Refute it at one input. -/
def fnSmearAtShiftWrong : ChangeSpec := { name := "fnSmearAtShift", fn := fun _ => fun
  | [d] => { results := [.lit (.bool false)], args := [d] }
  | _ => none }
def FnSmearAtShiftWrongFalsely : Prop := fnSmearAtShiftRow.holds Try.pinned (OpenSpec.ofChange fnSmearAtShiftWrong)

/-- 'laws.FnExactSmearAt': WHATEVER THE INPUT: true; the input reads as it did. -/
def fnExactSmearAtSpec : ChangeSpec := { name := "fnExactSmearAt", fn := fun _ => fun
  | [d1, d2] => { results := [.lit (.bool true)], args := [d1, d2] }
  | _ => none }
def fnExactSmearAtRow : OpenClaim := { program := "ytealpfkandgjdaa", sum := "cab1464a449a6089f78d1885e4ec0ce96a6caefee0992b209ed5c6d51c556952", func := "loop.example/satelliteclock/laws.FnExactSmearAt", spec := "fnExactSmearAt", apart := false }
def FnExactSmearAtSaid : Prop := fnExactSmearAtRow.holds Try.pinned (OpenSpec.ofChange fnExactSmearAtSpec)

/-- ITS FALSE NEIGHBOUR: 'it returns false'. Refute it at one input. -/
def fnExactSmearAtWrong : ChangeSpec := { name := "fnExactSmearAt", fn := fun _ => fun
  | [d1, d2] => { results := [.lit (.bool false)], args := [d1, d2] }
  | _ => none }
def FnExactSmearAtWrongFalsely : Prop := fnExactSmearAtRow.holds Try.pinned (OpenSpec.ofChange fnExactSmearAtWrong)

/-- 'laws.FnExactSmearedStamp': WHATEVER THE INPUT: true; the input reads as it did. -/
def fnExactSmearedStampSpec : ChangeSpec := { name := "fnExactSmearedStamp", fn := fun _ => fun
  | [d1, d2] => { results := [.lit (.bool true)], args := [d1, d2] }
  | _ => none }
def fnExactSmearedStampRow : OpenClaim := { program := "ytealpfkandgjdaa", sum := "cab1464a449a6089f78d1885e4ec0ce96a6caefee0992b209ed5c6d51c556952", func := "loop.example/satelliteclock/laws.FnExactSmearedStamp", spec := "fnExactSmearedStamp", apart := false }
def FnExactSmearedStampSaid : Prop := fnExactSmearedStampRow.holds Try.pinned (OpenSpec.ofChange fnExactSmearedStampSpec)

/-- ITS FALSE NEIGHBOUR: 'it returns false'. Refute it at one input. -/
def fnExactSmearedStampWrong : ChangeSpec := { name := "fnExactSmearedStamp", fn := fun _ => fun
  | [d1, d2] => { results := [.lit (.bool false)], args := [d1, d2] }
  | _ => none }
def FnExactSmearedStampWrongFalsely : Prop := fnExactSmearedStampRow.holds Try.pinned (OpenSpec.ofChange fnExactSmearedStampWrong)

/-- 'laws.FnExactSmearDone': WHATEVER THE INPUT: true; the input reads as it did. -/
def fnExactSmearDoneSpec : ChangeSpec := { name := "fnExactSmearDone", fn := fun _ => fun
  | [d1, d2] => { results := [.lit (.bool true)], args := [d1, d2] }
  | _ => none }
def fnExactSmearDoneRow : OpenClaim := { program := "ytealpfkandgjdaa", sum := "cab1464a449a6089f78d1885e4ec0ce96a6caefee0992b209ed5c6d51c556952", func := "loop.example/satelliteclock/laws.FnExactSmearDone", spec := "fnExactSmearDone", apart := false }
def FnExactSmearDoneSaid : Prop := fnExactSmearDoneRow.holds Try.pinned (OpenSpec.ofChange fnExactSmearDoneSpec)

/-- ITS FALSE NEIGHBOUR: 'it returns false'. Refute it at one input. -/
def fnExactSmearDoneWrong : ChangeSpec := { name := "fnExactSmearDone", fn := fun _ => fun
  | [d1, d2] => { results := [.lit (.bool false)], args := [d1, d2] }
  | _ => none }
def FnExactSmearDoneWrongFalsely : Prop := fnExactSmearDoneRow.holds Try.pinned (OpenSpec.ofChange fnExactSmearDoneWrong)

/- THE SECOND FORM. 'bulk': how many values and letters a reading holds, each counted each time it is reached (what is shared counts as often as it is met; a slice's spare places count too). A statement '..UptoSaid' is the law's where the arguments, and the package variables that the reading takes, are together of bulk at most 1048576: NARROWER than '..Said'. Prove '..Said' where nothing that the law and all that it calls make is longer than what came in: it says more and counts as full. Else prove '..UptoSaid'. A law counts once. -/
mutual
def uptoBulk {H : Type} : DataW H → Nat
  | .lit (.string bytes) => bytes.length + 1
  | .lit _ => 1
  | .nil => 1
  | .ptr d => uptoBulk d + 1
  | .slice elems spare => uptoBulkAll elems + uptoBulkAll spare + 1
  | .agg parts => uptoBulkAll parts + 1
  | .iface _ d => uptoBulk d + 1
  | .map entries => uptoBulkEntries entries + 1
  | .held _ => 1
def uptoBulkAll {H : Type} : List (DataW H) → Nat
  | [] => 0
  | d :: r => uptoBulk d + uptoBulkAll r
def uptoBulkEntries {H : Type} : List (Lit × DataW H) → Nat
  | [] => 0
  | x :: r => uptoBulkEntry x + uptoBulkEntries r
def uptoBulkEntry {H : Type} : Lit × DataW H → Nat
  | (.string bytes, d) => bytes.length + uptoBulk d + 1
  | (_, d) => uptoBulk d + 1
 end
def uptoSmall : (H : Type) → List (DataW H) → Bool := fun _ ds => decide (uptoBulkAll ds ≤ 1048576)
def OpenSpec.upto (s : _root_.Go.ChangeSpec) : _root_.Go.OpenSpec := { _root_.Go.OpenSpec.ofChange s with cond := some uptoSmall }

/-- 'laws.FnSmearAt', WHERE WHAT IT READS IS OF BULK AT MOST 1048576: true; the input reads as it did. -/
def fnSmearAtUptoRow : OpenClaim := { program := "ytealpfkandgjdaa", sum := "cab1464a449a6089f78d1885e4ec0ce96a6caefee0992b209ed5c6d51c556952", func := "loop.example/satelliteclock/laws.FnSmearAt", spec := "fnSmearAt", apart := false, narrowed := true }
def FnSmearAtUptoSaid : Prop := fnSmearAtUptoRow.holds Try.pinned (OpenSpec.upto fnSmearAtSpec)

/-- 'laws.FnSmearAtEnds', WHERE WHAT IT READS IS OF BULK AT MOST 1048576: true; the input reads as it did. -/
def fnSmearAtEndsUptoRow : OpenClaim := { program := "ytealpfkandgjdaa", sum := "cab1464a449a6089f78d1885e4ec0ce96a6caefee0992b209ed5c6d51c556952", func := "loop.example/satelliteclock/laws.FnSmearAtEnds", spec := "fnSmearAtEnds", apart := false, narrowed := true }
def FnSmearAtEndsUptoSaid : Prop := fnSmearAtEndsUptoRow.holds Try.pinned (OpenSpec.upto fnSmearAtEndsSpec)

/-- 'laws.FnSmearedStamp', WHERE WHAT IT READS IS OF BULK AT MOST 1048576: true; the input reads as it did. -/
def fnSmearedStampUptoRow : OpenClaim := { program := "ytealpfkandgjdaa", sum := "cab1464a449a6089f78d1885e4ec0ce96a6caefee0992b209ed5c6d51c556952", func := "loop.example/satelliteclock/laws.FnSmearedStamp", spec := "fnSmearedStamp", apart := false, narrowed := true }
def FnSmearedStampUptoSaid : Prop := fnSmearedStampUptoRow.holds Try.pinned (OpenSpec.upto fnSmearedStampSpec)

/-- 'laws.FnSmearDone', WHERE WHAT IT READS IS OF BULK AT MOST 1048576: true; the input reads as it did. -/
def fnSmearDoneUptoRow : OpenClaim := { program := "ytealpfkandgjdaa", sum := "cab1464a449a6089f78d1885e4ec0ce96a6caefee0992b209ed5c6d51c556952", func := "loop.example/satelliteclock/laws.FnSmearDone", spec := "fnSmearDone", apart := false, narrowed := true }
def FnSmearDoneUptoSaid : Prop := fnSmearDoneUptoRow.holds Try.pinned (OpenSpec.upto fnSmearDoneSpec)

/-- 'laws.FnSmearDoneAll', WHERE WHAT IT READS IS OF BULK AT MOST 1048576: true; the input reads as it did. -/
def fnSmearDoneAllUptoRow : OpenClaim := { program := "ytealpfkandgjdaa", sum := "cab1464a449a6089f78d1885e4ec0ce96a6caefee0992b209ed5c6d51c556952", func := "loop.example/satelliteclock/laws.FnSmearDoneAll", spec := "fnSmearDoneAll", apart := false, narrowed := true }
def FnSmearDoneAllUptoSaid : Prop := fnSmearDoneAllUptoRow.holds Try.pinned (OpenSpec.upto fnSmearDoneAllSpec)

/-- 'laws.FnSmearAtShift', WHERE WHAT IT READS IS OF BULK AT MOST 1048576: true; the input reads as it did. -/
def fnSmearAtShiftUptoRow : OpenClaim := { program := "ytealpfkandgjdaa", sum := "cab1464a449a6089f78d1885e4ec0ce96a6caefee0992b209ed5c6d51c556952", func := "loop.example/satelliteclock/laws.FnSmearAtShift", spec := "fnSmearAtShift", apart := false, narrowed := true }
def FnSmearAtShiftUptoSaid : Prop := fnSmearAtShiftUptoRow.holds Try.pinned (OpenSpec.upto fnSmearAtShiftSpec)

/-- 'laws.FnExactSmearAt', WHERE WHAT IT READS IS OF BULK AT MOST 1048576: true; the input reads as it did. -/
def fnExactSmearAtUptoRow : OpenClaim := { program := "ytealpfkandgjdaa", sum := "cab1464a449a6089f78d1885e4ec0ce96a6caefee0992b209ed5c6d51c556952", func := "loop.example/satelliteclock/laws.FnExactSmearAt", spec := "fnExactSmearAt", apart := false, narrowed := true }
def FnExactSmearAtUptoSaid : Prop := fnExactSmearAtUptoRow.holds Try.pinned (OpenSpec.upto fnExactSmearAtSpec)

/-- 'laws.FnExactSmearedStamp', WHERE WHAT IT READS IS OF BULK AT MOST 1048576: true; the input reads as it did. -/
def fnExactSmearedStampUptoRow : OpenClaim := { program := "ytealpfkandgjdaa", sum := "cab1464a449a6089f78d1885e4ec0ce96a6caefee0992b209ed5c6d51c556952", func := "loop.example/satelliteclock/laws.FnExactSmearedStamp", spec := "fnExactSmearedStamp", apart := false, narrowed := true }
def FnExactSmearedStampUptoSaid : Prop := fnExactSmearedStampUptoRow.holds Try.pinned (OpenSpec.upto fnExactSmearedStampSpec)

/-- 'laws.FnExactSmearDone', WHERE WHAT IT READS IS OF BULK AT MOST 1048576: true; the input reads as it did. -/
def fnExactSmearDoneUptoRow : OpenClaim := { program := "ytealpfkandgjdaa", sum := "cab1464a449a6089f78d1885e4ec0ce96a6caefee0992b209ed5c6d51c556952", func := "loop.example/satelliteclock/laws.FnExactSmearDone", spec := "fnExactSmearDone", apart := false, narrowed := true }
def FnExactSmearDoneUptoSaid : Prop := fnExactSmearDoneUptoRow.holds Try.pinned (OpenSpec.upto fnExactSmearDoneSpec)

end Rows
end Go.Proofs.Ytealpfkandgjdaa
