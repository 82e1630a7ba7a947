/-
  No cell of these rows narrows 'for every input' (looked for: loops, veiled, ifaces, maps, wideKeys, modest, calm, conditions, laid).
  DERIVED. THE GIVEN ROWS OF THIS SEAT. 10 by the template 'for every input the law returns true; each argument reads behind the call as it read before'; 0 by the template 'total and deterministic' (their statements: YtinckfakmipmlabTotals.lean).
  GIVEN WITH THE SEED: the statements are not yours to turn. If you find one false, say at which input.
  Laid BY PROGRAM, IN A SANDBOX (cutbox-rows.mjs): the forced cells as the released guide's own fill.sh prints them over the translation 7817061d254d8607… (all of the seat's roots in one cut). By AI agents, Wed Nov 11 2026. No macro, syntax, notation, axiom, sorry.
-/
import Derived.Test.YtinckfakmipmlabChecked
import GoSem.Claim
import GoSem.ClaimJoined
import GoSem.ClaimMapViews
import Derived.JoinedTies
import Derived.KernelRfl
namespace Go.Proofs.Ytinckfakmipmlab
/- THE CELL 'sum', in the pinned program and in every row, IS THE sha256 OF THE DUMP (.gsa) THAT YtinckfakmipmlabProg.lean LOADS. Nothing in Lean hashes anything: it is a label: what it is worth is what the hold of that sum in a sandbox is worth. -/
noncomputable def Try.pinned : Pinned := { name := "ytinckfakmipmlab", sum := "7817061d254d860731535b46637a82015ba21e139da74c7af2c16972d773f743", checked := Try.checked }
namespace Rows
def none {H : Type} : Left H := { results := [], args := [] }

/-- 'laws.FnStampOf': WHATEVER THE INPUT: true; the input reads as it did. -/
def fnStampOfSpec : ChangeSpec := { name := "fnStampOf", fn := fun _ => fun
  | [d] => { results := [.lit (.bool true)], args := [d] }
  | _ => none }
def fnStampOfRow : OpenClaim := { program := "ytinckfakmipmlab", sum := "7817061d254d860731535b46637a82015ba21e139da74c7af2c16972d773f743", func := "loop.example/satelliteclock/laws.FnStampOf", spec := "fnStampOf", apart := false }
def FnStampOfSaid : Prop := fnStampOfRow.holds Try.pinned (OpenSpec.ofChange fnStampOfSpec)

/-- ITS FALSE NEIGHBOUR: 'it returns false'. Refute it at one input. -/
def fnStampOfWrong : ChangeSpec := { name := "fnStampOf", fn := fun _ => fun
  | [d] => { results := [.lit (.bool false)], args := [d] }
  | _ => none }
def FnStampOfWrongFalsely : Prop := fnStampOfRow.holds Try.pinned (OpenSpec.ofChange fnStampOfWrong)

/-- 'laws.FnSplitStamp': WHATEVER THE INPUT: true; the input reads as it did. -/
def fnSplitStampSpec : ChangeSpec := { name := "fnSplitStamp", fn := fun _ => fun
  | [d] => { results := [.lit (.bool true)], args := [d] }
  | _ => none }
def fnSplitStampRow : OpenClaim := { program := "ytinckfakmipmlab", sum := "7817061d254d860731535b46637a82015ba21e139da74c7af2c16972d773f743", func := "loop.example/satelliteclock/laws.FnSplitStamp", spec := "fnSplitStamp", apart := false }
def FnSplitStampSaid : Prop := fnSplitStampRow.holds Try.pinned (OpenSpec.ofChange fnSplitStampSpec)

/-- ITS FALSE NEIGHBOUR: 'it returns false'. Refute it at one input. -/
def fnSplitStampWrong : ChangeSpec := { name := "fnSplitStamp", fn := fun _ => fun
  | [d] => { results := [.lit (.bool false)], args := [d] }
  | _ => none }
def FnSplitStampWrongFalsely : Prop := fnSplitStampRow.holds Try.pinned (OpenSpec.ofChange fnSplitStampWrong)

/-- 'laws.FnSplitStampNext': WHATEVER THE INPUT: true; the input reads as it did. -/
def fnSplitStampNextSpec : ChangeSpec := { name := "fnSplitStampNext", fn := fun _ => fun
  | [d] => { results := [.lit (.bool true)], args := [d] }
  | _ => none }
def fnSplitStampNextRow : OpenClaim := { program := "ytinckfakmipmlab", sum := "7817061d254d860731535b46637a82015ba21e139da74c7af2c16972d773f743", func := "loop.example/satelliteclock/laws.FnSplitStampNext", spec := "fnSplitStampNext", apart := false }
def FnSplitStampNextSaid : Prop := fnSplitStampNextRow.holds Try.pinned (OpenSpec.ofChange fnSplitStampNextSpec)

/-- ITS FALSE NEIGHBOUR: 'it returns false'. Refute it at one input. -/
def fnSplitStampNextWrong : ChangeSpec := { name := "fnSplitStampNext", fn := fun _ => fun
  | [d] => { results := [.lit (.bool false)], args := [d] }
  | _ => none }
def FnSplitStampNextWrongFalsely : Prop := fnSplitStampNextRow.holds Try.pinned (OpenSpec.ofChange fnSplitStampNextWrong)

/-- 'laws.FnExactValidState': WHATEVER THE INPUT: true; the input reads as it did. -/
def fnExactValidStateSpec : ChangeSpec := { name := "fnExactValidState", fn := fun _ => fun
  | [d] => { results := [.lit (.bool true)], args := [d] }
  | _ => none }
def fnExactValidStateRow : OpenClaim := { program := "ytinckfakmipmlab", sum := "7817061d254d860731535b46637a82015ba21e139da74c7af2c16972d773f743", func := "loop.example/satelliteclock/laws.FnExactValidState", spec := "fnExactValidState", apart := false }
def FnExactValidStateSaid : Prop := fnExactValidStateRow.holds Try.pinned (OpenSpec.ofChange fnExactValidStateSpec)

/-- ITS FALSE NEIGHBOUR: 'it returns false'. Refute it at one input. -/
def fnExactValidStateWrong : ChangeSpec := { name := "fnExactValidState", fn := fun _ => fun
  | [d] => { results := [.lit (.bool false)], args := [d] }
  | _ => none }
def FnExactValidStateWrongFalsely : Prop := fnExactValidStateRow.holds Try.pinned (OpenSpec.ofChange fnExactValidStateWrong)

/-- 'laws.FnExactErrorAt': WHATEVER THE INPUT: true; the input reads as it did. -/
def fnExactErrorAtSpec : ChangeSpec := { name := "fnExactErrorAt", fn := fun _ => fun
  | [d1, d2] => { results := [.lit (.bool true)], args := [d1, d2] }
  | _ => none }
def fnExactErrorAtRow : OpenClaim := { program := "ytinckfakmipmlab", sum := "7817061d254d860731535b46637a82015ba21e139da74c7af2c16972d773f743", func := "loop.example/satelliteclock/laws.FnExactErrorAt", spec := "fnExactErrorAt", apart := false }
def FnExactErrorAtSaid : Prop := fnExactErrorAtRow.holds Try.pinned (OpenSpec.ofChange fnExactErrorAtSpec)

/-- ITS FALSE NEIGHBOUR: 'it returns false'. Refute it at one input. -/
def fnExactErrorAtWrong : ChangeSpec := { name := "fnExactErrorAt", fn := fun _ => fun
  | [d1, d2] => { results := [.lit (.bool false)], args := [d1, d2] }
  | _ => none }
def FnExactErrorAtWrongFalsely : Prop := fnExactErrorAtRow.holds Try.pinned (OpenSpec.ofChange fnExactErrorAtWrong)

/-- 'laws.FnExactLevelAt': WHATEVER THE INPUT: true; the input reads as it did. -/
def fnExactLevelAtSpec : ChangeSpec := { name := "fnExactLevelAt", fn := fun _ => fun
  | [d1, d2] => { results := [.lit (.bool true)], args := [d1, d2] }
  | _ => none }
def fnExactLevelAtRow : OpenClaim := { program := "ytinckfakmipmlab", sum := "7817061d254d860731535b46637a82015ba21e139da74c7af2c16972d773f743", func := "loop.example/satelliteclock/laws.FnExactLevelAt", spec := "fnExactLevelAt", apart := false }
def FnExactLevelAtSaid : Prop := fnExactLevelAtRow.holds Try.pinned (OpenSpec.ofChange fnExactLevelAtSpec)

/-- ITS FALSE NEIGHBOUR: 'it returns false'. Refute it at one input. -/
def fnExactLevelAtWrong : ChangeSpec := { name := "fnExactLevelAt", fn := fun _ => fun
  | [d1, d2] => { results := [.lit (.bool false)], args := [d1, d2] }
  | _ => none }
def FnExactLevelAtWrongFalsely : Prop := fnExactLevelAtRow.holds Try.pinned (OpenSpec.ofChange fnExactLevelAtWrong)

/-- 'laws.FnExactHoldUntil': WHATEVER THE INPUT: true; the input reads as it did. -/
def fnExactHoldUntilSpec : ChangeSpec := { name := "fnExactHoldUntil", fn := fun _ => fun
  | [d] => { results := [.lit (.bool true)], args := [d] }
  | _ => none }
def fnExactHoldUntilRow : OpenClaim := { program := "ytinckfakmipmlab", sum := "7817061d254d860731535b46637a82015ba21e139da74c7af2c16972d773f743", func := "loop.example/satelliteclock/laws.FnExactHoldUntil", spec := "fnExactHoldUntil", apart := false }
def FnExactHoldUntilSaid : Prop := fnExactHoldUntilRow.holds Try.pinned (OpenSpec.ofChange fnExactHoldUntilSpec)

/-- ITS FALSE NEIGHBOUR: 'it returns false'. Refute it at one input. -/
def fnExactHoldUntilWrong : ChangeSpec := { name := "fnExactHoldUntil", fn := fun _ => fun
  | [d] => { results := [.lit (.bool false)], args := [d] }
  | _ => none }
def FnExactHoldUntilWrongFalsely : Prop := fnExactHoldUntilRow.holds Try.pinned (OpenSpec.ofChange fnExactHoldUntilWrong)

/-- 'laws.FnExactSeenAgain': WHATEVER THE INPUT: true; the input reads as it did. -/
def fnExactSeenAgainSpec : ChangeSpec := { name := "fnExactSeenAgain", fn := fun _ => fun
  | [d1, d2, d3] => { results := [.lit (.bool true)], args := [d1, d2, d3] }
  | _ => none }
def fnExactSeenAgainRow : OpenClaim := { program := "ytinckfakmipmlab", sum := "7817061d254d860731535b46637a82015ba21e139da74c7af2c16972d773f743", func := "loop.example/satelliteclock/laws.FnExactSeenAgain", spec := "fnExactSeenAgain", apart := false }
def FnExactSeenAgainSaid : Prop := fnExactSeenAgainRow.holds Try.pinned (OpenSpec.ofChange fnExactSeenAgainSpec)

/-- ITS FALSE NEIGHBOUR: 'it returns false'. Refute it at one input. -/
def fnExactSeenAgainWrong : ChangeSpec := { name := "fnExactSeenAgain", fn := fun _ => fun
  | [d1, d2, d3] => { results := [.lit (.bool false)], args := [d1, d2, d3] }
  | _ => none }
def FnExactSeenAgainWrongFalsely : Prop := fnExactSeenAgainRow.holds Try.pinned (OpenSpec.ofChange fnExactSeenAgainWrong)

/-- 'laws.FnExactStampOf': WHATEVER THE INPUT: true; the input reads as it did. -/
def fnExactStampOfSpec : ChangeSpec := { name := "fnExactStampOf", fn := fun _ => fun
  | [d1, d2] => { results := [.lit (.bool true)], args := [d1, d2] }
  | _ => none }
def fnExactStampOfRow : OpenClaim := { program := "ytinckfakmipmlab", sum := "7817061d254d860731535b46637a82015ba21e139da74c7af2c16972d773f743", func := "loop.example/satelliteclock/laws.FnExactStampOf", spec := "fnExactStampOf", apart := false }
def FnExactStampOfSaid : Prop := fnExactStampOfRow.holds Try.pinned (OpenSpec.ofChange fnExactStampOfSpec)

/-- ITS FALSE NEIGHBOUR: 'it returns false'. Refute it at one input. -/
def fnExactStampOfWrong : ChangeSpec := { name := "fnExactStampOf", fn := fun _ => fun
  | [d1, d2] => { results := [.lit (.bool false)], args := [d1, d2] }
  | _ => none }
def FnExactStampOfWrongFalsely : Prop := fnExactStampOfRow.holds Try.pinned (OpenSpec.ofChange fnExactStampOfWrong)

/-- 'laws.FnExactSplitStamp': WHATEVER THE INPUT: true; the input reads as it did. -/
def fnExactSplitStampSpec : ChangeSpec := { name := "fnExactSplitStamp", fn := fun _ => fun
  | [d] => { results := [.lit (.bool true)], args := [d] }
  | _ => none }
def fnExactSplitStampRow : OpenClaim := { program := "ytinckfakmipmlab", sum := "7817061d254d860731535b46637a82015ba21e139da74c7af2c16972d773f743", func := "loop.example/satelliteclock/laws.FnExactSplitStamp", spec := "fnExactSplitStamp", apart := false }
def FnExactSplitStampSaid : Prop := fnExactSplitStampRow.holds Try.pinned (OpenSpec.ofChange fnExactSplitStampSpec)

/-- ITS FALSE NEIGHBOUR: 'it returns false'. Refute it at one input. -/
def fnExactSplitStampWrong : ChangeSpec := { name := "fnExactSplitStamp", fn := fun _ => fun
  | [d] => { results := [.lit (.bool false)], args := [d] }
  | _ => none }
def FnExactSplitStampWrongFalsely : Prop := fnExactSplitStampRow.holds Try.pinned (OpenSpec.ofChange fnExactSplitStampWrong)

/- THE SECOND FORM. 'bulk': how many values and letters a reading holds, each counted each time it is reached (what is shared counts as often as it is met; a slice's spare places count too). A statement '..UptoSaid' is the law's where the arguments, and the package variables that the reading takes, are together of bulk at most 1048576: NARROWER than '..Said'. Prove '..Said' where nothing that the law and all that it calls make is longer than what came in: it says more and counts as full. Else prove '..UptoSaid'. A law counts once. -/
mutual
def uptoBulk {H : Type} : DataW H → Nat
  | .lit (.string bytes) => bytes.length + 1
  | .lit _ => 1
  | .nil => 1
  | .ptr d => uptoBulk d + 1
  | .slice elems spare => uptoBulkAll elems + uptoBulkAll spare + 1
  | .agg parts => uptoBulkAll parts + 1
  | .iface _ d => uptoBulk d + 1
  | .map entries => uptoBulkEntries entries + 1
  | .held _ => 1
def uptoBulkAll {H : Type} : List (DataW H) → Nat
  | [] => 0
  | d :: r => uptoBulk d + uptoBulkAll r
def uptoBulkEntries {H : Type} : List (Lit × DataW H) → Nat
  | [] => 0
  | x :: r => uptoBulkEntry x + uptoBulkEntries r
def uptoBulkEntry {H : Type} : Lit × DataW H → Nat
  | (.string bytes, d) => bytes.length + uptoBulk d + 1
  | (_, d) => uptoBulk d + 1
 end
def uptoSmall : (H : Type) → List (DataW H) → Bool := fun _ ds => decide (uptoBulkAll ds ≤ 1048576)
def OpenSpec.upto (s : _root_.Go.ChangeSpec) : _root_.Go.OpenSpec := { _root_.Go.OpenSpec.ofChange s with cond := some uptoSmall }

/-- 'laws.FnStampOf', WHERE WHAT IT READS IS OF BULK AT MOST 1048576: true; the input reads as it did. -/
def fnStampOfUptoRow : OpenClaim := { program := "ytinckfakmipmlab", sum := "7817061d254d860731535b46637a82015ba21e139da74c7af2c16972d773f743", func := "loop.example/satelliteclock/laws.FnStampOf", spec := "fnStampOf", apart := false, narrowed := true }
def FnStampOfUptoSaid : Prop := fnStampOfUptoRow.holds Try.pinned (OpenSpec.upto fnStampOfSpec)

/-- 'laws.FnSplitStamp', WHERE WHAT IT READS IS OF BULK AT MOST 1048576: true; the input reads as it did. -/
def fnSplitStampUptoRow : OpenClaim := { program := "ytinckfakmipmlab", sum := "7817061d254d860731535b46637a82015ba21e139da74c7af2c16972d773f743", func := "loop.example/satelliteclock/laws.FnSplitStamp", spec := "fnSplitStamp", apart := false, narrowed := true }
def FnSplitStampUptoSaid : Prop := fnSplitStampUptoRow.holds Try.pinned (OpenSpec.upto fnSplitStampSpec)

/-- 'laws.FnSplitStampNext', WHERE WHAT IT READS IS OF BULK AT MOST 1048576: true; the input reads as it did. -/
def fnSplitStampNextUptoRow : OpenClaim := { program := "ytinckfakmipmlab", sum := "7817061d254d860731535b46637a82015ba21e139da74c7af2c16972d773f743", func := "loop.example/satelliteclock/laws.FnSplitStampNext", spec := "fnSplitStampNext", apart := false, narrowed := true }
def FnSplitStampNextUptoSaid : Prop := fnSplitStampNextUptoRow.holds Try.pinned (OpenSpec.upto fnSplitStampNextSpec)

/-- 'laws.FnExactValidState', WHERE WHAT IT READS IS OF BULK AT MOST 1048576: true; the input reads as it did. -/
def fnExactValidStateUptoRow : OpenClaim := { program := "ytinckfakmipmlab", sum := "7817061d254d860731535b46637a82015ba21e139da74c7af2c16972d773f743", func := "loop.example/satelliteclock/laws.FnExactValidState", spec := "fnExactValidState", apart := false, narrowed := true }
def FnExactValidStateUptoSaid : Prop := fnExactValidStateUptoRow.holds Try.pinned (OpenSpec.upto fnExactValidStateSpec)

/-- 'laws.FnExactErrorAt', WHERE WHAT IT READS IS OF BULK AT MOST 1048576: true; the input reads as it did. -/
def fnExactErrorAtUptoRow : OpenClaim := { program := "ytinckfakmipmlab", sum := "7817061d254d860731535b46637a82015ba21e139da74c7af2c16972d773f743", func := "loop.example/satelliteclock/laws.FnExactErrorAt", spec := "fnExactErrorAt", apart := false, narrowed := true }
def FnExactErrorAtUptoSaid : Prop := fnExactErrorAtUptoRow.holds Try.pinned (OpenSpec.upto fnExactErrorAtSpec)

/-- 'laws.FnExactLevelAt', WHERE WHAT IT READS IS OF BULK AT MOST 1048576: true; the input reads as it did. -/
def fnExactLevelAtUptoRow : OpenClaim := { program := "ytinckfakmipmlab", sum := "7817061d254d860731535b46637a82015ba21e139da74c7af2c16972d773f743", func := "loop.example/satelliteclock/laws.FnExactLevelAt", spec := "fnExactLevelAt", apart := false, narrowed := true }
def FnExactLevelAtUptoSaid : Prop := fnExactLevelAtUptoRow.holds Try.pinned (OpenSpec.upto fnExactLevelAtSpec)

/-- 'laws.FnExactHoldUntil', WHERE WHAT IT READS IS OF BULK AT MOST 1048576: true; the input reads as it did. -/
def fnExactHoldUntilUptoRow : OpenClaim := { program := "ytinckfakmipmlab", sum := "7817061d254d860731535b46637a82015ba21e139da74c7af2c16972d773f743", func := "loop.example/satelliteclock/laws.FnExactHoldUntil", spec := "fnExactHoldUntil", apart := false, narrowed := true }
def FnExactHoldUntilUptoSaid : Prop := fnExactHoldUntilUptoRow.holds Try.pinned (OpenSpec.upto fnExactHoldUntilSpec)

/-- 'laws.FnExactSeenAgain', WHERE WHAT IT READS IS OF BULK AT MOST 1048576: true; the input reads as it did. -/
def fnExactSeenAgainUptoRow : OpenClaim := { program := "ytinckfakmipmlab", sum := "7817061d254d860731535b46637a82015ba21e139da74c7af2c16972d773f743", func := "loop.example/satelliteclock/laws.FnExactSeenAgain", spec := "fnExactSeenAgain", apart := false, narrowed := true }
def FnExactSeenAgainUptoSaid : Prop := fnExactSeenAgainUptoRow.holds Try.pinned (OpenSpec.upto fnExactSeenAgainSpec)

/-- 'laws.FnExactStampOf', WHERE WHAT IT READS IS OF BULK AT MOST 1048576: true; the input reads as it did. -/
def fnExactStampOfUptoRow : OpenClaim := { program := "ytinckfakmipmlab", sum := "7817061d254d860731535b46637a82015ba21e139da74c7af2c16972d773f743", func := "loop.example/satelliteclock/laws.FnExactStampOf", spec := "fnExactStampOf", apart := false, narrowed := true }
def FnExactStampOfUptoSaid : Prop := fnExactStampOfUptoRow.holds Try.pinned (OpenSpec.upto fnExactStampOfSpec)

/-- 'laws.FnExactSplitStamp', WHERE WHAT IT READS IS OF BULK AT MOST 1048576: true; the input reads as it did. -/
def fnExactSplitStampUptoRow : OpenClaim := { program := "ytinckfakmipmlab", sum := "7817061d254d860731535b46637a82015ba21e139da74c7af2c16972d773f743", func := "loop.example/satelliteclock/laws.FnExactSplitStamp", spec := "fnExactSplitStamp", apart := false, narrowed := true }
def FnExactSplitStampUptoSaid : Prop := fnExactSplitStampUptoRow.holds Try.pinned (OpenSpec.upto fnExactSplitStampSpec)

end Rows
end Go.Proofs.Ytinckfakmipmlab
