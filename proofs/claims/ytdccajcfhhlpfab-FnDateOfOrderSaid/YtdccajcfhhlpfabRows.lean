/-
  No cell of these rows narrows 'for every input' (looked for: loops, veiled, ifaces, maps, wideKeys, modest, calm, conditions, laid).
  DERIVED. THE GIVEN ROWS OF THIS SEAT. 12 by the template 'for every input the law returns true; each argument reads behind the call as it read before'; 0 by the template 'total and deterministic' (their statements: YtdccajcfhhlpfabTotals.lean).
  GIVEN WITH THE SEED: the statements are not yours to turn. If you find one false, say at which input.
  Laid BY PROGRAM, IN A SANDBOX (cutbox-rows.mjs): the forced cells as the released guide's own fill.sh prints them over the translation fed5929376958e11… (all of the seat's roots in one cut). By AI agents, Wed Nov 11 2026. No macro, syntax, notation, axiom, sorry.
-/
import Derived.Test.YtdccajcfhhlpfabChecked
import GoSem.Claim
import GoSem.ClaimJoined
import GoSem.ClaimMapViews
import Derived.JoinedTies
import Derived.KernelRfl
namespace Go.Proofs.Ytdccajcfhhlpfab
/- THE CELL 'sum', in the pinned program and in every row, IS THE sha256 OF THE DUMP (.gsa) THAT YtdccajcfhhlpfabProg.lean LOADS. Nothing in Lean hashes anything: it is a label: what it is worth is what the hold of that sum in a sandbox is worth. -/
noncomputable def Try.pinned : Pinned := { name := "ytdccajcfhhlpfab", sum := "fed5929376958e11d5949d71cad346d234057835ea0e22f386fd7f9211e68869", checked := Try.checked }
namespace Rows
def none {H : Type} : Left H := { results := [], args := [] }

/-- 'laws.FnSecondOfWeek': WHATEVER THE INPUT: true; the input reads as it did. -/
def fnSecondOfWeekSpec : ChangeSpec := { name := "fnSecondOfWeek", fn := fun _ => fun
  | [d] => { results := [.lit (.bool true)], args := [d] }
  | _ => none }
def fnSecondOfWeekRow : OpenClaim := { program := "ytdccajcfhhlpfab", sum := "fed5929376958e11d5949d71cad346d234057835ea0e22f386fd7f9211e68869", func := "loop.example/satelliteclock/laws.FnSecondOfWeek", spec := "fnSecondOfWeek", apart := false }
def FnSecondOfWeekSaid : Prop := fnSecondOfWeekRow.holds Try.pinned (OpenSpec.ofChange fnSecondOfWeekSpec)

/-- ITS FALSE NEIGHBOUR: 'it returns false'. Refute it at one input. -/
def fnSecondOfWeekWrong : ChangeSpec := { name := "fnSecondOfWeek", fn := fun _ => fun
  | [d] => { results := [.lit (.bool false)], args := [d] }
  | _ => none }
def FnSecondOfWeekWrongFalsely : Prop := fnSecondOfWeekRow.holds Try.pinned (OpenSpec.ofChange fnSecondOfWeekWrong)

/-- 'laws.FnShortWeek': WHATEVER THE INPUT: true; the input reads as it did. -/
def fnShortWeekSpec : ChangeSpec := { name := "fnShortWeek", fn := fun _ => fun
  | [d] => { results := [.lit (.bool true)], args := [d] }
  | _ => none }
def fnShortWeekRow : OpenClaim := { program := "ytdccajcfhhlpfab", sum := "fed5929376958e11d5949d71cad346d234057835ea0e22f386fd7f9211e68869", func := "loop.example/satelliteclock/laws.FnShortWeek", spec := "fnShortWeek", apart := false }
def FnShortWeekSaid : Prop := fnShortWeekRow.holds Try.pinned (OpenSpec.ofChange fnShortWeekSpec)

/-- ITS FALSE NEIGHBOUR: 'it returns false'. Refute it at one input. -/
def fnShortWeekWrong : ChangeSpec := { name := "fnShortWeek", fn := fun _ => fun
  | [d] => { results := [.lit (.bool false)], args := [d] }
  | _ => none }
def FnShortWeekWrongFalsely : Prop := fnShortWeekRow.holds Try.pinned (OpenSpec.ofChange fnShortWeekWrong)

/-- 'laws.FnFullWeek': WHATEVER THE INPUT: true; the input reads as it did. -/
def fnFullWeekSpec : ChangeSpec := { name := "fnFullWeek", fn := fun _ => fun
  | [d] => { results := [.lit (.bool true)], args := [d] }
  | _ => none }
def fnFullWeekRow : OpenClaim := { program := "ytdccajcfhhlpfab", sum := "fed5929376958e11d5949d71cad346d234057835ea0e22f386fd7f9211e68869", func := "loop.example/satelliteclock/laws.FnFullWeek", spec := "fnFullWeek", apart := false }
def FnFullWeekSaid : Prop := fnFullWeekRow.holds Try.pinned (OpenSpec.ofChange fnFullWeekSpec)

/-- ITS FALSE NEIGHBOUR: 'it returns false'. Refute it at one input. -/
def fnFullWeekWrong : ChangeSpec := { name := "fnFullWeek", fn := fun _ => fun
  | [d] => { results := [.lit (.bool false)], args := [d] }
  | _ => none }
def FnFullWeekWrongFalsely : Prop := fnFullWeekRow.holds Try.pinned (OpenSpec.ofChange fnFullWeekWrong)

/-- 'laws.FnFullWeekNext': WHATEVER THE INPUT: true; the input reads as it did. -/
def fnFullWeekNextSpec : ChangeSpec := { name := "fnFullWeekNext", fn := fun _ => fun
  | [d] => { results := [.lit (.bool true)], args := [d] }
  | _ => none }
def fnFullWeekNextRow : OpenClaim := { program := "ytdccajcfhhlpfab", sum := "fed5929376958e11d5949d71cad346d234057835ea0e22f386fd7f9211e68869", func := "loop.example/satelliteclock/laws.FnFullWeekNext", spec := "fnFullWeekNext", apart := false }
def FnFullWeekNextSaid : Prop := fnFullWeekNextRow.holds Try.pinned (OpenSpec.ofChange fnFullWeekNextSpec)

/-- ITS FALSE NEIGHBOUR: 'it returns false'. Refute it at one input. -/
def fnFullWeekNextWrong : ChangeSpec := { name := "fnFullWeekNext", fn := fun _ => fun
  | [d] => { results := [.lit (.bool false)], args := [d] }
  | _ => none }
def FnFullWeekNextWrongFalsely : Prop := fnFullWeekNextRow.holds Try.pinned (OpenSpec.ofChange fnFullWeekNextWrong)

/-- 'laws.FnTimeAt': WHATEVER THE INPUT: true; the input reads as it did. -/
def fnTimeAtSpec : ChangeSpec := { name := "fnTimeAt", fn := fun _ => fun
  | [d] => { results := [.lit (.bool true)], args := [d] }
  | _ => none }
def fnTimeAtRow : OpenClaim := { program := "ytdccajcfhhlpfab", sum := "fed5929376958e11d5949d71cad346d234057835ea0e22f386fd7f9211e68869", func := "loop.example/satelliteclock/laws.FnTimeAt", spec := "fnTimeAt", apart := false }
def FnTimeAtSaid : Prop := fnTimeAtRow.holds Try.pinned (OpenSpec.ofChange fnTimeAtSpec)

/-- ITS FALSE NEIGHBOUR: 'it returns false'. Refute it at one input. -/
def fnTimeAtWrong : ChangeSpec := { name := "fnTimeAt", fn := fun _ => fun
  | [d] => { results := [.lit (.bool false)], args := [d] }
  | _ => none }
def FnTimeAtWrongFalsely : Prop := fnTimeAtRow.holds Try.pinned (OpenSpec.ofChange fnTimeAtWrong)

/-- 'laws.FnTimeAtParts': WHATEVER THE INPUT: true; the input reads as it did. -/
def fnTimeAtPartsSpec : ChangeSpec := { name := "fnTimeAtParts", fn := fun _ => fun
  | [d] => { results := [.lit (.bool true)], args := [d] }
  | _ => none }
def fnTimeAtPartsRow : OpenClaim := { program := "ytdccajcfhhlpfab", sum := "fed5929376958e11d5949d71cad346d234057835ea0e22f386fd7f9211e68869", func := "loop.example/satelliteclock/laws.FnTimeAtParts", spec := "fnTimeAtParts", apart := false }
def FnTimeAtPartsSaid : Prop := fnTimeAtPartsRow.holds Try.pinned (OpenSpec.ofChange fnTimeAtPartsSpec)

/-- ITS FALSE NEIGHBOUR: 'it returns false'. Refute it at one input. -/
def fnTimeAtPartsWrong : ChangeSpec := { name := "fnTimeAtParts", fn := fun _ => fun
  | [d] => { results := [.lit (.bool false)], args := [d] }
  | _ => none }
def FnTimeAtPartsWrongFalsely : Prop := fnTimeAtPartsRow.holds Try.pinned (OpenSpec.ofChange fnTimeAtPartsWrong)

/-- 'laws.FnDayOfMonth': WHATEVER THE INPUT: true; the input reads as it did. -/
def fnDayOfMonthSpec : ChangeSpec := { name := "fnDayOfMonth", fn := fun _ => fun
  | [d] => { results := [.lit (.bool true)], args := [d] }
  | _ => none }
def fnDayOfMonthRow : OpenClaim := { program := "ytdccajcfhhlpfab", sum := "fed5929376958e11d5949d71cad346d234057835ea0e22f386fd7f9211e68869", func := "loop.example/satelliteclock/laws.FnDayOfMonth", spec := "fnDayOfMonth", apart := false }
def FnDayOfMonthSaid : Prop := fnDayOfMonthRow.holds Try.pinned (OpenSpec.ofChange fnDayOfMonthSpec)

/-- ITS FALSE NEIGHBOUR: 'it returns false'. Refute it at one input. -/
def fnDayOfMonthWrong : ChangeSpec := { name := "fnDayOfMonth", fn := fun _ => fun
  | [d] => { results := [.lit (.bool false)], args := [d] }
  | _ => none }
def FnDayOfMonthWrongFalsely : Prop := fnDayOfMonthRow.holds Try.pinned (OpenSpec.ofChange fnDayOfMonthWrong)

/-- 'laws.FnDateOfOrder': WHATEVER THE INPUT: true; the input reads as it did. -/
def fnDateOfOrderSpec : ChangeSpec := { name := "fnDateOfOrder", fn := fun _ => fun
  | [d] => { results := [.lit (.bool true)], args := [d] }
  | _ => none }
def fnDateOfOrderRow : OpenClaim := { program := "ytdccajcfhhlpfab", sum := "fed5929376958e11d5949d71cad346d234057835ea0e22f386fd7f9211e68869", func := "loop.example/satelliteclock/laws.FnDateOfOrder", spec := "fnDateOfOrder", apart := false }
def FnDateOfOrderSaid : Prop := fnDateOfOrderRow.holds Try.pinned (OpenSpec.ofChange fnDateOfOrderSpec)

/-- ITS FALSE NEIGHBOUR: 'it returns false'. Refute it at one input. -/
def fnDateOfOrderWrong : ChangeSpec := { name := "fnDateOfOrder", fn := fun _ => fun
  | [d] => { results := [.lit (.bool false)], args := [d] }
  | _ => none }
def FnDateOfOrderWrongFalsely : Prop := fnDateOfOrderRow.holds Try.pinned (OpenSpec.ofChange fnDateOfOrderWrong)

/-- 'laws.FnWeekOfNext': WHATEVER THE INPUT: true; the input reads as it did. -/
def fnWeekOfNextSpec : ChangeSpec := { name := "fnWeekOfNext", fn := fun _ => fun
  | [d] => { results := [.lit (.bool true)], args := [d] }
  | _ => none }
def fnWeekOfNextRow : OpenClaim := { program := "ytdccajcfhhlpfab", sum := "fed5929376958e11d5949d71cad346d234057835ea0e22f386fd7f9211e68869", func := "loop.example/satelliteclock/laws.FnWeekOfNext", spec := "fnWeekOfNext", apart := false }
def FnWeekOfNextSaid : Prop := fnWeekOfNextRow.holds Try.pinned (OpenSpec.ofChange fnWeekOfNextSpec)

/-- ITS FALSE NEIGHBOUR: 'it returns false'. Refute it at one input. -/
def fnWeekOfNextWrong : ChangeSpec := { name := "fnWeekOfNext", fn := fun _ => fun
  | [d] => { results := [.lit (.bool false)], args := [d] }
  | _ => none }
def FnWeekOfNextWrongFalsely : Prop := fnWeekOfNextRow.holds Try.pinned (OpenSpec.ofChange fnWeekOfNextWrong)

/-- 'laws.FnWeekdayOfDate': WHATEVER THE INPUT: true; the input reads as it did. -/
def fnWeekdayOfDateSpec : ChangeSpec := { name := "fnWeekdayOfDate", fn := fun _ => fun
  | [d] => { results := [.lit (.bool true)], args := [d] }
  | _ => none }
def fnWeekdayOfDateRow : OpenClaim := { program := "ytdccajcfhhlpfab", sum := "fed5929376958e11d5949d71cad346d234057835ea0e22f386fd7f9211e68869", func := "loop.example/satelliteclock/laws.FnWeekdayOfDate", spec := "fnWeekdayOfDate", apart := false }
def FnWeekdayOfDateSaid : Prop := fnWeekdayOfDateRow.holds Try.pinned (OpenSpec.ofChange fnWeekdayOfDateSpec)

/-- ITS FALSE NEIGHBOUR: 'it returns false'. Refute it at one input. -/
def fnWeekdayOfDateWrong : ChangeSpec := { name := "fnWeekdayOfDate", fn := fun _ => fun
  | [d] => { results := [.lit (.bool false)], args := [d] }
  | _ => none }
def FnWeekdayOfDateWrongFalsely : Prop := fnWeekdayOfDateRow.holds Try.pinned (OpenSpec.ofChange fnWeekdayOfDateWrong)

/-- 'laws.FnTimeAtNext': WHATEVER THE INPUT: true; the input reads as it did. -/
def fnTimeAtNextSpec : ChangeSpec := { name := "fnTimeAtNext", fn := fun _ => fun
  | [d] => { results := [.lit (.bool true)], args := [d] }
  | _ => none }
def fnTimeAtNextRow : OpenClaim := { program := "ytdccajcfhhlpfab", sum := "fed5929376958e11d5949d71cad346d234057835ea0e22f386fd7f9211e68869", func := "loop.example/satelliteclock/laws.FnTimeAtNext", spec := "fnTimeAtNext", apart := false }
def FnTimeAtNextSaid : Prop := fnTimeAtNextRow.holds Try.pinned (OpenSpec.ofChange fnTimeAtNextSpec)

/-- ITS FALSE NEIGHBOUR: 'it returns false'. Refute it at one input. -/
def fnTimeAtNextWrong : ChangeSpec := { name := "fnTimeAtNext", fn := fun _ => fun
  | [d] => { results := [.lit (.bool false)], args := [d] }
  | _ => none }
def FnTimeAtNextWrongFalsely : Prop := fnTimeAtNextRow.holds Try.pinned (OpenSpec.ofChange fnTimeAtNextWrong)

/-- 'laws.FnExactIsLeapYear': WHATEVER THE INPUT: true; the input reads as it did. -/
def fnExactIsLeapYearSpec : ChangeSpec := { name := "fnExactIsLeapYear", fn := fun _ => fun
  | [d] => { results := [.lit (.bool true)], args := [d] }
  | _ => none }
def fnExactIsLeapYearRow : OpenClaim := { program := "ytdccajcfhhlpfab", sum := "fed5929376958e11d5949d71cad346d234057835ea0e22f386fd7f9211e68869", func := "loop.example/satelliteclock/laws.FnExactIsLeapYear", spec := "fnExactIsLeapYear", apart := false }
def FnExactIsLeapYearSaid : Prop := fnExactIsLeapYearRow.holds Try.pinned (OpenSpec.ofChange fnExactIsLeapYearSpec)

/-- ITS FALSE NEIGHBOUR: 'it returns false'. Refute it at one input. -/
def fnExactIsLeapYearWrong : ChangeSpec := { name := "fnExactIsLeapYear", fn := fun _ => fun
  | [d] => { results := [.lit (.bool false)], args := [d] }
  | _ => none }
def FnExactIsLeapYearWrongFalsely : Prop := fnExactIsLeapYearRow.holds Try.pinned (OpenSpec.ofChange fnExactIsLeapYearWrong)

/- THE SECOND FORM. 'bulk': how many values and letters a reading holds, each counted each time it is reached (what is shared counts as often as it is met; a slice's spare places count too). A statement '..UptoSaid' is the law's where the arguments, and the package variables that the reading takes, are together of bulk at most 1048576: NARROWER than '..Said'. Prove '..Said' where nothing that the law and all that it calls make is longer than what came in: it says more and counts as full. Else prove '..UptoSaid'. A law counts once. -/
mutual
def uptoBulk {H : Type} : DataW H → Nat
  | .lit (.string bytes) => bytes.length + 1
  | .lit _ => 1
  | .nil => 1
  | .ptr d => uptoBulk d + 1
  | .slice elems spare => uptoBulkAll elems + uptoBulkAll spare + 1
  | .agg parts => uptoBulkAll parts + 1
  | .iface _ d => uptoBulk d + 1
  | .map entries => uptoBulkEntries entries + 1
  | .held _ => 1
def uptoBulkAll {H : Type} : List (DataW H) → Nat
  | [] => 0
  | d :: r => uptoBulk d + uptoBulkAll r
def uptoBulkEntries {H : Type} : List (Lit × DataW H) → Nat
  | [] => 0
  | x :: r => uptoBulkEntry x + uptoBulkEntries r
def uptoBulkEntry {H : Type} : Lit × DataW H → Nat
  | (.string bytes, d) => bytes.length + uptoBulk d + 1
  | (_, d) => uptoBulk d + 1
 end
def uptoSmall : (H : Type) → List (DataW H) → Bool := fun _ ds => decide (uptoBulkAll ds ≤ 1048576)
def OpenSpec.upto (s : _root_.Go.ChangeSpec) : _root_.Go.OpenSpec := { _root_.Go.OpenSpec.ofChange s with cond := some uptoSmall }

/-- 'laws.FnSecondOfWeek', WHERE WHAT IT READS IS OF BULK AT MOST 1048576: true; the input reads as it did. -/
def fnSecondOfWeekUptoRow : OpenClaim := { program := "ytdccajcfhhlpfab", sum := "fed5929376958e11d5949d71cad346d234057835ea0e22f386fd7f9211e68869", func := "loop.example/satelliteclock/laws.FnSecondOfWeek", spec := "fnSecondOfWeek", apart := false, narrowed := true }
def FnSecondOfWeekUptoSaid : Prop := fnSecondOfWeekUptoRow.holds Try.pinned (OpenSpec.upto fnSecondOfWeekSpec)

/-- 'laws.FnShortWeek', WHERE WHAT IT READS IS OF BULK AT MOST 1048576: true; the input reads as it did. -/
def fnShortWeekUptoRow : OpenClaim := { program := "ytdccajcfhhlpfab", sum := "fed5929376958e11d5949d71cad346d234057835ea0e22f386fd7f9211e68869", func := "loop.example/satelliteclock/laws.FnShortWeek", spec := "fnShortWeek", apart := false, narrowed := true }
def FnShortWeekUptoSaid : Prop := fnShortWeekUptoRow.holds Try.pinned (OpenSpec.upto fnShortWeekSpec)

/-- 'laws.FnFullWeek', WHERE WHAT IT READS IS OF BULK AT MOST 1048576: true; the input reads as it did. -/
def fnFullWeekUptoRow : OpenClaim := { program := "ytdccajcfhhlpfab", sum := "fed5929376958e11d5949d71cad346d234057835ea0e22f386fd7f9211e68869", func := "loop.example/satelliteclock/laws.FnFullWeek", spec := "fnFullWeek", apart := false, narrowed := true }
def FnFullWeekUptoSaid : Prop := fnFullWeekUptoRow.holds Try.pinned (OpenSpec.upto fnFullWeekSpec)

/-- 'laws.FnFullWeekNext', WHERE WHAT IT READS IS OF BULK AT MOST 1048576: true; the input reads as it did. -/
def fnFullWeekNextUptoRow : OpenClaim := { program := "ytdccajcfhhlpfab", sum := "fed5929376958e11d5949d71cad346d234057835ea0e22f386fd7f9211e68869", func := "loop.example/satelliteclock/laws.FnFullWeekNext", spec := "fnFullWeekNext", apart := false, narrowed := true }
def FnFullWeekNextUptoSaid : Prop := fnFullWeekNextUptoRow.holds Try.pinned (OpenSpec.upto fnFullWeekNextSpec)

/-- 'laws.FnTimeAt', WHERE WHAT IT READS IS OF BULK AT MOST 1048576: true; the input reads as it did. -/
def fnTimeAtUptoRow : OpenClaim := { program := "ytdccajcfhhlpfab", sum := "fed5929376958e11d5949d71cad346d234057835ea0e22f386fd7f9211e68869", func := "loop.example/satelliteclock/laws.FnTimeAt", spec := "fnTimeAt", apart := false, narrowed := true }
def FnTimeAtUptoSaid : Prop := fnTimeAtUptoRow.holds Try.pinned (OpenSpec.upto fnTimeAtSpec)

/-- 'laws.FnTimeAtParts', WHERE WHAT IT READS IS OF BULK AT MOST 1048576: true; the input reads as it did. -/
def fnTimeAtPartsUptoRow : OpenClaim := { program := "ytdccajcfhhlpfab", sum := "fed5929376958e11d5949d71cad346d234057835ea0e22f386fd7f9211e68869", func := "loop.example/satelliteclock/laws.FnTimeAtParts", spec := "fnTimeAtParts", apart := false, narrowed := true }
def FnTimeAtPartsUptoSaid : Prop := fnTimeAtPartsUptoRow.holds Try.pinned (OpenSpec.upto fnTimeAtPartsSpec)

/-- 'laws.FnDayOfMonth', WHERE WHAT IT READS IS OF BULK AT MOST 1048576: true; the input reads as it did. -/
def fnDayOfMonthUptoRow : OpenClaim := { program := "ytdccajcfhhlpfab", sum := "fed5929376958e11d5949d71cad346d234057835ea0e22f386fd7f9211e68869", func := "loop.example/satelliteclock/laws.FnDayOfMonth", spec := "fnDayOfMonth", apart := false, narrowed := true }
def FnDayOfMonthUptoSaid : Prop := fnDayOfMonthUptoRow.holds Try.pinned (OpenSpec.upto fnDayOfMonthSpec)

/-- 'laws.FnDateOfOrder', WHERE WHAT IT READS IS OF BULK AT MOST 1048576: true; the input reads as it did. -/
def fnDateOfOrderUptoRow : OpenClaim := { program := "ytdccajcfhhlpfab", sum := "fed5929376958e11d5949d71cad346d234057835ea0e22f386fd7f9211e68869", func := "loop.example/satelliteclock/laws.FnDateOfOrder", spec := "fnDateOfOrder", apart := false, narrowed := true }
def FnDateOfOrderUptoSaid : Prop := fnDateOfOrderUptoRow.holds Try.pinned (OpenSpec.upto fnDateOfOrderSpec)

/-- 'laws.FnWeekOfNext', WHERE WHAT IT READS IS OF BULK AT MOST 1048576: true; the input reads as it did. -/
def fnWeekOfNextUptoRow : OpenClaim := { program := "ytdccajcfhhlpfab", sum := "fed5929376958e11d5949d71cad346d234057835ea0e22f386fd7f9211e68869", func := "loop.example/satelliteclock/laws.FnWeekOfNext", spec := "fnWeekOfNext", apart := false, narrowed := true }
def FnWeekOfNextUptoSaid : Prop := fnWeekOfNextUptoRow.holds Try.pinned (OpenSpec.upto fnWeekOfNextSpec)

/-- 'laws.FnWeekdayOfDate', WHERE WHAT IT READS IS OF BULK AT MOST 1048576: true; the input reads as it did. -/
def fnWeekdayOfDateUptoRow : OpenClaim := { program := "ytdccajcfhhlpfab", sum := "fed5929376958e11d5949d71cad346d234057835ea0e22f386fd7f9211e68869", func := "loop.example/satelliteclock/laws.FnWeekdayOfDate", spec := "fnWeekdayOfDate", apart := false, narrowed := true }
def FnWeekdayOfDateUptoSaid : Prop := fnWeekdayOfDateUptoRow.holds Try.pinned (OpenSpec.upto fnWeekdayOfDateSpec)

/-- 'laws.FnTimeAtNext', WHERE WHAT IT READS IS OF BULK AT MOST 1048576: true; the input reads as it did. -/
def fnTimeAtNextUptoRow : OpenClaim := { program := "ytdccajcfhhlpfab", sum := "fed5929376958e11d5949d71cad346d234057835ea0e22f386fd7f9211e68869", func := "loop.example/satelliteclock/laws.FnTimeAtNext", spec := "fnTimeAtNext", apart := false, narrowed := true }
def FnTimeAtNextUptoSaid : Prop := fnTimeAtNextUptoRow.holds Try.pinned (OpenSpec.upto fnTimeAtNextSpec)

/-- 'laws.FnExactIsLeapYear', WHERE WHAT IT READS IS OF BULK AT MOST 1048576: true; the input reads as it did. -/
def fnExactIsLeapYearUptoRow : OpenClaim := { program := "ytdccajcfhhlpfab", sum := "fed5929376958e11d5949d71cad346d234057835ea0e22f386fd7f9211e68869", func := "loop.example/satelliteclock/laws.FnExactIsLeapYear", spec := "fnExactIsLeapYear", apart := false, narrowed := true }
def FnExactIsLeapYearUptoSaid : Prop := fnExactIsLeapYearUptoRow.holds Try.pinned (OpenSpec.upto fnExactIsLeapYearSpec)

end Rows
end Go.Proofs.Ytdccajcfhhlpfab
