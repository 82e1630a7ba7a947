/-
  No cell of these rows narrows 'for every input' (looked for: loops, veiled, ifaces, maps, wideKeys, modest, calm, conditions, laid).
  DERIVED. THE GIVEN ROWS OF THIS SEAT. 12 by the template 'for every input the law returns true; each argument reads behind the call as it read before'; 0 by the template 'total and deterministic' (their statements: YtdccajcfhhlpfaaTotals.lean).
  GIVEN WITH THE SEED: the statements are not yours to turn. If you find one false, say at which input.
  Laid BY PROGRAM, IN A SANDBOX (cutbox-rows.mjs): the forced cells as the released guide's own fill.sh prints them over the translation 081b5795257c8e57… (all of the seat's roots in one cut). By AI agents, Wed Nov 11 2026. No macro, syntax, notation, axiom, sorry.
-/
import Derived.Test.YtdccajcfhhlpfaaChecked
import GoSem.Claim
import GoSem.ClaimJoined
import GoSem.ClaimMapViews
import Derived.JoinedTies
import Derived.KernelRfl
namespace Go.Proofs.Ytdccajcfhhlpfaa
/- THE CELL 'sum', in the pinned program and in every row, IS THE sha256 OF THE DUMP (.gsa) THAT YtdccajcfhhlpfaaProg.lean LOADS. Nothing in Lean hashes anything: it is a label: what it is worth is what the hold of that sum in a sandbox is worth. -/
noncomputable def Try.pinned : Pinned := { name := "ytdccajcfhhlpfaa", sum := "081b5795257c8e57ec435be4380f7cfd8fb4aca59399a8de89fb8a10d2ddcbe4", checked := Try.checked }
namespace Rows
def none {H : Type} : Left H := { results := [], args := [] }

/-- 'laws.FnIsLeapYear': WHATEVER THE INPUT: true; the input reads as it did. -/
def fnIsLeapYearSpec : ChangeSpec := { name := "fnIsLeapYear", fn := fun _ => fun
  | [d] => { results := [.lit (.bool true)], args := [d] }
  | _ => none }
def fnIsLeapYearRow : OpenClaim := { program := "ytdccajcfhhlpfaa", sum := "081b5795257c8e57ec435be4380f7cfd8fb4aca59399a8de89fb8a10d2ddcbe4", func := "loop.example/satelliteclock/laws.FnIsLeapYear", spec := "fnIsLeapYear", apart := false }
def FnIsLeapYearSaid : Prop := fnIsLeapYearRow.holds Try.pinned (OpenSpec.ofChange fnIsLeapYearSpec)

/-- ITS FALSE NEIGHBOUR: 'it returns false'. Refute it at one input. -/
def fnIsLeapYearWrong : ChangeSpec := { name := "fnIsLeapYear", fn := fun _ => fun
  | [d] => { results := [.lit (.bool false)], args := [d] }
  | _ => none }
def FnIsLeapYearWrongFalsely : Prop := fnIsLeapYearRow.holds Try.pinned (OpenSpec.ofChange fnIsLeapYearWrong)

/-- 'laws.FnIsLeapYearFour': WHATEVER THE INPUT: true; the input reads as it did. -/
def fnIsLeapYearFourSpec : ChangeSpec := { name := "fnIsLeapYearFour", fn := fun _ => fun
  | [d] => { results := [.lit (.bool true)], args := [d] }
  | _ => none }
def fnIsLeapYearFourRow : OpenClaim := { program := "ytdccajcfhhlpfaa", sum := "081b5795257c8e57ec435be4380f7cfd8fb4aca59399a8de89fb8a10d2ddcbe4", func := "loop.example/satelliteclock/laws.FnIsLeapYearFour", spec := "fnIsLeapYearFour", apart := false }
def FnIsLeapYearFourSaid : Prop := fnIsLeapYearFourRow.holds Try.pinned (OpenSpec.ofChange fnIsLeapYearFourSpec)

/-- ITS FALSE NEIGHBOUR: 'it returns false'. Refute it at one input. -/
def fnIsLeapYearFourWrong : ChangeSpec := { name := "fnIsLeapYearFour", fn := fun _ => fun
  | [d] => { results := [.lit (.bool false)], args := [d] }
  | _ => none }
def FnIsLeapYearFourWrongFalsely : Prop := fnIsLeapYearFourRow.holds Try.pinned (OpenSpec.ofChange fnIsLeapYearFourWrong)

/-- 'laws.FnMonthDays': WHATEVER THE INPUT: true; the input reads as it did. -/
def fnMonthDaysSpec : ChangeSpec := { name := "fnMonthDays", fn := fun _ => fun
  | [d] => { results := [.lit (.bool true)], args := [d] }
  | _ => none }
def fnMonthDaysRow : OpenClaim := { program := "ytdccajcfhhlpfaa", sum := "081b5795257c8e57ec435be4380f7cfd8fb4aca59399a8de89fb8a10d2ddcbe4", func := "loop.example/satelliteclock/laws.FnMonthDays", spec := "fnMonthDays", apart := false }
def FnMonthDaysSaid : Prop := fnMonthDaysRow.holds Try.pinned (OpenSpec.ofChange fnMonthDaysSpec)

/-- ITS FALSE NEIGHBOUR: 'it returns false'. Refute it at one input. -/
def fnMonthDaysWrong : ChangeSpec := { name := "fnMonthDays", fn := fun _ => fun
  | [d] => { results := [.lit (.bool false)], args := [d] }
  | _ => none }
def FnMonthDaysWrongFalsely : Prop := fnMonthDaysRow.holds Try.pinned (OpenSpec.ofChange fnMonthDaysWrong)

/-- 'laws.FnDayOf': WHATEVER THE INPUT: true; the input reads as it did. -/
def fnDayOfSpec : ChangeSpec := { name := "fnDayOf", fn := fun _ => fun
  | [d] => { results := [.lit (.bool true)], args := [d] }
  | _ => none }
def fnDayOfRow : OpenClaim := { program := "ytdccajcfhhlpfaa", sum := "081b5795257c8e57ec435be4380f7cfd8fb4aca59399a8de89fb8a10d2ddcbe4", func := "loop.example/satelliteclock/laws.FnDayOf", spec := "fnDayOf", apart := false }
def FnDayOfSaid : Prop := fnDayOfRow.holds Try.pinned (OpenSpec.ofChange fnDayOfSpec)

/-- ITS FALSE NEIGHBOUR: 'it returns false'. Refute it at one input. -/
def fnDayOfWrong : ChangeSpec := { name := "fnDayOf", fn := fun _ => fun
  | [d] => { results := [.lit (.bool false)], args := [d] }
  | _ => none }
def FnDayOfWrongFalsely : Prop := fnDayOfRow.holds Try.pinned (OpenSpec.ofChange fnDayOfWrong)

/-- 'laws.FnDayOfNext': WHATEVER THE INPUT: true; the input reads as it did. -/
def fnDayOfNextSpec : ChangeSpec := { name := "fnDayOfNext", fn := fun _ => fun
  | [d] => { results := [.lit (.bool true)], args := [d] }
  | _ => none }
def fnDayOfNextRow : OpenClaim := { program := "ytdccajcfhhlpfaa", sum := "081b5795257c8e57ec435be4380f7cfd8fb4aca59399a8de89fb8a10d2ddcbe4", func := "loop.example/satelliteclock/laws.FnDayOfNext", spec := "fnDayOfNext", apart := false }
def FnDayOfNextSaid : Prop := fnDayOfNextRow.holds Try.pinned (OpenSpec.ofChange fnDayOfNextSpec)

/-- ITS FALSE NEIGHBOUR: 'it returns false'. Refute it at one input. -/
def fnDayOfNextWrong : ChangeSpec := { name := "fnDayOfNext", fn := fun _ => fun
  | [d] => { results := [.lit (.bool false)], args := [d] }
  | _ => none }
def FnDayOfNextWrongFalsely : Prop := fnDayOfNextRow.holds Try.pinned (OpenSpec.ofChange fnDayOfNextWrong)

/-- 'laws.FnDateOf': WHATEVER THE INPUT: true; the input reads as it did. -/
def fnDateOfSpec : ChangeSpec := { name := "fnDateOf", fn := fun _ => fun
  | [d] => { results := [.lit (.bool true)], args := [d] }
  | _ => none }
def fnDateOfRow : OpenClaim := { program := "ytdccajcfhhlpfaa", sum := "081b5795257c8e57ec435be4380f7cfd8fb4aca59399a8de89fb8a10d2ddcbe4", func := "loop.example/satelliteclock/laws.FnDateOf", spec := "fnDateOf", apart := false }
def FnDateOfSaid : Prop := fnDateOfRow.holds Try.pinned (OpenSpec.ofChange fnDateOfSpec)

/-- ITS FALSE NEIGHBOUR: 'it returns false'. Refute it at one input. -/
def fnDateOfWrong : ChangeSpec := { name := "fnDateOf", fn := fun _ => fun
  | [d] => { results := [.lit (.bool false)], args := [d] }
  | _ => none }
def FnDateOfWrongFalsely : Prop := fnDateOfRow.holds Try.pinned (OpenSpec.ofChange fnDateOfWrong)

/-- 'laws.FnDateOfYear': WHATEVER THE INPUT: true; the input reads as it did. -/
def fnDateOfYearSpec : ChangeSpec := { name := "fnDateOfYear", fn := fun _ => fun
  | [d] => { results := [.lit (.bool true)], args := [d] }
  | _ => none }
def fnDateOfYearRow : OpenClaim := { program := "ytdccajcfhhlpfaa", sum := "081b5795257c8e57ec435be4380f7cfd8fb4aca59399a8de89fb8a10d2ddcbe4", func := "loop.example/satelliteclock/laws.FnDateOfYear", spec := "fnDateOfYear", apart := false }
def FnDateOfYearSaid : Prop := fnDateOfYearRow.holds Try.pinned (OpenSpec.ofChange fnDateOfYearSpec)

/-- ITS FALSE NEIGHBOUR: 'it returns false'. Refute it at one input. -/
def fnDateOfYearWrong : ChangeSpec := { name := "fnDateOfYear", fn := fun _ => fun
  | [d] => { results := [.lit (.bool false)], args := [d] }
  | _ => none }
def FnDateOfYearWrongFalsely : Prop := fnDateOfYearRow.holds Try.pinned (OpenSpec.ofChange fnDateOfYearWrong)

/-- 'laws.FnWeekdayOf': WHATEVER THE INPUT: true; the input reads as it did. -/
def fnWeekdayOfSpec : ChangeSpec := { name := "fnWeekdayOf", fn := fun _ => fun
  | [d] => { results := [.lit (.bool true)], args := [d] }
  | _ => none }
def fnWeekdayOfRow : OpenClaim := { program := "ytdccajcfhhlpfaa", sum := "081b5795257c8e57ec435be4380f7cfd8fb4aca59399a8de89fb8a10d2ddcbe4", func := "loop.example/satelliteclock/laws.FnWeekdayOf", spec := "fnWeekdayOf", apart := false }
def FnWeekdayOfSaid : Prop := fnWeekdayOfRow.holds Try.pinned (OpenSpec.ofChange fnWeekdayOfSpec)

/-- ITS FALSE NEIGHBOUR: 'it returns false'. Refute it at one input. -/
def fnWeekdayOfWrong : ChangeSpec := { name := "fnWeekdayOf", fn := fun _ => fun
  | [d] => { results := [.lit (.bool false)], args := [d] }
  | _ => none }
def FnWeekdayOfWrongFalsely : Prop := fnWeekdayOfRow.holds Try.pinned (OpenSpec.ofChange fnWeekdayOfWrong)

/-- 'laws.FnWeekdayOfEpoch': WHATEVER THE INPUT: true; the input reads as it did. -/
def fnWeekdayOfEpochSpec : ChangeSpec := { name := "fnWeekdayOfEpoch", fn := fun _ => fun
  | [d] => { results := [.lit (.bool true)], args := [d] }
  | _ => none }
def fnWeekdayOfEpochRow : OpenClaim := { program := "ytdccajcfhhlpfaa", sum := "081b5795257c8e57ec435be4380f7cfd8fb4aca59399a8de89fb8a10d2ddcbe4", func := "loop.example/satelliteclock/laws.FnWeekdayOfEpoch", spec := "fnWeekdayOfEpoch", apart := false }
def FnWeekdayOfEpochSaid : Prop := fnWeekdayOfEpochRow.holds Try.pinned (OpenSpec.ofChange fnWeekdayOfEpochSpec)

/-- ITS FALSE NEIGHBOUR: 'it returns false'. Refute it at one input. -/
def fnWeekdayOfEpochWrong : ChangeSpec := { name := "fnWeekdayOfEpoch", fn := fun _ => fun
  | [d] => { results := [.lit (.bool false)], args := [d] }
  | _ => none }
def FnWeekdayOfEpochWrongFalsely : Prop := fnWeekdayOfEpochRow.holds Try.pinned (OpenSpec.ofChange fnWeekdayOfEpochWrong)

/-- 'laws.FnGpsTime': WHATEVER THE INPUT: true; the input reads as it did. -/
def fnGpsTimeSpec : ChangeSpec := { name := "fnGpsTime", fn := fun _ => fun
  | [d] => { results := [.lit (.bool true)], args := [d] }
  | _ => none }
def fnGpsTimeRow : OpenClaim := { program := "ytdccajcfhhlpfaa", sum := "081b5795257c8e57ec435be4380f7cfd8fb4aca59399a8de89fb8a10d2ddcbe4", func := "loop.example/satelliteclock/laws.FnGpsTime", spec := "fnGpsTime", apart := false }
def FnGpsTimeSaid : Prop := fnGpsTimeRow.holds Try.pinned (OpenSpec.ofChange fnGpsTimeSpec)

/-- ITS FALSE NEIGHBOUR: 'it returns false'. Refute it at one input. -/
def fnGpsTimeWrong : ChangeSpec := { name := "fnGpsTime", fn := fun _ => fun
  | [d] => { results := [.lit (.bool false)], args := [d] }
  | _ => none }
def FnGpsTimeWrongFalsely : Prop := fnGpsTimeRow.holds Try.pinned (OpenSpec.ofChange fnGpsTimeWrong)

/-- 'laws.FnGpsTimeWeek': WHATEVER THE INPUT: true; the input reads as it did. -/
def fnGpsTimeWeekSpec : ChangeSpec := { name := "fnGpsTimeWeek", fn := fun _ => fun
  | [d] => { results := [.lit (.bool true)], args := [d] }
  | _ => none }
def fnGpsTimeWeekRow : OpenClaim := { program := "ytdccajcfhhlpfaa", sum := "081b5795257c8e57ec435be4380f7cfd8fb4aca59399a8de89fb8a10d2ddcbe4", func := "loop.example/satelliteclock/laws.FnGpsTimeWeek", spec := "fnGpsTimeWeek", apart := false }
def FnGpsTimeWeekSaid : Prop := fnGpsTimeWeekRow.holds Try.pinned (OpenSpec.ofChange fnGpsTimeWeekSpec)

/-- ITS FALSE NEIGHBOUR: 'it returns false'. Refute it at one input. -/
def fnGpsTimeWeekWrong : ChangeSpec := { name := "fnGpsTimeWeek", fn := fun _ => fun
  | [d] => { results := [.lit (.bool false)], args := [d] }
  | _ => none }
def FnGpsTimeWeekWrongFalsely : Prop := fnGpsTimeWeekRow.holds Try.pinned (OpenSpec.ofChange fnGpsTimeWeekWrong)

/-- 'laws.FnWeekOf': WHATEVER THE INPUT: true; the input reads as it did. -/
def fnWeekOfSpec : ChangeSpec := { name := "fnWeekOf", fn := fun _ => fun
  | [d] => { results := [.lit (.bool true)], args := [d] }
  | _ => none }
def fnWeekOfRow : OpenClaim := { program := "ytdccajcfhhlpfaa", sum := "081b5795257c8e57ec435be4380f7cfd8fb4aca59399a8de89fb8a10d2ddcbe4", func := "loop.example/satelliteclock/laws.FnWeekOf", spec := "fnWeekOf", apart := false }
def FnWeekOfSaid : Prop := fnWeekOfRow.holds Try.pinned (OpenSpec.ofChange fnWeekOfSpec)

/-- ITS FALSE NEIGHBOUR: 'it returns false'. Refute it at one input. -/
def fnWeekOfWrong : ChangeSpec := { name := "fnWeekOf", fn := fun _ => fun
  | [d] => { results := [.lit (.bool false)], args := [d] }
  | _ => none }
def FnWeekOfWrongFalsely : Prop := fnWeekOfRow.holds Try.pinned (OpenSpec.ofChange fnWeekOfWrong)

/- THE SECOND FORM. 'bulk': how many values and letters a reading holds, each counted each time it is reached (what is shared counts as often as it is met; a slice's spare places count too). A statement '..UptoSaid' is the law's where the arguments, and the package variables that the reading takes, are together of bulk at most 1048576: NARROWER than '..Said'. Prove '..Said' where nothing that the law and all that it calls make is longer than what came in: it says more and counts as full. Else prove '..UptoSaid'. A law counts once. -/
mutual
def uptoBulk {H : Type} : DataW H → Nat
  | .lit (.string bytes) => bytes.length + 1
  | .lit _ => 1
  | .nil => 1
  | .ptr d => uptoBulk d + 1
  | .slice elems spare => uptoBulkAll elems + uptoBulkAll spare + 1
  | .agg parts => uptoBulkAll parts + 1
  | .iface _ d => uptoBulk d + 1
  | .map entries => uptoBulkEntries entries + 1
  | .held _ => 1
def uptoBulkAll {H : Type} : List (DataW H) → Nat
  | [] => 0
  | d :: r => uptoBulk d + uptoBulkAll r
def uptoBulkEntries {H : Type} : List (Lit × DataW H) → Nat
  | [] => 0
  | x :: r => uptoBulkEntry x + uptoBulkEntries r
def uptoBulkEntry {H : Type} : Lit × DataW H → Nat
  | (.string bytes, d) => bytes.length + uptoBulk d + 1
  | (_, d) => uptoBulk d + 1
 end
def uptoSmall : (H : Type) → List (DataW H) → Bool := fun _ ds => decide (uptoBulkAll ds ≤ 1048576)
def OpenSpec.upto (s : _root_.Go.ChangeSpec) : _root_.Go.OpenSpec := { _root_.Go.OpenSpec.ofChange s with cond := some uptoSmall }

/-- 'laws.FnIsLeapYear', WHERE WHAT IT READS IS OF BULK AT MOST 1048576: true; the input reads as it did. -/
def fnIsLeapYearUptoRow : OpenClaim := { program := "ytdccajcfhhlpfaa", sum := "081b5795257c8e57ec435be4380f7cfd8fb4aca59399a8de89fb8a10d2ddcbe4", func := "loop.example/satelliteclock/laws.FnIsLeapYear", spec := "fnIsLeapYear", apart := false, narrowed := true }
def FnIsLeapYearUptoSaid : Prop := fnIsLeapYearUptoRow.holds Try.pinned (OpenSpec.upto fnIsLeapYearSpec)

/-- 'laws.FnIsLeapYearFour', WHERE WHAT IT READS IS OF BULK AT MOST 1048576: true; the input reads as it did. -/
def fnIsLeapYearFourUptoRow : OpenClaim := { program := "ytdccajcfhhlpfaa", sum := "081b5795257c8e57ec435be4380f7cfd8fb4aca59399a8de89fb8a10d2ddcbe4", func := "loop.example/satelliteclock/laws.FnIsLeapYearFour", spec := "fnIsLeapYearFour", apart := false, narrowed := true }
def FnIsLeapYearFourUptoSaid : Prop := fnIsLeapYearFourUptoRow.holds Try.pinned (OpenSpec.upto fnIsLeapYearFourSpec)

/-- 'laws.FnMonthDays', WHERE WHAT IT READS IS OF BULK AT MOST 1048576: true; the input reads as it did. -/
def fnMonthDaysUptoRow : OpenClaim := { program := "ytdccajcfhhlpfaa", sum := "081b5795257c8e57ec435be4380f7cfd8fb4aca59399a8de89fb8a10d2ddcbe4", func := "loop.example/satelliteclock/laws.FnMonthDays", spec := "fnMonthDays", apart := false, narrowed := true }
def FnMonthDaysUptoSaid : Prop := fnMonthDaysUptoRow.holds Try.pinned (OpenSpec.upto fnMonthDaysSpec)

/-- 'laws.FnDayOf', WHERE WHAT IT READS IS OF BULK AT MOST 1048576: true; the input reads as it did. -/
def fnDayOfUptoRow : OpenClaim := { program := "ytdccajcfhhlpfaa", sum := "081b5795257c8e57ec435be4380f7cfd8fb4aca59399a8de89fb8a10d2ddcbe4", func := "loop.example/satelliteclock/laws.FnDayOf", spec := "fnDayOf", apart := false, narrowed := true }
def FnDayOfUptoSaid : Prop := fnDayOfUptoRow.holds Try.pinned (OpenSpec.upto fnDayOfSpec)

/-- 'laws.FnDayOfNext', WHERE WHAT IT READS IS OF BULK AT MOST 1048576: true; the input reads as it did. -/
def fnDayOfNextUptoRow : OpenClaim := { program := "ytdccajcfhhlpfaa", sum := "081b5795257c8e57ec435be4380f7cfd8fb4aca59399a8de89fb8a10d2ddcbe4", func := "loop.example/satelliteclock/laws.FnDayOfNext", spec := "fnDayOfNext", apart := false, narrowed := true }
def FnDayOfNextUptoSaid : Prop := fnDayOfNextUptoRow.holds Try.pinned (OpenSpec.upto fnDayOfNextSpec)

/-- 'laws.FnDateOf', WHERE WHAT IT READS IS OF BULK AT MOST 1048576: true; the input reads as it did. -/
def fnDateOfUptoRow : OpenClaim := { program := "ytdccajcfhhlpfaa", sum := "081b5795257c8e57ec435be4380f7cfd8fb4aca59399a8de89fb8a10d2ddcbe4", func := "loop.example/satelliteclock/laws.FnDateOf", spec := "fnDateOf", apart := false, narrowed := true }
def FnDateOfUptoSaid : Prop := fnDateOfUptoRow.holds Try.pinned (OpenSpec.upto fnDateOfSpec)

/-- 'laws.FnDateOfYear', WHERE WHAT IT READS IS OF BULK AT MOST 1048576: true; the input reads as it did. -/
def fnDateOfYearUptoRow : OpenClaim := { program := "ytdccajcfhhlpfaa", sum := "081b5795257c8e57ec435be4380f7cfd8fb4aca59399a8de89fb8a10d2ddcbe4", func := "loop.example/satelliteclock/laws.FnDateOfYear", spec := "fnDateOfYear", apart := false, narrowed := true }
def FnDateOfYearUptoSaid : Prop := fnDateOfYearUptoRow.holds Try.pinned (OpenSpec.upto fnDateOfYearSpec)

/-- 'laws.FnWeekdayOf', WHERE WHAT IT READS IS OF BULK AT MOST 1048576: true; the input reads as it did. -/
def fnWeekdayOfUptoRow : OpenClaim := { program := "ytdccajcfhhlpfaa", sum := "081b5795257c8e57ec435be4380f7cfd8fb4aca59399a8de89fb8a10d2ddcbe4", func := "loop.example/satelliteclock/laws.FnWeekdayOf", spec := "fnWeekdayOf", apart := false, narrowed := true }
def FnWeekdayOfUptoSaid : Prop := fnWeekdayOfUptoRow.holds Try.pinned (OpenSpec.upto fnWeekdayOfSpec)

/-- 'laws.FnWeekdayOfEpoch', WHERE WHAT IT READS IS OF BULK AT MOST 1048576: true; the input reads as it did. -/
def fnWeekdayOfEpochUptoRow : OpenClaim := { program := "ytdccajcfhhlpfaa", sum := "081b5795257c8e57ec435be4380f7cfd8fb4aca59399a8de89fb8a10d2ddcbe4", func := "loop.example/satelliteclock/laws.FnWeekdayOfEpoch", spec := "fnWeekdayOfEpoch", apart := false, narrowed := true }
def FnWeekdayOfEpochUptoSaid : Prop := fnWeekdayOfEpochUptoRow.holds Try.pinned (OpenSpec.upto fnWeekdayOfEpochSpec)

/-- 'laws.FnGpsTime', WHERE WHAT IT READS IS OF BULK AT MOST 1048576: true; the input reads as it did. -/
def fnGpsTimeUptoRow : OpenClaim := { program := "ytdccajcfhhlpfaa", sum := "081b5795257c8e57ec435be4380f7cfd8fb4aca59399a8de89fb8a10d2ddcbe4", func := "loop.example/satelliteclock/laws.FnGpsTime", spec := "fnGpsTime", apart := false, narrowed := true }
def FnGpsTimeUptoSaid : Prop := fnGpsTimeUptoRow.holds Try.pinned (OpenSpec.upto fnGpsTimeSpec)

/-- 'laws.FnGpsTimeWeek', WHERE WHAT IT READS IS OF BULK AT MOST 1048576: true; the input reads as it did. -/
def fnGpsTimeWeekUptoRow : OpenClaim := { program := "ytdccajcfhhlpfaa", sum := "081b5795257c8e57ec435be4380f7cfd8fb4aca59399a8de89fb8a10d2ddcbe4", func := "loop.example/satelliteclock/laws.FnGpsTimeWeek", spec := "fnGpsTimeWeek", apart := false, narrowed := true }
def FnGpsTimeWeekUptoSaid : Prop := fnGpsTimeWeekUptoRow.holds Try.pinned (OpenSpec.upto fnGpsTimeWeekSpec)

/-- 'laws.FnWeekOf', WHERE WHAT IT READS IS OF BULK AT MOST 1048576: true; the input reads as it did. -/
def fnWeekOfUptoRow : OpenClaim := { program := "ytdccajcfhhlpfaa", sum := "081b5795257c8e57ec435be4380f7cfd8fb4aca59399a8de89fb8a10d2ddcbe4", func := "loop.example/satelliteclock/laws.FnWeekOf", spec := "fnWeekOf", apart := false, narrowed := true }
def FnWeekOfUptoSaid : Prop := fnWeekOfUptoRow.holds Try.pinned (OpenSpec.upto fnWeekOfSpec)

end Rows
end Go.Proofs.Ytdccajcfhhlpfaa
