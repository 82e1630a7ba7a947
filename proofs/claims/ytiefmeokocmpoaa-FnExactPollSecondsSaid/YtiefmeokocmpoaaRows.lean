/-
  No cell of these rows narrows 'for every input' (looked for: loops, veiled, ifaces, maps, wideKeys, modest, calm, conditions, laid).
  DERIVED. THE GIVEN ROWS OF THIS SEAT. 4 by the template 'for every input the law returns true; each argument reads behind the call as it read before'; 0 by the template 'total and deterministic' (their statements: YtiefmeokocmpoaaTotals.lean).
  GIVEN WITH THE SEED: the statements are not yours to turn. If you find one false, say at which input.
  Laid BY PROGRAM, IN A SANDBOX (cutbox-rows.mjs): the forced cells as the released guide's own fill.sh prints them over the translation 634da068f16c388b… (all of the seat's roots in one cut). By AI agents, Wed Nov 11 2026. No macro, syntax, notation, axiom, sorry.
-/
import Derived.Test.YtiefmeokocmpoaaChecked
import GoSem.Claim
import GoSem.ClaimJoined
import GoSem.ClaimMapViews
import Derived.JoinedTies
import Derived.KernelRfl
namespace Go.Proofs.Ytiefmeokocmpoaa
/- THE CELL 'sum', in the pinned program and in every row, IS THE sha256 OF THE DUMP (.gsa) THAT YtiefmeokocmpoaaProg.lean LOADS. Nothing in Lean hashes anything: it is a label: what it is worth is what the hold of that sum in a sandbox is worth. -/
noncomputable def Try.pinned : Pinned := { name := "ytiefmeokocmpoaa", sum := "634da068f16c388b85cc7bc0d3d247f28cb637ee3f079538cfa1769d34c53db3", checked := Try.checked }
namespace Rows
def none {H : Type} : Left H := { results := [], args := [] }

/-- 'laws.FnValidPoll': WHATEVER THE INPUT: true; the input reads as it did. -/
def fnValidPollSpec : ChangeSpec := { name := "fnValidPoll", fn := fun _ => fun
  | [d] => { results := [.lit (.bool true)], args := [d] }
  | _ => none }
def fnValidPollRow : OpenClaim := { program := "ytiefmeokocmpoaa", sum := "634da068f16c388b85cc7bc0d3d247f28cb637ee3f079538cfa1769d34c53db3", func := "loop.example/satelliteclock/laws.FnValidPoll", spec := "fnValidPoll", apart := false }
def FnValidPollSaid : Prop := fnValidPollRow.holds Try.pinned (OpenSpec.ofChange fnValidPollSpec)

/-- ITS FALSE NEIGHBOUR: 'it returns false'. Refute it at one input. -/
def fnValidPollWrong : ChangeSpec := { name := "fnValidPoll", fn := fun _ => fun
  | [d] => { results := [.lit (.bool false)], args := [d] }
  | _ => none }
def FnValidPollWrongFalsely : Prop := fnValidPollRow.holds Try.pinned (OpenSpec.ofChange fnValidPollWrong)

/-- 'laws.FnPollSeconds': WHATEVER THE INPUT: true; the input reads as it did. -/
def fnPollSecondsSpec : ChangeSpec := { name := "fnPollSeconds", fn := fun _ => fun
  | [d] => { results := [.lit (.bool true)], args := [d] }
  | _ => none }
def fnPollSecondsRow : OpenClaim := { program := "ytiefmeokocmpoaa", sum := "634da068f16c388b85cc7bc0d3d247f28cb637ee3f079538cfa1769d34c53db3", func := "loop.example/satelliteclock/laws.FnPollSeconds", spec := "fnPollSeconds", apart := false }
def FnPollSecondsSaid : Prop := fnPollSecondsRow.holds Try.pinned (OpenSpec.ofChange fnPollSecondsSpec)

/-- ITS FALSE NEIGHBOUR: 'it returns false'. Refute it at one input. -/
def fnPollSecondsWrong : ChangeSpec := { name := "fnPollSeconds", fn := fun _ => fun
  | [d] => { results := [.lit (.bool false)], args := [d] }
  | _ => none }
def FnPollSecondsWrongFalsely : Prop := fnPollSecondsRow.holds Try.pinned (OpenSpec.ofChange fnPollSecondsWrong)

/-- 'laws.FnExactValidPoll': WHATEVER THE INPUT: true; the input reads as it did. -/
def fnExactValidPollSpec : ChangeSpec := { name := "fnExactValidPoll", fn := fun _ => fun
  | [d] => { results := [.lit (.bool true)], args := [d] }
  | _ => none }
def fnExactValidPollRow : OpenClaim := { program := "ytiefmeokocmpoaa", sum := "634da068f16c388b85cc7bc0d3d247f28cb637ee3f079538cfa1769d34c53db3", func := "loop.example/satelliteclock/laws.FnExactValidPoll", spec := "fnExactValidPoll", apart := false }
def FnExactValidPollSaid : Prop := fnExactValidPollRow.holds Try.pinned (OpenSpec.ofChange fnExactValidPollSpec)

/-- ITS FALSE NEIGHBOUR: 'it returns false'. Refute it at one input. -/
def fnExactValidPollWrong : ChangeSpec := { name := "fnExactValidPoll", fn := fun _ => fun
  | [d] => { results := [.lit (.bool false)], args := [d] }
  | _ => none }
def FnExactValidPollWrongFalsely : Prop := fnExactValidPollRow.holds Try.pinned (OpenSpec.ofChange fnExactValidPollWrong)

/-- 'laws.FnExactPollSeconds': WHATEVER THE INPUT: true; the input reads as it did. -/
def fnExactPollSecondsSpec : ChangeSpec := { name := "fnExactPollSeconds", fn := fun _ => fun
  | [d] => { results := [.lit (.bool true)], args := [d] }
  | _ => none }
def fnExactPollSecondsRow : OpenClaim := { program := "ytiefmeokocmpoaa", sum := "634da068f16c388b85cc7bc0d3d247f28cb637ee3f079538cfa1769d34c53db3", func := "loop.example/satelliteclock/laws.FnExactPollSeconds", spec := "fnExactPollSeconds", apart := false }
def FnExactPollSecondsSaid : Prop := fnExactPollSecondsRow.holds Try.pinned (OpenSpec.ofChange fnExactPollSecondsSpec)

/-- ITS FALSE NEIGHBOUR: 'it returns false'. Refute it at one input. -/
def fnExactPollSecondsWrong : ChangeSpec := { name := "fnExactPollSeconds", fn := fun _ => fun
  | [d] => { results := [.lit (.bool false)], args := [d] }
  | _ => none }
def FnExactPollSecondsWrongFalsely : Prop := fnExactPollSecondsRow.holds Try.pinned (OpenSpec.ofChange fnExactPollSecondsWrong)

/- THE SECOND FORM. 'bulk': how many values and letters a reading holds, each counted each time it is reached (what is shared counts as often as it is met; a slice's spare places count too). A statement '..UptoSaid' is the law's where the arguments, and the package variables that the reading takes, are together of bulk at most 1048576: NARROWER than '..Said'. Prove '..Said' where nothing that the law and all that it calls make is longer than what came in: it says more and counts as full. Else prove '..UptoSaid'. A law counts once. -/
mutual
def uptoBulk {H : Type} : DataW H → Nat
  | .lit (.string bytes) => bytes.length + 1
  | .lit _ => 1
  | .nil => 1
  | .ptr d => uptoBulk d + 1
  | .slice elems spare => uptoBulkAll elems + uptoBulkAll spare + 1
  | .agg parts => uptoBulkAll parts + 1
  | .iface _ d => uptoBulk d + 1
  | .map entries => uptoBulkEntries entries + 1
  | .held _ => 1
def uptoBulkAll {H : Type} : List (DataW H) → Nat
  | [] => 0
  | d :: r => uptoBulk d + uptoBulkAll r
def uptoBulkEntries {H : Type} : List (Lit × DataW H) → Nat
  | [] => 0
  | x :: r => uptoBulkEntry x + uptoBulkEntries r
def uptoBulkEntry {H : Type} : Lit × DataW H → Nat
  | (.string bytes, d) => bytes.length + uptoBulk d + 1
  | (_, d) => uptoBulk d + 1
 end
def uptoSmall : (H : Type) → List (DataW H) → Bool := fun _ ds => decide (uptoBulkAll ds ≤ 1048576)
def OpenSpec.upto (s : _root_.Go.ChangeSpec) : _root_.Go.OpenSpec := { _root_.Go.OpenSpec.ofChange s with cond := some uptoSmall }

/-- 'laws.FnValidPoll', WHERE WHAT IT READS IS OF BULK AT MOST 1048576: true; the input reads as it did. -/
def fnValidPollUptoRow : OpenClaim := { program := "ytiefmeokocmpoaa", sum := "634da068f16c388b85cc7bc0d3d247f28cb637ee3f079538cfa1769d34c53db3", func := "loop.example/satelliteclock/laws.FnValidPoll", spec := "fnValidPoll", apart := false, narrowed := true }
def FnValidPollUptoSaid : Prop := fnValidPollUptoRow.holds Try.pinned (OpenSpec.upto fnValidPollSpec)

/-- 'laws.FnPollSeconds', WHERE WHAT IT READS IS OF BULK AT MOST 1048576: true; the input reads as it did. -/
def fnPollSecondsUptoRow : OpenClaim := { program := "ytiefmeokocmpoaa", sum := "634da068f16c388b85cc7bc0d3d247f28cb637ee3f079538cfa1769d34c53db3", func := "loop.example/satelliteclock/laws.FnPollSeconds", spec := "fnPollSeconds", apart := false, narrowed := true }
def FnPollSecondsUptoSaid : Prop := fnPollSecondsUptoRow.holds Try.pinned (OpenSpec.upto fnPollSecondsSpec)

/-- 'laws.FnExactValidPoll', WHERE WHAT IT READS IS OF BULK AT MOST 1048576: true; the input reads as it did. -/
def fnExactValidPollUptoRow : OpenClaim := { program := "ytiefmeokocmpoaa", sum := "634da068f16c388b85cc7bc0d3d247f28cb637ee3f079538cfa1769d34c53db3", func := "loop.example/satelliteclock/laws.FnExactValidPoll", spec := "fnExactValidPoll", apart := false, narrowed := true }
def FnExactValidPollUptoSaid : Prop := fnExactValidPollUptoRow.holds Try.pinned (OpenSpec.upto fnExactValidPollSpec)

/-- 'laws.FnExactPollSeconds', WHERE WHAT IT READS IS OF BULK AT MOST 1048576: true; the input reads as it did. -/
def fnExactPollSecondsUptoRow : OpenClaim := { program := "ytiefmeokocmpoaa", sum := "634da068f16c388b85cc7bc0d3d247f28cb637ee3f079538cfa1769d34c53db3", func := "loop.example/satelliteclock/laws.FnExactPollSeconds", spec := "fnExactPollSeconds", apart := false, narrowed := true }
def FnExactPollSecondsUptoSaid : Prop := fnExactPollSecondsUptoRow.holds Try.pinned (OpenSpec.upto fnExactPollSecondsSpec)

end Rows
end Go.Proofs.Ytiefmeokocmpoaa
