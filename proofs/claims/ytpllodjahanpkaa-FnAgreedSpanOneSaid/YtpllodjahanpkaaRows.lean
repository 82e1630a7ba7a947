/-
  No cell of these rows narrows 'for every input' (looked for: loops, veiled, ifaces, maps, wideKeys, modest, calm, conditions, laid).
  DERIVED. THE GIVEN ROWS OF THIS SEAT. 10 by the template 'for every input the law returns true; each argument reads behind the call as it read before'; 0 by the template 'total and deterministic' (their statements: YtpllodjahanpkaaTotals.lean).
  GIVEN WITH THE SEED: the statements are not yours to turn. If you find one false, say at which input.
  Laid BY PROGRAM, IN A SANDBOX (cutbox-rows.mjs): the forced cells as the released guide's own fill.sh prints them over the translation 339080ea5f150022… (all of the seat's roots in one cut). By AI agents, Wed Nov 11 2026. No macro, syntax, notation, axiom, sorry.
-/
import Derived.Test.YtpllodjahanpkaaChecked
import GoSem.Claim
import GoSem.ClaimJoined
import GoSem.ClaimMapViews
import Derived.JoinedTies
import Derived.KernelRfl
namespace Go.Proofs.Ytpllodjahanpkaa
/- THE CELL 'sum', in the pinned program and in every row, IS THE sha256 OF THE DUMP (.gsa) THAT YtpllodjahanpkaaProg.lean LOADS. Nothing in Lean hashes anything: it is a label: what it is worth is what the hold of that sum in a sandbox is worth. -/
noncomputable def Try.pinned : Pinned := { name := "ytpllodjahanpkaa", sum := "339080ea5f15002223c78dd11954bb9ae6d000c122bb1508c814d3f2254041c0", checked := Try.checked }
namespace Rows
def none {H : Type} : Left H := { results := [], args := [] }

/-- 'laws.FnValidSpans': WHATEVER THE INPUT: true; the input reads as it did. -/
def fnValidSpansSpec : ChangeSpec := { name := "fnValidSpans", fn := fun _ => fun
  | [d] => { results := [.lit (.bool true)], args := [d] }
  | _ => none }
def fnValidSpansRow : OpenClaim := { program := "ytpllodjahanpkaa", sum := "339080ea5f15002223c78dd11954bb9ae6d000c122bb1508c814d3f2254041c0", func := "loop.example/satelliteclock/laws.FnValidSpans", spec := "fnValidSpans", apart := false }
def FnValidSpansSaid : Prop := fnValidSpansRow.holds Try.pinned (OpenSpec.ofChange fnValidSpansSpec)

/-- ITS FALSE NEIGHBOUR: 'it returns false'. Refute it at one input. -/
def fnValidSpansWrong : ChangeSpec := { name := "fnValidSpans", fn := fun _ => fun
  | [d] => { results := [.lit (.bool false)], args := [d] }
  | _ => none }
def FnValidSpansWrongFalsely : Prop := fnValidSpansRow.holds Try.pinned (OpenSpec.ofChange fnValidSpansWrong)

/-- 'laws.FnVotesFor': WHATEVER THE INPUT: true; the input reads as it did. -/
def fnVotesForSpec : ChangeSpec := { name := "fnVotesFor", fn := fun _ => fun
  | [d] => { results := [.lit (.bool true)], args := [d] }
  | _ => none }
def fnVotesForRow : OpenClaim := { program := "ytpllodjahanpkaa", sum := "339080ea5f15002223c78dd11954bb9ae6d000c122bb1508c814d3f2254041c0", func := "loop.example/satelliteclock/laws.FnVotesFor", spec := "fnVotesFor", apart := false }
def FnVotesForSaid : Prop := fnVotesForRow.holds Try.pinned (OpenSpec.ofChange fnVotesForSpec)

/-- ITS FALSE NEIGHBOUR: 'it returns false'. Refute it at one input. -/
def fnVotesForWrong : ChangeSpec := { name := "fnVotesFor", fn := fun _ => fun
  | [d] => { results := [.lit (.bool false)], args := [d] }
  | _ => none }
def FnVotesForWrongFalsely : Prop := fnVotesForRow.holds Try.pinned (OpenSpec.ofChange fnVotesForWrong)

/-- 'laws.FnVotesForEnds': WHATEVER THE INPUT: true; the input reads as it did. -/
def fnVotesForEndsSpec : ChangeSpec := { name := "fnVotesForEnds", fn := fun _ => fun
  | [d] => { results := [.lit (.bool true)], args := [d] }
  | _ => none }
def fnVotesForEndsRow : OpenClaim := { program := "ytpllodjahanpkaa", sum := "339080ea5f15002223c78dd11954bb9ae6d000c122bb1508c814d3f2254041c0", func := "loop.example/satelliteclock/laws.FnVotesForEnds", spec := "fnVotesForEnds", unfollowed := true, recurses := true, apart := false }
def FnVotesForEndsSaid : Prop := fnVotesForEndsRow.holds Try.pinned (OpenSpec.ofChange fnVotesForEndsSpec)

/-- ITS FALSE NEIGHBOUR: 'it returns false'. Refute it at one input. -/
def fnVotesForEndsWrong : ChangeSpec := { name := "fnVotesForEnds", fn := fun _ => fun
  | [d] => { results := [.lit (.bool false)], args := [d] }
  | _ => none }
def FnVotesForEndsWrongFalsely : Prop := fnVotesForEndsRow.holds Try.pinned (OpenSpec.ofChange fnVotesForEndsWrong)

/-- 'laws.FnMostVotes': WHATEVER THE INPUT: true; the input reads as it did. -/
def fnMostVotesSpec : ChangeSpec := { name := "fnMostVotes", fn := fun _ => fun
  | [d] => { results := [.lit (.bool true)], args := [d] }
  | _ => none }
def fnMostVotesRow : OpenClaim := { program := "ytpllodjahanpkaa", sum := "339080ea5f15002223c78dd11954bb9ae6d000c122bb1508c814d3f2254041c0", func := "loop.example/satelliteclock/laws.FnMostVotes", spec := "fnMostVotes", unfollowed := true, recurses := true, apart := false }
def FnMostVotesSaid : Prop := fnMostVotesRow.holds Try.pinned (OpenSpec.ofChange fnMostVotesSpec)

/-- ITS FALSE NEIGHBOUR: 'it returns false'. Refute it at one input. -/
def fnMostVotesWrong : ChangeSpec := { name := "fnMostVotes", fn := fun _ => fun
  | [d] => { results := [.lit (.bool false)], args := [d] }
  | _ => none }
def FnMostVotesWrongFalsely : Prop := fnMostVotesRow.holds Try.pinned (OpenSpec.ofChange fnMostVotesWrong)

/-- 'laws.FnAgreedSpan': WHATEVER THE INPUT: true; the input reads as it did. -/
def fnAgreedSpanSpec : ChangeSpec := { name := "fnAgreedSpan", fn := fun _ => fun
  | [d] => { results := [.lit (.bool true)], args := [d] }
  | _ => none }
def fnAgreedSpanRow : OpenClaim := { program := "ytpllodjahanpkaa", sum := "339080ea5f15002223c78dd11954bb9ae6d000c122bb1508c814d3f2254041c0", func := "loop.example/satelliteclock/laws.FnAgreedSpan", spec := "fnAgreedSpan", unfollowed := true, recurses := true, apart := false }
def FnAgreedSpanSaid : Prop := fnAgreedSpanRow.holds Try.pinned (OpenSpec.ofChange fnAgreedSpanSpec)

/-- ITS FALSE NEIGHBOUR: 'it returns false'. Refute it at one input. -/
def fnAgreedSpanWrong : ChangeSpec := { name := "fnAgreedSpan", fn := fun _ => fun
  | [d] => { results := [.lit (.bool false)], args := [d] }
  | _ => none }
def FnAgreedSpanWrongFalsely : Prop := fnAgreedSpanRow.holds Try.pinned (OpenSpec.ofChange fnAgreedSpanWrong)

/-- 'laws.FnAgreedSpanOne': WHATEVER THE INPUT: true; the input reads as it did. -/
def fnAgreedSpanOneSpec : ChangeSpec := { name := "fnAgreedSpanOne", fn := fun _ => fun
  | [d] => { results := [.lit (.bool true)], args := [d] }
  | _ => none }
def fnAgreedSpanOneRow : OpenClaim := { program := "ytpllodjahanpkaa", sum := "339080ea5f15002223c78dd11954bb9ae6d000c122bb1508c814d3f2254041c0", func := "loop.example/satelliteclock/laws.FnAgreedSpanOne", spec := "fnAgreedSpanOne", unfollowed := true, recurses := true, apart := false }
def FnAgreedSpanOneSaid : Prop := fnAgreedSpanOneRow.holds Try.pinned (OpenSpec.ofChange fnAgreedSpanOneSpec)

/-- ITS FALSE NEIGHBOUR: 'it returns false'. Refute it at one input. -/
def fnAgreedSpanOneWrong : ChangeSpec := { name := "fnAgreedSpanOne", fn := fun _ => fun
  | [d] => { results := [.lit (.bool false)], args := [d] }
  | _ => none }
def FnAgreedSpanOneWrongFalsely : Prop := fnAgreedSpanOneRow.holds Try.pinned (OpenSpec.ofChange fnAgreedSpanOneWrong)

/-- 'laws.FnAgreedSpanOrder': WHATEVER THE INPUT: true; the input reads as it did. -/
def fnAgreedSpanOrderSpec : ChangeSpec := { name := "fnAgreedSpanOrder", fn := fun _ => fun
  | [d] => { results := [.lit (.bool true)], args := [d] }
  | _ => none }
def fnAgreedSpanOrderRow : OpenClaim := { program := "ytpllodjahanpkaa", sum := "339080ea5f15002223c78dd11954bb9ae6d000c122bb1508c814d3f2254041c0", func := "loop.example/satelliteclock/laws.FnAgreedSpanOrder", spec := "fnAgreedSpanOrder", unfollowed := true, recurses := true, apart := false }
def FnAgreedSpanOrderSaid : Prop := fnAgreedSpanOrderRow.holds Try.pinned (OpenSpec.ofChange fnAgreedSpanOrderSpec)

/-- ITS FALSE NEIGHBOUR: 'it returns false'. Refute it at one input. -/
def fnAgreedSpanOrderWrong : ChangeSpec := { name := "fnAgreedSpanOrder", fn := fun _ => fun
  | [d] => { results := [.lit (.bool false)], args := [d] }
  | _ => none }
def FnAgreedSpanOrderWrongFalsely : Prop := fnAgreedSpanOrderRow.holds Try.pinned (OpenSpec.ofChange fnAgreedSpanOrderWrong)

/-- 'laws.FnFalseSources': WHATEVER THE INPUT: true; the input reads as it did. -/
def fnFalseSourcesSpec : ChangeSpec := { name := "fnFalseSources", fn := fun _ => fun
  | [d] => { results := [.lit (.bool true)], args := [d] }
  | _ => none }
def fnFalseSourcesRow : OpenClaim := { program := "ytpllodjahanpkaa", sum := "339080ea5f15002223c78dd11954bb9ae6d000c122bb1508c814d3f2254041c0", func := "loop.example/satelliteclock/laws.FnFalseSources", spec := "fnFalseSources", unfollowed := true, recurses := true, apart := false }
def FnFalseSourcesSaid : Prop := fnFalseSourcesRow.holds Try.pinned (OpenSpec.ofChange fnFalseSourcesSpec)

/-- ITS FALSE NEIGHBOUR: 'it returns false'. Refute it at one input. -/
def fnFalseSourcesWrong : ChangeSpec := { name := "fnFalseSources", fn := fun _ => fun
  | [d] => { results := [.lit (.bool false)], args := [d] }
  | _ => none }
def FnFalseSourcesWrongFalsely : Prop := fnFalseSourcesRow.holds Try.pinned (OpenSpec.ofChange fnFalseSourcesWrong)

/-- 'laws.FnMiddleOf': WHATEVER THE INPUT: true; the input reads as it did. -/
def fnMiddleOfSpec : ChangeSpec := { name := "fnMiddleOf", fn := fun _ => fun
  | [d] => { results := [.lit (.bool true)], args := [d] }
  | _ => none }
def fnMiddleOfRow : OpenClaim := { program := "ytpllodjahanpkaa", sum := "339080ea5f15002223c78dd11954bb9ae6d000c122bb1508c814d3f2254041c0", func := "loop.example/satelliteclock/laws.FnMiddleOf", spec := "fnMiddleOf", unfollowed := true, recurses := true, apart := false }
def FnMiddleOfSaid : Prop := fnMiddleOfRow.holds Try.pinned (OpenSpec.ofChange fnMiddleOfSpec)

/-- ITS FALSE NEIGHBOUR: 'it returns false'. Refute it at one input. -/
def fnMiddleOfWrong : ChangeSpec := { name := "fnMiddleOf", fn := fun _ => fun
  | [d] => { results := [.lit (.bool false)], args := [d] }
  | _ => none }
def FnMiddleOfWrongFalsely : Prop := fnMiddleOfRow.holds Try.pinned (OpenSpec.ofChange fnMiddleOfWrong)

/-- 'laws.FnVotesForAll': WHATEVER THE INPUT: true; the input reads as it did. -/
def fnVotesForAllSpec : ChangeSpec := { name := "fnVotesForAll", fn := fun _ => fun
  | [d] => { results := [.lit (.bool true)], args := [d] }
  | _ => none }
def fnVotesForAllRow : OpenClaim := { program := "ytpllodjahanpkaa", sum := "339080ea5f15002223c78dd11954bb9ae6d000c122bb1508c814d3f2254041c0", func := "loop.example/satelliteclock/laws.FnVotesForAll", spec := "fnVotesForAll", apart := false }
def FnVotesForAllSaid : Prop := fnVotesForAllRow.holds Try.pinned (OpenSpec.ofChange fnVotesForAllSpec)

/-- ITS FALSE NEIGHBOUR: 'it returns false'. Refute it at one input. -/
def fnVotesForAllWrong : ChangeSpec := { name := "fnVotesForAll", fn := fun _ => fun
  | [d] => { results := [.lit (.bool false)], args := [d] }
  | _ => none }
def FnVotesForAllWrongFalsely : Prop := fnVotesForAllRow.holds Try.pinned (OpenSpec.ofChange fnVotesForAllWrong)

/- THE SECOND FORM. 'bulk': how many values and letters a reading holds, each counted each time it is reached (what is shared counts as often as it is met; a slice's spare places count too). A statement '..UptoSaid' is the law's where the arguments, and the package variables that the reading takes, are together of bulk at most 1048576: NARROWER than '..Said'. Prove '..Said' where nothing that the law and all that it calls make is longer than what came in: it says more and counts as full. Else prove '..UptoSaid'. A law counts once. -/
mutual
def uptoBulk {H : Type} : DataW H → Nat
  | .lit (.string bytes) => bytes.length + 1
  | .lit _ => 1
  | .nil => 1
  | .ptr d => uptoBulk d + 1
  | .slice elems spare => uptoBulkAll elems + uptoBulkAll spare + 1
  | .agg parts => uptoBulkAll parts + 1
  | .iface _ d => uptoBulk d + 1
  | .map entries => uptoBulkEntries entries + 1
  | .held _ => 1
def uptoBulkAll {H : Type} : List (DataW H) → Nat
  | [] => 0
  | d :: r => uptoBulk d + uptoBulkAll r
def uptoBulkEntries {H : Type} : List (Lit × DataW H) → Nat
  | [] => 0
  | x :: r => uptoBulkEntry x + uptoBulkEntries r
def uptoBulkEntry {H : Type} : Lit × DataW H → Nat
  | (.string bytes, d) => bytes.length + uptoBulk d + 1
  | (_, d) => uptoBulk d + 1
 end
def uptoSmall : (H : Type) → List (DataW H) → Bool := fun _ ds => decide (uptoBulkAll ds ≤ 1048576)
def OpenSpec.upto (s : _root_.Go.ChangeSpec) : _root_.Go.OpenSpec := { _root_.Go.OpenSpec.ofChange s with cond := some uptoSmall }

/-- 'laws.FnValidSpans', WHERE WHAT IT READS IS OF BULK AT MOST 1048576: true; the input reads as it did. -/
def fnValidSpansUptoRow : OpenClaim := { program := "ytpllodjahanpkaa", sum := "339080ea5f15002223c78dd11954bb9ae6d000c122bb1508c814d3f2254041c0", func := "loop.example/satelliteclock/laws.FnValidSpans", spec := "fnValidSpans", apart := false, narrowed := true }
def FnValidSpansUptoSaid : Prop := fnValidSpansUptoRow.holds Try.pinned (OpenSpec.upto fnValidSpansSpec)

/-- 'laws.FnVotesFor', WHERE WHAT IT READS IS OF BULK AT MOST 1048576: true; the input reads as it did. -/
def fnVotesForUptoRow : OpenClaim := { program := "ytpllodjahanpkaa", sum := "339080ea5f15002223c78dd11954bb9ae6d000c122bb1508c814d3f2254041c0", func := "loop.example/satelliteclock/laws.FnVotesFor", spec := "fnVotesFor", apart := false, narrowed := true }
def FnVotesForUptoSaid : Prop := fnVotesForUptoRow.holds Try.pinned (OpenSpec.upto fnVotesForSpec)

/-- 'laws.FnVotesForEnds', WHERE WHAT IT READS IS OF BULK AT MOST 1048576: true; the input reads as it did. -/
def fnVotesForEndsUptoRow : OpenClaim := { program := "ytpllodjahanpkaa", sum := "339080ea5f15002223c78dd11954bb9ae6d000c122bb1508c814d3f2254041c0", func := "loop.example/satelliteclock/laws.FnVotesForEnds", spec := "fnVotesForEnds", unfollowed := true, recurses := true, apart := false, narrowed := true }
def FnVotesForEndsUptoSaid : Prop := fnVotesForEndsUptoRow.holds Try.pinned (OpenSpec.upto fnVotesForEndsSpec)

/-- 'laws.FnMostVotes', WHERE WHAT IT READS IS OF BULK AT MOST 1048576: true; the input reads as it did. -/
def fnMostVotesUptoRow : OpenClaim := { program := "ytpllodjahanpkaa", sum := "339080ea5f15002223c78dd11954bb9ae6d000c122bb1508c814d3f2254041c0", func := "loop.example/satelliteclock/laws.FnMostVotes", spec := "fnMostVotes", unfollowed := true, recurses := true, apart := false, narrowed := true }
def FnMostVotesUptoSaid : Prop := fnMostVotesUptoRow.holds Try.pinned (OpenSpec.upto fnMostVotesSpec)

/-- 'laws.FnAgreedSpan', WHERE WHAT IT READS IS OF BULK AT MOST 1048576: true; the input reads as it did. -/
def fnAgreedSpanUptoRow : OpenClaim := { program := "ytpllodjahanpkaa", sum := "339080ea5f15002223c78dd11954bb9ae6d000c122bb1508c814d3f2254041c0", func := "loop.example/satelliteclock/laws.FnAgreedSpan", spec := "fnAgreedSpan", unfollowed := true, recurses := true, apart := false, narrowed := true }
def FnAgreedSpanUptoSaid : Prop := fnAgreedSpanUptoRow.holds Try.pinned (OpenSpec.upto fnAgreedSpanSpec)

/-- 'laws.FnAgreedSpanOne', WHERE WHAT IT READS IS OF BULK AT MOST 1048576: true; the input reads as it did. -/
def fnAgreedSpanOneUptoRow : OpenClaim := { program := "ytpllodjahanpkaa", sum := "339080ea5f15002223c78dd11954bb9ae6d000c122bb1508c814d3f2254041c0", func := "loop.example/satelliteclock/laws.FnAgreedSpanOne", spec := "fnAgreedSpanOne", unfollowed := true, recurses := true, apart := false, narrowed := true }
def FnAgreedSpanOneUptoSaid : Prop := fnAgreedSpanOneUptoRow.holds Try.pinned (OpenSpec.upto fnAgreedSpanOneSpec)

/-- 'laws.FnAgreedSpanOrder', WHERE WHAT IT READS IS OF BULK AT MOST 1048576: true; the input reads as it did. -/
def fnAgreedSpanOrderUptoRow : OpenClaim := { program := "ytpllodjahanpkaa", sum := "339080ea5f15002223c78dd11954bb9ae6d000c122bb1508c814d3f2254041c0", func := "loop.example/satelliteclock/laws.FnAgreedSpanOrder", spec := "fnAgreedSpanOrder", unfollowed := true, recurses := true, apart := false, narrowed := true }
def FnAgreedSpanOrderUptoSaid : Prop := fnAgreedSpanOrderUptoRow.holds Try.pinned (OpenSpec.upto fnAgreedSpanOrderSpec)

/-- 'laws.FnFalseSources', WHERE WHAT IT READS IS OF BULK AT MOST 1048576: true; the input reads as it did. -/
def fnFalseSourcesUptoRow : OpenClaim := { program := "ytpllodjahanpkaa", sum := "339080ea5f15002223c78dd11954bb9ae6d000c122bb1508c814d3f2254041c0", func := "loop.example/satelliteclock/laws.FnFalseSources", spec := "fnFalseSources", unfollowed := true, recurses := true, apart := false, narrowed := true }
def FnFalseSourcesUptoSaid : Prop := fnFalseSourcesUptoRow.holds Try.pinned (OpenSpec.upto fnFalseSourcesSpec)

/-- 'laws.FnMiddleOf', WHERE WHAT IT READS IS OF BULK AT MOST 1048576: true; the input reads as it did. -/
def fnMiddleOfUptoRow : OpenClaim := { program := "ytpllodjahanpkaa", sum := "339080ea5f15002223c78dd11954bb9ae6d000c122bb1508c814d3f2254041c0", func := "loop.example/satelliteclock/laws.FnMiddleOf", spec := "fnMiddleOf", unfollowed := true, recurses := true, apart := false, narrowed := true }
def FnMiddleOfUptoSaid : Prop := fnMiddleOfUptoRow.holds Try.pinned (OpenSpec.upto fnMiddleOfSpec)

/-- 'laws.FnVotesForAll', WHERE WHAT IT READS IS OF BULK AT MOST 1048576: true; the input reads as it did. -/
def fnVotesForAllUptoRow : OpenClaim := { program := "ytpllodjahanpkaa", sum := "339080ea5f15002223c78dd11954bb9ae6d000c122bb1508c814d3f2254041c0", func := "loop.example/satelliteclock/laws.FnVotesForAll", spec := "fnVotesForAll", apart := false, narrowed := true }
def FnVotesForAllUptoSaid : Prop := fnVotesForAllUptoRow.holds Try.pinned (OpenSpec.upto fnVotesForAllSpec)

end Rows
end Go.Proofs.Ytpllodjahanpkaa
