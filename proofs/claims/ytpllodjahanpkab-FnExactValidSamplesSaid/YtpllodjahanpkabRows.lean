/-
  No cell of these rows narrows 'for every input' (looked for: loops, veiled, ifaces, maps, wideKeys, modest, calm, conditions, laid).
  DERIVED. THE GIVEN ROWS OF THIS SEAT. 10 by the template 'for every input the law returns true; each argument reads behind the call as it read before'; 0 by the template 'total and deterministic' (their statements: YtpllodjahanpkabTotals.lean).
  GIVEN WITH THE SEED: the statements are not yours to turn. If you find one false, say at which input.
  Laid BY PROGRAM, IN A SANDBOX (cutbox-rows.mjs): the forced cells as the released guide's own fill.sh prints them over the translation 4a4d80dea2526288… (all of the seat's roots in one cut). By AI agents, Wed Nov 11 2026. No macro, syntax, notation, axiom, sorry.
-/
import Derived.Test.YtpllodjahanpkabChecked
import GoSem.Claim
import GoSem.ClaimJoined
import GoSem.ClaimMapViews
import Derived.JoinedTies
import Derived.KernelRfl
namespace Go.Proofs.Ytpllodjahanpkab
/- THE CELL 'sum', in the pinned program and in every row, IS THE sha256 OF THE DUMP (.gsa) THAT YtpllodjahanpkabProg.lean LOADS. Nothing in Lean hashes anything: it is a label: what it is worth is what the hold of that sum in a sandbox is worth. -/
noncomputable def Try.pinned : Pinned := { name := "ytpllodjahanpkab", sum := "4a4d80dea25262885e6a4c55fb9ac5b04f4d51520270343de03817dfe61a805a", checked := Try.checked }
namespace Rows
def none {H : Type} : Left H := { results := [], args := [] }

/-- 'laws.FnMostVotesAdd': WHATEVER THE INPUT: true; the input reads as it did. -/
def fnMostVotesAddSpec : ChangeSpec := { name := "fnMostVotesAdd", fn := fun _ => fun
  | [d] => { results := [.lit (.bool true)], args := [d] }
  | _ => none }
def fnMostVotesAddRow : OpenClaim := { program := "ytpllodjahanpkab", sum := "4a4d80dea25262885e6a4c55fb9ac5b04f4d51520270343de03817dfe61a805a", func := "loop.example/satelliteclock/laws.FnMostVotesAdd", spec := "fnMostVotesAdd", unfollowed := true, recurses := true, apart := false }
def FnMostVotesAddSaid : Prop := fnMostVotesAddRow.holds Try.pinned (OpenSpec.ofChange fnMostVotesAddSpec)

/-- ITS FALSE NEIGHBOUR: 'it returns false'. Refute it at one input. -/
def fnMostVotesAddWrong : ChangeSpec := { name := "fnMostVotesAdd", fn := fun _ => fun
  | [d] => { results := [.lit (.bool false)], args := [d] }
  | _ => none }
def FnMostVotesAddWrongFalsely : Prop := fnMostVotesAddRow.holds Try.pinned (OpenSpec.ofChange fnMostVotesAddWrong)

/-- 'laws.FnMiddleOfShift': WHATEVER THE INPUT: true; the input reads as it did. -/
def fnMiddleOfShiftSpec : ChangeSpec := { name := "fnMiddleOfShift", fn := fun _ => fun
  | [d] => { results := [.lit (.bool true)], args := [d] }
  | _ => none }
def fnMiddleOfShiftRow : OpenClaim := { program := "ytpllodjahanpkab", sum := "4a4d80dea25262885e6a4c55fb9ac5b04f4d51520270343de03817dfe61a805a", func := "loop.example/satelliteclock/laws.FnMiddleOfShift", spec := "fnMiddleOfShift", unfollowed := true, recurses := true, apart := false }
def FnMiddleOfShiftSaid : Prop := fnMiddleOfShiftRow.holds Try.pinned (OpenSpec.ofChange fnMiddleOfShiftSpec)

/-- ITS FALSE NEIGHBOUR: 'it returns false'. Refute it at one input. -/
def fnMiddleOfShiftWrong : ChangeSpec := { name := "fnMiddleOfShift", fn := fun _ => fun
  | [d] => { results := [.lit (.bool false)], args := [d] }
  | _ => none }
def FnMiddleOfShiftWrongFalsely : Prop := fnMiddleOfShiftRow.holds Try.pinned (OpenSpec.ofChange fnMiddleOfShiftWrong)

/-- 'laws.FnAgreedSpanAdd': WHATEVER THE INPUT: true; the input reads as it did. -/
def fnAgreedSpanAddSpec : ChangeSpec := { name := "fnAgreedSpanAdd", fn := fun _ => fun
  | [d] => { results := [.lit (.bool true)], args := [d] }
  | _ => none }
def fnAgreedSpanAddRow : OpenClaim := { program := "ytpllodjahanpkab", sum := "4a4d80dea25262885e6a4c55fb9ac5b04f4d51520270343de03817dfe61a805a", func := "loop.example/satelliteclock/laws.FnAgreedSpanAdd", spec := "fnAgreedSpanAdd", unfollowed := true, recurses := true, apart := false }
def FnAgreedSpanAddSaid : Prop := fnAgreedSpanAddRow.holds Try.pinned (OpenSpec.ofChange fnAgreedSpanAddSpec)

/-- ITS FALSE NEIGHBOUR: 'it returns false'. Refute it at one input. -/
def fnAgreedSpanAddWrong : ChangeSpec := { name := "fnAgreedSpanAdd", fn := fun _ => fun
  | [d] => { results := [.lit (.bool false)], args := [d] }
  | _ => none }
def FnAgreedSpanAddWrongFalsely : Prop := fnAgreedSpanAddRow.holds Try.pinned (OpenSpec.ofChange fnAgreedSpanAddWrong)

/-- 'laws.FnExactValidSpans': WHATEVER THE INPUT: true; the input reads as it did. -/
def fnExactValidSpansSpec : ChangeSpec := { name := "fnExactValidSpans", fn := fun _ => fun
  | [d] => { results := [.lit (.bool true)], args := [d] }
  | _ => none }
def fnExactValidSpansRow : OpenClaim := { program := "ytpllodjahanpkab", sum := "4a4d80dea25262885e6a4c55fb9ac5b04f4d51520270343de03817dfe61a805a", func := "loop.example/satelliteclock/laws.FnExactValidSpans", spec := "fnExactValidSpans", apart := false }
def FnExactValidSpansSaid : Prop := fnExactValidSpansRow.holds Try.pinned (OpenSpec.ofChange fnExactValidSpansSpec)

/-- ITS FALSE NEIGHBOUR: 'it returns false'. Refute it at one input. -/
def fnExactValidSpansWrong : ChangeSpec := { name := "fnExactValidSpans", fn := fun _ => fun
  | [d] => { results := [.lit (.bool false)], args := [d] }
  | _ => none }
def FnExactValidSpansWrongFalsely : Prop := fnExactValidSpansRow.holds Try.pinned (OpenSpec.ofChange fnExactValidSpansWrong)

/-- 'laws.FnExactVotesFor': WHATEVER THE INPUT: true; the input reads as it did. -/
def fnExactVotesForSpec : ChangeSpec := { name := "fnExactVotesFor", fn := fun _ => fun
  | [d1, d2] => { results := [.lit (.bool true)], args := [d1, d2] }
  | _ => none }
def fnExactVotesForRow : OpenClaim := { program := "ytpllodjahanpkab", sum := "4a4d80dea25262885e6a4c55fb9ac5b04f4d51520270343de03817dfe61a805a", func := "loop.example/satelliteclock/laws.FnExactVotesFor", spec := "fnExactVotesFor", apart := false }
def FnExactVotesForSaid : Prop := fnExactVotesForRow.holds Try.pinned (OpenSpec.ofChange fnExactVotesForSpec)

/-- ITS FALSE NEIGHBOUR: 'it returns false'. Refute it at one input. -/
def fnExactVotesForWrong : ChangeSpec := { name := "fnExactVotesFor", fn := fun _ => fun
  | [d1, d2] => { results := [.lit (.bool false)], args := [d1, d2] }
  | _ => none }
def FnExactVotesForWrongFalsely : Prop := fnExactVotesForRow.holds Try.pinned (OpenSpec.ofChange fnExactVotesForWrong)

/-- 'laws.FnExactMostVotes': WHATEVER THE INPUT: true; the input reads as it did. -/
def fnExactMostVotesSpec : ChangeSpec := { name := "fnExactMostVotes", fn := fun _ => fun
  | [d] => { results := [.lit (.bool true)], args := [d] }
  | _ => none }
def fnExactMostVotesRow : OpenClaim := { program := "ytpllodjahanpkab", sum := "4a4d80dea25262885e6a4c55fb9ac5b04f4d51520270343de03817dfe61a805a", func := "loop.example/satelliteclock/laws.FnExactMostVotes", spec := "fnExactMostVotes", unfollowed := true, recurses := true, apart := false }
def FnExactMostVotesSaid : Prop := fnExactMostVotesRow.holds Try.pinned (OpenSpec.ofChange fnExactMostVotesSpec)

/-- ITS FALSE NEIGHBOUR: 'it returns false'. Refute it at one input. -/
def fnExactMostVotesWrong : ChangeSpec := { name := "fnExactMostVotes", fn := fun _ => fun
  | [d] => { results := [.lit (.bool false)], args := [d] }
  | _ => none }
def FnExactMostVotesWrongFalsely : Prop := fnExactMostVotesRow.holds Try.pinned (OpenSpec.ofChange fnExactMostVotesWrong)

/-- 'laws.FnExactAgreedSpan': WHATEVER THE INPUT: true; the input reads as it did. -/
def fnExactAgreedSpanSpec : ChangeSpec := { name := "fnExactAgreedSpan", fn := fun _ => fun
  | [d] => { results := [.lit (.bool true)], args := [d] }
  | _ => none }
def fnExactAgreedSpanRow : OpenClaim := { program := "ytpllodjahanpkab", sum := "4a4d80dea25262885e6a4c55fb9ac5b04f4d51520270343de03817dfe61a805a", func := "loop.example/satelliteclock/laws.FnExactAgreedSpan", spec := "fnExactAgreedSpan", unfollowed := true, recurses := true, apart := false }
def FnExactAgreedSpanSaid : Prop := fnExactAgreedSpanRow.holds Try.pinned (OpenSpec.ofChange fnExactAgreedSpanSpec)

/-- ITS FALSE NEIGHBOUR: 'it returns false'. Refute it at one input. -/
def fnExactAgreedSpanWrong : ChangeSpec := { name := "fnExactAgreedSpan", fn := fun _ => fun
  | [d] => { results := [.lit (.bool false)], args := [d] }
  | _ => none }
def FnExactAgreedSpanWrongFalsely : Prop := fnExactAgreedSpanRow.holds Try.pinned (OpenSpec.ofChange fnExactAgreedSpanWrong)

/-- 'laws.FnExactFalseSources': WHATEVER THE INPUT: true; the input reads as it did. -/
def fnExactFalseSourcesSpec : ChangeSpec := { name := "fnExactFalseSources", fn := fun _ => fun
  | [d] => { results := [.lit (.bool true)], args := [d] }
  | _ => none }
def fnExactFalseSourcesRow : OpenClaim := { program := "ytpllodjahanpkab", sum := "4a4d80dea25262885e6a4c55fb9ac5b04f4d51520270343de03817dfe61a805a", func := "loop.example/satelliteclock/laws.FnExactFalseSources", spec := "fnExactFalseSources", unfollowed := true, recurses := true, apart := false }
def FnExactFalseSourcesSaid : Prop := fnExactFalseSourcesRow.holds Try.pinned (OpenSpec.ofChange fnExactFalseSourcesSpec)

/-- ITS FALSE NEIGHBOUR: 'it returns false'. Refute it at one input. -/
def fnExactFalseSourcesWrong : ChangeSpec := { name := "fnExactFalseSources", fn := fun _ => fun
  | [d] => { results := [.lit (.bool false)], args := [d] }
  | _ => none }
def FnExactFalseSourcesWrongFalsely : Prop := fnExactFalseSourcesRow.holds Try.pinned (OpenSpec.ofChange fnExactFalseSourcesWrong)

/-- 'laws.FnExactMiddleOf': WHATEVER THE INPUT: true; the input reads as it did. -/
def fnExactMiddleOfSpec : ChangeSpec := { name := "fnExactMiddleOf", fn := fun _ => fun
  | [d] => { results := [.lit (.bool true)], args := [d] }
  | _ => none }
def fnExactMiddleOfRow : OpenClaim := { program := "ytpllodjahanpkab", sum := "4a4d80dea25262885e6a4c55fb9ac5b04f4d51520270343de03817dfe61a805a", func := "loop.example/satelliteclock/laws.FnExactMiddleOf", spec := "fnExactMiddleOf", unfollowed := true, recurses := true, apart := false }
def FnExactMiddleOfSaid : Prop := fnExactMiddleOfRow.holds Try.pinned (OpenSpec.ofChange fnExactMiddleOfSpec)

/-- ITS FALSE NEIGHBOUR: 'it returns false'. Refute it at one input. -/
def fnExactMiddleOfWrong : ChangeSpec := { name := "fnExactMiddleOf", fn := fun _ => fun
  | [d] => { results := [.lit (.bool false)], args := [d] }
  | _ => none }
def FnExactMiddleOfWrongFalsely : Prop := fnExactMiddleOfRow.holds Try.pinned (OpenSpec.ofChange fnExactMiddleOfWrong)

/-- 'laws.FnExactValidSamples': WHATEVER THE INPUT: true; the input reads as it did. -/
def fnExactValidSamplesSpec : ChangeSpec := { name := "fnExactValidSamples", fn := fun _ => fun
  | [d] => { results := [.lit (.bool true)], args := [d] }
  | _ => none }
def fnExactValidSamplesRow : OpenClaim := { program := "ytpllodjahanpkab", sum := "4a4d80dea25262885e6a4c55fb9ac5b04f4d51520270343de03817dfe61a805a", func := "loop.example/satelliteclock/laws.FnExactValidSamples", spec := "fnExactValidSamples", apart := false }
def FnExactValidSamplesSaid : Prop := fnExactValidSamplesRow.holds Try.pinned (OpenSpec.ofChange fnExactValidSamplesSpec)

/-- ITS FALSE NEIGHBOUR: 'it returns false'. Refute it at one input. -/
def fnExactValidSamplesWrong : ChangeSpec := { name := "fnExactValidSamples", fn := fun _ => fun
  | [d] => { results := [.lit (.bool false)], args := [d] }
  | _ => none }
def FnExactValidSamplesWrongFalsely : Prop := fnExactValidSamplesRow.holds Try.pinned (OpenSpec.ofChange fnExactValidSamplesWrong)

/- THE SECOND FORM. 'bulk': how many values and letters a reading holds, each counted each time it is reached (what is shared counts as often as it is met; a slice's spare places count too). A statement '..UptoSaid' is the law's where the arguments, and the package variables that the reading takes, are together of bulk at most 1048576: NARROWER than '..Said'. Prove '..Said' where nothing that the law and all that it calls make is longer than what came in: it says more and counts as full. Else prove '..UptoSaid'. A law counts once. -/
mutual
def uptoBulk {H : Type} : DataW H → Nat
  | .lit (.string bytes) => bytes.length + 1
  | .lit _ => 1
  | .nil => 1
  | .ptr d => uptoBulk d + 1
  | .slice elems spare => uptoBulkAll elems + uptoBulkAll spare + 1
  | .agg parts => uptoBulkAll parts + 1
  | .iface _ d => uptoBulk d + 1
  | .map entries => uptoBulkEntries entries + 1
  | .held _ => 1
def uptoBulkAll {H : Type} : List (DataW H) → Nat
  | [] => 0
  | d :: r => uptoBulk d + uptoBulkAll r
def uptoBulkEntries {H : Type} : List (Lit × DataW H) → Nat
  | [] => 0
  | x :: r => uptoBulkEntry x + uptoBulkEntries r
def uptoBulkEntry {H : Type} : Lit × DataW H → Nat
  | (.string bytes, d) => bytes.length + uptoBulk d + 1
  | (_, d) => uptoBulk d + 1
 end
def uptoSmall : (H : Type) → List (DataW H) → Bool := fun _ ds => decide (uptoBulkAll ds ≤ 1048576)
def OpenSpec.upto (s : _root_.Go.ChangeSpec) : _root_.Go.OpenSpec := { _root_.Go.OpenSpec.ofChange s with cond := some uptoSmall }

/-- 'laws.FnMostVotesAdd', WHERE WHAT IT READS IS OF BULK AT MOST 1048576: true; the input reads as it did. -/
def fnMostVotesAddUptoRow : OpenClaim := { program := "ytpllodjahanpkab", sum := "4a4d80dea25262885e6a4c55fb9ac5b04f4d51520270343de03817dfe61a805a", func := "loop.example/satelliteclock/laws.FnMostVotesAdd", spec := "fnMostVotesAdd", unfollowed := true, recurses := true, apart := false, narrowed := true }
def FnMostVotesAddUptoSaid : Prop := fnMostVotesAddUptoRow.holds Try.pinned (OpenSpec.upto fnMostVotesAddSpec)

/-- 'laws.FnMiddleOfShift', WHERE WHAT IT READS IS OF BULK AT MOST 1048576: true; the input reads as it did. -/
def fnMiddleOfShiftUptoRow : OpenClaim := { program := "ytpllodjahanpkab", sum := "4a4d80dea25262885e6a4c55fb9ac5b04f4d51520270343de03817dfe61a805a", func := "loop.example/satelliteclock/laws.FnMiddleOfShift", spec := "fnMiddleOfShift", unfollowed := true, recurses := true, apart := false, narrowed := true }
def FnMiddleOfShiftUptoSaid : Prop := fnMiddleOfShiftUptoRow.holds Try.pinned (OpenSpec.upto fnMiddleOfShiftSpec)

/-- 'laws.FnAgreedSpanAdd', WHERE WHAT IT READS IS OF BULK AT MOST 1048576: true; the input reads as it did. -/
def fnAgreedSpanAddUptoRow : OpenClaim := { program := "ytpllodjahanpkab", sum := "4a4d80dea25262885e6a4c55fb9ac5b04f4d51520270343de03817dfe61a805a", func := "loop.example/satelliteclock/laws.FnAgreedSpanAdd", spec := "fnAgreedSpanAdd", unfollowed := true, recurses := true, apart := false, narrowed := true }
def FnAgreedSpanAddUptoSaid : Prop := fnAgreedSpanAddUptoRow.holds Try.pinned (OpenSpec.upto fnAgreedSpanAddSpec)

/-- 'laws.FnExactValidSpans', WHERE WHAT IT READS IS OF BULK AT MOST 1048576: true; the input reads as it did. -/
def fnExactValidSpansUptoRow : OpenClaim := { program := "ytpllodjahanpkab", sum := "4a4d80dea25262885e6a4c55fb9ac5b04f4d51520270343de03817dfe61a805a", func := "loop.example/satelliteclock/laws.FnExactValidSpans", spec := "fnExactValidSpans", apart := false, narrowed := true }
def FnExactValidSpansUptoSaid : Prop := fnExactValidSpansUptoRow.holds Try.pinned (OpenSpec.upto fnExactValidSpansSpec)

/-- 'laws.FnExactVotesFor', WHERE WHAT IT READS IS OF BULK AT MOST 1048576: true; the input reads as it did. -/
def fnExactVotesForUptoRow : OpenClaim := { program := "ytpllodjahanpkab", sum := "4a4d80dea25262885e6a4c55fb9ac5b04f4d51520270343de03817dfe61a805a", func := "loop.example/satelliteclock/laws.FnExactVotesFor", spec := "fnExactVotesFor", apart := false, narrowed := true }
def FnExactVotesForUptoSaid : Prop := fnExactVotesForUptoRow.holds Try.pinned (OpenSpec.upto fnExactVotesForSpec)

/-- 'laws.FnExactMostVotes', WHERE WHAT IT READS IS OF BULK AT MOST 1048576: true; the input reads as it did. -/
def fnExactMostVotesUptoRow : OpenClaim := { program := "ytpllodjahanpkab", sum := "4a4d80dea25262885e6a4c55fb9ac5b04f4d51520270343de03817dfe61a805a", func := "loop.example/satelliteclock/laws.FnExactMostVotes", spec := "fnExactMostVotes", unfollowed := true, recurses := true, apart := false, narrowed := true }
def FnExactMostVotesUptoSaid : Prop := fnExactMostVotesUptoRow.holds Try.pinned (OpenSpec.upto fnExactMostVotesSpec)

/-- 'laws.FnExactAgreedSpan', WHERE WHAT IT READS IS OF BULK AT MOST 1048576: true; the input reads as it did. -/
def fnExactAgreedSpanUptoRow : OpenClaim := { program := "ytpllodjahanpkab", sum := "4a4d80dea25262885e6a4c55fb9ac5b04f4d51520270343de03817dfe61a805a", func := "loop.example/satelliteclock/laws.FnExactAgreedSpan", spec := "fnExactAgreedSpan", unfollowed := true, recurses := true, apart := false, narrowed := true }
def FnExactAgreedSpanUptoSaid : Prop := fnExactAgreedSpanUptoRow.holds Try.pinned (OpenSpec.upto fnExactAgreedSpanSpec)

/-- 'laws.FnExactFalseSources', WHERE WHAT IT READS IS OF BULK AT MOST 1048576: true; the input reads as it did. -/
def fnExactFalseSourcesUptoRow : OpenClaim := { program := "ytpllodjahanpkab", sum := "4a4d80dea25262885e6a4c55fb9ac5b04f4d51520270343de03817dfe61a805a", func := "loop.example/satelliteclock/laws.FnExactFalseSources", spec := "fnExactFalseSources", unfollowed := true, recurses := true, apart := false, narrowed := true }
def FnExactFalseSourcesUptoSaid : Prop := fnExactFalseSourcesUptoRow.holds Try.pinned (OpenSpec.upto fnExactFalseSourcesSpec)

/-- 'laws.FnExactMiddleOf', WHERE WHAT IT READS IS OF BULK AT MOST 1048576: true; the input reads as it did. -/
def fnExactMiddleOfUptoRow : OpenClaim := { program := "ytpllodjahanpkab", sum := "4a4d80dea25262885e6a4c55fb9ac5b04f4d51520270343de03817dfe61a805a", func := "loop.example/satelliteclock/laws.FnExactMiddleOf", spec := "fnExactMiddleOf", unfollowed := true, recurses := true, apart := false, narrowed := true }
def FnExactMiddleOfUptoSaid : Prop := fnExactMiddleOfUptoRow.holds Try.pinned (OpenSpec.upto fnExactMiddleOfSpec)

/-- 'laws.FnExactValidSamples', WHERE WHAT IT READS IS OF BULK AT MOST 1048576: true; the input reads as it did. -/
def fnExactValidSamplesUptoRow : OpenClaim := { program := "ytpllodjahanpkab", sum := "4a4d80dea25262885e6a4c55fb9ac5b04f4d51520270343de03817dfe61a805a", func := "loop.example/satelliteclock/laws.FnExactValidSamples", spec := "fnExactValidSamples", apart := false, narrowed := true }
def FnExactValidSamplesUptoSaid : Prop := fnExactValidSamplesUptoRow.holds Try.pinned (OpenSpec.upto fnExactValidSamplesSpec)

end Rows
end Go.Proofs.Ytpllodjahanpkab
