/-
  No cell of these rows narrows 'for every input' (looked for: loops, veiled, ifaces, maps, wideKeys, modest, calm, conditions, laid).
  DERIVED. THE GIVEN ROWS OF THIS SEAT. 10 by the template 'for every input the law returns true; each argument reads behind the call as it read before'; 0 by the template 'total and deterministic' (their statements: YtmkeddcaeaaoaadTotals.lean).
  GIVEN WITH THE SEED: the statements are not yours to turn. If you find one false, say at which input.
  Laid BY PROGRAM, IN A SANDBOX (cutbox-rows.mjs): the forced cells as the released guide's own fill.sh prints them over the translation a91e7ebf59b2a511… (all of the seat's roots in one cut). By AI agents, Wed Nov 11 2026. No macro, syntax, notation, axiom, sorry.
-/
import Derived.Test.YtmkeddcaeaaoaadChecked
import GoSem.Claim
import GoSem.ClaimJoined
import GoSem.ClaimMapViews
import Derived.JoinedTies
import Derived.KernelRfl
namespace Go.Proofs.Ytmkeddcaeaaoaad
/- THE CELL 'sum', in the pinned program and in every row, IS THE sha256 OF THE DUMP (.gsa) THAT YtmkeddcaeaaoaadProg.lean LOADS. Nothing in Lean hashes anything: it is a label: what it is worth is what the hold of that sum in a sandbox is worth. -/
noncomputable def Try.pinned : Pinned := { name := "ytmkeddcaeaaoaad", sum := "a91e7ebf59b2a511510c6e9029bfb7be7b39f21874e72c0bceac4e3ffc8398d7", checked := Try.checked }
namespace Rows
def none {H : Type} : Left H := { results := [], args := [] }

/-- 'laws.FnSlopeOfLine': WHATEVER THE INPUT: true; the input reads as it did. -/
def fnSlopeOfLineSpec : ChangeSpec := { name := "fnSlopeOfLine", fn := fun _ => fun
  | [d] => { results := [.lit (.bool true)], args := [d] }
  | _ => none }
def fnSlopeOfLineRow : OpenClaim := { program := "ytmkeddcaeaaoaad", sum := "a91e7ebf59b2a511510c6e9029bfb7be7b39f21874e72c0bceac4e3ffc8398d7", func := "loop.example/satelliteclock/laws.FnSlopeOfLine", spec := "fnSlopeOfLine", apart := false }
def FnSlopeOfLineSaid : Prop := fnSlopeOfLineRow.holds Try.pinned (OpenSpec.ofChange fnSlopeOfLineSpec)

/-- ITS FALSE NEIGHBOUR: 'it returns false'. Refute it at one input. -/
def fnSlopeOfLineWrong : ChangeSpec := { name := "fnSlopeOfLine", fn := fun _ => fun
  | [d] => { results := [.lit (.bool false)], args := [d] }
  | _ => none }
def FnSlopeOfLineWrongFalsely : Prop := fnSlopeOfLineRow.holds Try.pinned (OpenSpec.ofChange fnSlopeOfLineWrong)

/-- 'laws.FnSlopeOfBack': WHATEVER THE INPUT: true; the input reads as it did. -/
def fnSlopeOfBackSpec : ChangeSpec := { name := "fnSlopeOfBack", fn := fun _ => fun
  | [d] => { results := [.lit (.bool true)], args := [d] }
  | _ => none }
def fnSlopeOfBackRow : OpenClaim := { program := "ytmkeddcaeaaoaad", sum := "a91e7ebf59b2a511510c6e9029bfb7be7b39f21874e72c0bceac4e3ffc8398d7", func := "loop.example/satelliteclock/laws.FnSlopeOfBack", spec := "fnSlopeOfBack", apart := false }
def FnSlopeOfBackSaid : Prop := fnSlopeOfBackRow.holds Try.pinned (OpenSpec.ofChange fnSlopeOfBackSpec)

/-- ITS FALSE NEIGHBOUR: 'it returns false'. Refute it at one input. -/
def fnSlopeOfBackWrong : ChangeSpec := { name := "fnSlopeOfBack", fn := fun _ => fun
  | [d] => { results := [.lit (.bool false)], args := [d] }
  | _ => none }
def FnSlopeOfBackWrongFalsely : Prop := fnSlopeOfBackRow.holds Try.pinned (OpenSpec.ofChange fnSlopeOfBackWrong)

/-- 'laws.FnMedianOffsetOne': WHATEVER THE INPUT: true; the input reads as it did. -/
def fnMedianOffsetOneSpec : ChangeSpec := { name := "fnMedianOffsetOne", fn := fun _ => fun
  | [d] => { results := [.lit (.bool true)], args := [d] }
  | _ => none }
def fnMedianOffsetOneRow : OpenClaim := { program := "ytmkeddcaeaaoaad", sum := "a91e7ebf59b2a511510c6e9029bfb7be7b39f21874e72c0bceac4e3ffc8398d7", func := "loop.example/satelliteclock/laws.FnMedianOffsetOne", spec := "fnMedianOffsetOne", recurses := true, apart := false }
def FnMedianOffsetOneSaid : Prop := fnMedianOffsetOneRow.holds Try.pinned (OpenSpec.ofChange fnMedianOffsetOneSpec)

/-- ITS FALSE NEIGHBOUR: 'it returns false'. Refute it at one input. -/
def fnMedianOffsetOneWrong : ChangeSpec := { name := "fnMedianOffsetOne", fn := fun _ => fun
  | [d] => { results := [.lit (.bool false)], args := [d] }
  | _ => none }
def FnMedianOffsetOneWrongFalsely : Prop := fnMedianOffsetOneRow.holds Try.pinned (OpenSpec.ofChange fnMedianOffsetOneWrong)

/-- 'laws.FnBestSampleJitter': WHATEVER THE INPUT: true; the input reads as it did. -/
def fnBestSampleJitterSpec : ChangeSpec := { name := "fnBestSampleJitter", fn := fun _ => fun
  | [d] => { results := [.lit (.bool true)], args := [d] }
  | _ => none }
def fnBestSampleJitterRow : OpenClaim := { program := "ytmkeddcaeaaoaad", sum := "a91e7ebf59b2a511510c6e9029bfb7be7b39f21874e72c0bceac4e3ffc8398d7", func := "loop.example/satelliteclock/laws.FnBestSampleJitter", spec := "fnBestSampleJitter", recurses := true, apart := false }
def FnBestSampleJitterSaid : Prop := fnBestSampleJitterRow.holds Try.pinned (OpenSpec.ofChange fnBestSampleJitterSpec)

/-- ITS FALSE NEIGHBOUR: 'it returns false'. Refute it at one input. -/
def fnBestSampleJitterWrong : ChangeSpec := { name := "fnBestSampleJitter", fn := fun _ => fun
  | [d] => { results := [.lit (.bool false)], args := [d] }
  | _ => none }
def FnBestSampleJitterWrongFalsely : Prop := fnBestSampleJitterRow.holds Try.pinned (OpenSpec.ofChange fnBestSampleJitterWrong)

/-- 'laws.FnWithoutSpikes': WHATEVER THE INPUT: true; the input reads as it did. -/
def fnWithoutSpikesSpec : ChangeSpec := { name := "fnWithoutSpikes", fn := fun _ => fun
  | [d] => { results := [.lit (.bool true)], args := [d] }
  | _ => none }
def fnWithoutSpikesRow : OpenClaim := { program := "ytmkeddcaeaaoaad", sum := "a91e7ebf59b2a511510c6e9029bfb7be7b39f21874e72c0bceac4e3ffc8398d7", func := "loop.example/satelliteclock/laws.FnWithoutSpikes", spec := "fnWithoutSpikes", recurses := true, apart := false }
def FnWithoutSpikesSaid : Prop := fnWithoutSpikesRow.holds Try.pinned (OpenSpec.ofChange fnWithoutSpikesSpec)

/-- ITS FALSE NEIGHBOUR: 'it returns false'. Refute it at one input. -/
def fnWithoutSpikesWrong : ChangeSpec := { name := "fnWithoutSpikes", fn := fun _ => fun
  | [d] => { results := [.lit (.bool false)], args := [d] }
  | _ => none }
def FnWithoutSpikesWrongFalsely : Prop := fnWithoutSpikesRow.holds Try.pinned (OpenSpec.ofChange fnWithoutSpikesWrong)

/-- 'laws.FnWithoutSpikesMore': WHATEVER THE INPUT: true; the input reads as it did. -/
def fnWithoutSpikesMoreSpec : ChangeSpec := { name := "fnWithoutSpikesMore", fn := fun _ => fun
  | [d] => { results := [.lit (.bool true)], args := [d] }
  | _ => none }
def fnWithoutSpikesMoreRow : OpenClaim := { program := "ytmkeddcaeaaoaad", sum := "a91e7ebf59b2a511510c6e9029bfb7be7b39f21874e72c0bceac4e3ffc8398d7", func := "loop.example/satelliteclock/laws.FnWithoutSpikesMore", spec := "fnWithoutSpikesMore", recurses := true, apart := false }
def FnWithoutSpikesMoreSaid : Prop := fnWithoutSpikesMoreRow.holds Try.pinned (OpenSpec.ofChange fnWithoutSpikesMoreSpec)

/-- ITS FALSE NEIGHBOUR: 'it returns false'. Refute it at one input. -/
def fnWithoutSpikesMoreWrong : ChangeSpec := { name := "fnWithoutSpikesMore", fn := fun _ => fun
  | [d] => { results := [.lit (.bool false)], args := [d] }
  | _ => none }
def FnWithoutSpikesMoreWrongFalsely : Prop := fnWithoutSpikesMoreRow.holds Try.pinned (OpenSpec.ofChange fnWithoutSpikesMoreWrong)

/-- 'laws.FnExactWithoutSpikes': WHATEVER THE INPUT: true; the input reads as it did. -/
def fnExactWithoutSpikesSpec : ChangeSpec := { name := "fnExactWithoutSpikes", fn := fun _ => fun
  | [d1, d2] => { results := [.lit (.bool true)], args := [d1, d2] }
  | _ => none }
def fnExactWithoutSpikesRow : OpenClaim := { program := "ytmkeddcaeaaoaad", sum := "a91e7ebf59b2a511510c6e9029bfb7be7b39f21874e72c0bceac4e3ffc8398d7", func := "loop.example/satelliteclock/laws.FnExactWithoutSpikes", spec := "fnExactWithoutSpikes", recurses := true, apart := false }
def FnExactWithoutSpikesSaid : Prop := fnExactWithoutSpikesRow.holds Try.pinned (OpenSpec.ofChange fnExactWithoutSpikesSpec)

/-- ITS FALSE NEIGHBOUR: 'it returns false'. Refute it at one input. -/
def fnExactWithoutSpikesWrong : ChangeSpec := { name := "fnExactWithoutSpikes", fn := fun _ => fun
  | [d1, d2] => { results := [.lit (.bool false)], args := [d1, d2] }
  | _ => none }
def FnExactWithoutSpikesWrongFalsely : Prop := fnExactWithoutSpikesRow.holds Try.pinned (OpenSpec.ofChange fnExactWithoutSpikesWrong)

/-- 'laws.FnAgreedSpanAdd': WHATEVER THE INPUT: true; the input reads as it did. -/
def fnAgreedSpanAddSpec : ChangeSpec := { name := "fnAgreedSpanAdd", fn := fun _ => fun
  | [d] => { results := [.lit (.bool true)], args := [d] }
  | _ => none }
def fnAgreedSpanAddRow : OpenClaim := { program := "ytmkeddcaeaaoaad", sum := "a91e7ebf59b2a511510c6e9029bfb7be7b39f21874e72c0bceac4e3ffc8398d7", func := "loop.example/satelliteclock/laws.FnAgreedSpanAdd", spec := "fnAgreedSpanAdd", unfollowed := true, recurses := true, apart := false }
def FnAgreedSpanAddSaid : Prop := fnAgreedSpanAddRow.holds Try.pinned (OpenSpec.ofChange fnAgreedSpanAddSpec)

/-- ITS FALSE NEIGHBOUR: 'it returns false'. Refute it at one input. -/
def fnAgreedSpanAddWrong : ChangeSpec := { name := "fnAgreedSpanAdd", fn := fun _ => fun
  | [d] => { results := [.lit (.bool false)], args := [d] }
  | _ => none }
def FnAgreedSpanAddWrongFalsely : Prop := fnAgreedSpanAddRow.holds Try.pinned (OpenSpec.ofChange fnAgreedSpanAddWrong)

/-- 'laws.FnFalseSources': WHATEVER THE INPUT: true; the input reads as it did. -/
def fnFalseSourcesSpec : ChangeSpec := { name := "fnFalseSources", fn := fun _ => fun
  | [d] => { results := [.lit (.bool true)], args := [d] }
  | _ => none }
def fnFalseSourcesRow : OpenClaim := { program := "ytmkeddcaeaaoaad", sum := "a91e7ebf59b2a511510c6e9029bfb7be7b39f21874e72c0bceac4e3ffc8398d7", func := "loop.example/satelliteclock/laws.FnFalseSources", spec := "fnFalseSources", unfollowed := true, recurses := true, apart := false }
def FnFalseSourcesSaid : Prop := fnFalseSourcesRow.holds Try.pinned (OpenSpec.ofChange fnFalseSourcesSpec)

/-- ITS FALSE NEIGHBOUR: 'it returns false'. Refute it at one input. -/
def fnFalseSourcesWrong : ChangeSpec := { name := "fnFalseSources", fn := fun _ => fun
  | [d] => { results := [.lit (.bool false)], args := [d] }
  | _ => none }
def FnFalseSourcesWrongFalsely : Prop := fnFalseSourcesRow.holds Try.pinned (OpenSpec.ofChange fnFalseSourcesWrong)

/-- 'laws.FnExactFalseSources': WHATEVER THE INPUT: true; the input reads as it did. -/
def fnExactFalseSourcesSpec : ChangeSpec := { name := "fnExactFalseSources", fn := fun _ => fun
  | [d] => { results := [.lit (.bool true)], args := [d] }
  | _ => none }
def fnExactFalseSourcesRow : OpenClaim := { program := "ytmkeddcaeaaoaad", sum := "a91e7ebf59b2a511510c6e9029bfb7be7b39f21874e72c0bceac4e3ffc8398d7", func := "loop.example/satelliteclock/laws.FnExactFalseSources", spec := "fnExactFalseSources", unfollowed := true, recurses := true, apart := false }
def FnExactFalseSourcesSaid : Prop := fnExactFalseSourcesRow.holds Try.pinned (OpenSpec.ofChange fnExactFalseSourcesSpec)

/-- ITS FALSE NEIGHBOUR: 'it returns false'. Refute it at one input. -/
def fnExactFalseSourcesWrong : ChangeSpec := { name := "fnExactFalseSources", fn := fun _ => fun
  | [d] => { results := [.lit (.bool false)], args := [d] }
  | _ => none }
def FnExactFalseSourcesWrongFalsely : Prop := fnExactFalseSourcesRow.holds Try.pinned (OpenSpec.ofChange fnExactFalseSourcesWrong)

/- THE SECOND FORM. 'bulk': how many values and letters a reading holds, each counted each time it is reached (what is shared counts as often as it is met; a slice's spare places count too). A statement '..UptoSaid' is the law's where the arguments, and the package variables that the reading takes, are together of bulk at most 1048576: NARROWER than '..Said'. Prove '..Said' where nothing that the law and all that it calls make is longer than what came in: it says more and counts as full. Else prove '..UptoSaid'. A law counts once. -/
mutual
def uptoBulk {H : Type} : DataW H → Nat
  | .lit (.string bytes) => bytes.length + 1
  | .lit _ => 1
  | .nil => 1
  | .ptr d => uptoBulk d + 1
  | .slice elems spare => uptoBulkAll elems + uptoBulkAll spare + 1
  | .agg parts => uptoBulkAll parts + 1
  | .iface _ d => uptoBulk d + 1
  | .map entries => uptoBulkEntries entries + 1
  | .held _ => 1
def uptoBulkAll {H : Type} : List (DataW H) → Nat
  | [] => 0
  | d :: r => uptoBulk d + uptoBulkAll r
def uptoBulkEntries {H : Type} : List (Lit × DataW H) → Nat
  | [] => 0
  | x :: r => uptoBulkEntry x + uptoBulkEntries r
def uptoBulkEntry {H : Type} : Lit × DataW H → Nat
  | (.string bytes, d) => bytes.length + uptoBulk d + 1
  | (_, d) => uptoBulk d + 1
 end
def uptoSmall : (H : Type) → List (DataW H) → Bool := fun _ ds => decide (uptoBulkAll ds ≤ 1048576)
def OpenSpec.upto (s : _root_.Go.ChangeSpec) : _root_.Go.OpenSpec := { _root_.Go.OpenSpec.ofChange s with cond := some uptoSmall }

/-- 'laws.FnSlopeOfLine', WHERE WHAT IT READS IS OF BULK AT MOST 1048576: true; the input reads as it did. -/
def fnSlopeOfLineUptoRow : OpenClaim := { program := "ytmkeddcaeaaoaad", sum := "a91e7ebf59b2a511510c6e9029bfb7be7b39f21874e72c0bceac4e3ffc8398d7", func := "loop.example/satelliteclock/laws.FnSlopeOfLine", spec := "fnSlopeOfLine", apart := false, narrowed := true }
def FnSlopeOfLineUptoSaid : Prop := fnSlopeOfLineUptoRow.holds Try.pinned (OpenSpec.upto fnSlopeOfLineSpec)

/-- 'laws.FnSlopeOfBack', WHERE WHAT IT READS IS OF BULK AT MOST 1048576: true; the input reads as it did. -/
def fnSlopeOfBackUptoRow : OpenClaim := { program := "ytmkeddcaeaaoaad", sum := "a91e7ebf59b2a511510c6e9029bfb7be7b39f21874e72c0bceac4e3ffc8398d7", func := "loop.example/satelliteclock/laws.FnSlopeOfBack", spec := "fnSlopeOfBack", apart := false, narrowed := true }
def FnSlopeOfBackUptoSaid : Prop := fnSlopeOfBackUptoRow.holds Try.pinned (OpenSpec.upto fnSlopeOfBackSpec)

/-- 'laws.FnMedianOffsetOne', WHERE WHAT IT READS IS OF BULK AT MOST 1048576: true; the input reads as it did. -/
def fnMedianOffsetOneUptoRow : OpenClaim := { program := "ytmkeddcaeaaoaad", sum := "a91e7ebf59b2a511510c6e9029bfb7be7b39f21874e72c0bceac4e3ffc8398d7", func := "loop.example/satelliteclock/laws.FnMedianOffsetOne", spec := "fnMedianOffsetOne", recurses := true, apart := false, narrowed := true }
def FnMedianOffsetOneUptoSaid : Prop := fnMedianOffsetOneUptoRow.holds Try.pinned (OpenSpec.upto fnMedianOffsetOneSpec)

/-- 'laws.FnBestSampleJitter', WHERE WHAT IT READS IS OF BULK AT MOST 1048576: true; the input reads as it did. -/
def fnBestSampleJitterUptoRow : OpenClaim := { program := "ytmkeddcaeaaoaad", sum := "a91e7ebf59b2a511510c6e9029bfb7be7b39f21874e72c0bceac4e3ffc8398d7", func := "loop.example/satelliteclock/laws.FnBestSampleJitter", spec := "fnBestSampleJitter", recurses := true, apart := false, narrowed := true }
def FnBestSampleJitterUptoSaid : Prop := fnBestSampleJitterUptoRow.holds Try.pinned (OpenSpec.upto fnBestSampleJitterSpec)

/-- 'laws.FnWithoutSpikes', WHERE WHAT IT READS IS OF BULK AT MOST 1048576: true; the input reads as it did. -/
def fnWithoutSpikesUptoRow : OpenClaim := { program := "ytmkeddcaeaaoaad", sum := "a91e7ebf59b2a511510c6e9029bfb7be7b39f21874e72c0bceac4e3ffc8398d7", func := "loop.example/satelliteclock/laws.FnWithoutSpikes", spec := "fnWithoutSpikes", recurses := true, apart := false, narrowed := true }
def FnWithoutSpikesUptoSaid : Prop := fnWithoutSpikesUptoRow.holds Try.pinned (OpenSpec.upto fnWithoutSpikesSpec)

/-- 'laws.FnWithoutSpikesMore', WHERE WHAT IT READS IS OF BULK AT MOST 1048576: true; the input reads as it did. -/
def fnWithoutSpikesMoreUptoRow : OpenClaim := { program := "ytmkeddcaeaaoaad", sum := "a91e7ebf59b2a511510c6e9029bfb7be7b39f21874e72c0bceac4e3ffc8398d7", func := "loop.example/satelliteclock/laws.FnWithoutSpikesMore", spec := "fnWithoutSpikesMore", recurses := true, apart := false, narrowed := true }
def FnWithoutSpikesMoreUptoSaid : Prop := fnWithoutSpikesMoreUptoRow.holds Try.pinned (OpenSpec.upto fnWithoutSpikesMoreSpec)

/-- 'laws.FnExactWithoutSpikes', WHERE WHAT IT READS IS OF BULK AT MOST 1048576: true; the input reads as it did. -/
def fnExactWithoutSpikesUptoRow : OpenClaim := { program := "ytmkeddcaeaaoaad", sum := "a91e7ebf59b2a511510c6e9029bfb7be7b39f21874e72c0bceac4e3ffc8398d7", func := "loop.example/satelliteclock/laws.FnExactWithoutSpikes", spec := "fnExactWithoutSpikes", recurses := true, apart := false, narrowed := true }
def FnExactWithoutSpikesUptoSaid : Prop := fnExactWithoutSpikesUptoRow.holds Try.pinned (OpenSpec.upto fnExactWithoutSpikesSpec)

/-- 'laws.FnAgreedSpanAdd', WHERE WHAT IT READS IS OF BULK AT MOST 1048576: true; the input reads as it did. -/
def fnAgreedSpanAddUptoRow : OpenClaim := { program := "ytmkeddcaeaaoaad", sum := "a91e7ebf59b2a511510c6e9029bfb7be7b39f21874e72c0bceac4e3ffc8398d7", func := "loop.example/satelliteclock/laws.FnAgreedSpanAdd", spec := "fnAgreedSpanAdd", unfollowed := true, recurses := true, apart := false, narrowed := true }
def FnAgreedSpanAddUptoSaid : Prop := fnAgreedSpanAddUptoRow.holds Try.pinned (OpenSpec.upto fnAgreedSpanAddSpec)

/-- 'laws.FnFalseSources', WHERE WHAT IT READS IS OF BULK AT MOST 1048576: true; the input reads as it did. -/
def fnFalseSourcesUptoRow : OpenClaim := { program := "ytmkeddcaeaaoaad", sum := "a91e7ebf59b2a511510c6e9029bfb7be7b39f21874e72c0bceac4e3ffc8398d7", func := "loop.example/satelliteclock/laws.FnFalseSources", spec := "fnFalseSources", unfollowed := true, recurses := true, apart := false, narrowed := true }
def FnFalseSourcesUptoSaid : Prop := fnFalseSourcesUptoRow.holds Try.pinned (OpenSpec.upto fnFalseSourcesSpec)

/-- 'laws.FnExactFalseSources', WHERE WHAT IT READS IS OF BULK AT MOST 1048576: true; the input reads as it did. -/
def fnExactFalseSourcesUptoRow : OpenClaim := { program := "ytmkeddcaeaaoaad", sum := "a91e7ebf59b2a511510c6e9029bfb7be7b39f21874e72c0bceac4e3ffc8398d7", func := "loop.example/satelliteclock/laws.FnExactFalseSources", spec := "fnExactFalseSources", unfollowed := true, recurses := true, apart := false, narrowed := true }
def FnExactFalseSourcesUptoSaid : Prop := fnExactFalseSourcesUptoRow.holds Try.pinned (OpenSpec.upto fnExactFalseSourcesSpec)

end Rows
end Go.Proofs.Ytmkeddcaeaaoaad
