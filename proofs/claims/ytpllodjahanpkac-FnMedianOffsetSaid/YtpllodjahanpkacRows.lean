/-
  No cell of these rows narrows 'for every input' (looked for: loops, veiled, ifaces, maps, wideKeys, modest, calm, conditions, laid).
  DERIVED. THE GIVEN ROWS OF THIS SEAT. 10 by the template 'for every input the law returns true; each argument reads behind the call as it read before'; 0 by the template 'total and deterministic' (their statements: YtpllodjahanpkacTotals.lean).
  GIVEN WITH THE SEED: the statements are not yours to turn. If you find one false, say at which input.
  Laid BY PROGRAM, IN A SANDBOX (cutbox-rows.mjs): the forced cells as the released guide's own fill.sh prints them over the translation dad88386d9bb1115… (all of the seat's roots in one cut). By AI agents, Wed Nov 11 2026. No macro, syntax, notation, axiom, sorry.
-/
import Derived.Test.YtpllodjahanpkacChecked
import GoSem.Claim
import GoSem.ClaimJoined
import GoSem.ClaimMapViews
import Derived.JoinedTies
import Derived.KernelRfl
namespace Go.Proofs.Ytpllodjahanpkac
/- THE CELL 'sum', in the pinned program and in every row, IS THE sha256 OF THE DUMP (.gsa) THAT YtpllodjahanpkacProg.lean LOADS. Nothing in Lean hashes anything: it is a label: what it is worth is what the hold of that sum in a sandbox is worth. -/
noncomputable def Try.pinned : Pinned := { name := "ytpllodjahanpkac", sum := "dad88386d9bb11153b14aa703469fba04af80af15de833d64a075c06efa98c35", checked := Try.checked }
namespace Rows
def none {H : Type} : Left H := { results := [], args := [] }

/-- 'laws.FnValidSamples': WHATEVER THE INPUT: true; the input reads as it did. -/
def fnValidSamplesSpec : ChangeSpec := { name := "fnValidSamples", fn := fun _ => fun
  | [d] => { results := [.lit (.bool true)], args := [d] }
  | _ => none }
def fnValidSamplesRow : OpenClaim := { program := "ytpllodjahanpkac", sum := "dad88386d9bb11153b14aa703469fba04af80af15de833d64a075c06efa98c35", func := "loop.example/satelliteclock/laws.FnValidSamples", spec := "fnValidSamples", apart := false }
def FnValidSamplesSaid : Prop := fnValidSamplesRow.holds Try.pinned (OpenSpec.ofChange fnValidSamplesSpec)

/-- ITS FALSE NEIGHBOUR: 'it returns false'. Refute it at one input. -/
def fnValidSamplesWrong : ChangeSpec := { name := "fnValidSamples", fn := fun _ => fun
  | [d] => { results := [.lit (.bool false)], args := [d] }
  | _ => none }
def FnValidSamplesWrongFalsely : Prop := fnValidSamplesRow.holds Try.pinned (OpenSpec.ofChange fnValidSamplesWrong)

/-- 'laws.FnMedianOffset': WHATEVER THE INPUT: true; the input reads as it did. -/
def fnMedianOffsetSpec : ChangeSpec := { name := "fnMedianOffset", fn := fun _ => fun
  | [d] => { results := [.lit (.bool true)], args := [d] }
  | _ => none }
def fnMedianOffsetRow : OpenClaim := { program := "ytpllodjahanpkac", sum := "dad88386d9bb11153b14aa703469fba04af80af15de833d64a075c06efa98c35", func := "loop.example/satelliteclock/laws.FnMedianOffset", spec := "fnMedianOffset", recurses := true, apart := false }
def FnMedianOffsetSaid : Prop := fnMedianOffsetRow.holds Try.pinned (OpenSpec.ofChange fnMedianOffsetSpec)

/-- ITS FALSE NEIGHBOUR: 'it returns false'. Refute it at one input. -/
def fnMedianOffsetWrong : ChangeSpec := { name := "fnMedianOffset", fn := fun _ => fun
  | [d] => { results := [.lit (.bool false)], args := [d] }
  | _ => none }
def FnMedianOffsetWrongFalsely : Prop := fnMedianOffsetRow.holds Try.pinned (OpenSpec.ofChange fnMedianOffsetWrong)

/-- 'laws.FnMedianOffsetOne': WHATEVER THE INPUT: true; the input reads as it did. -/
def fnMedianOffsetOneSpec : ChangeSpec := { name := "fnMedianOffsetOne", fn := fun _ => fun
  | [d] => { results := [.lit (.bool true)], args := [d] }
  | _ => none }
def fnMedianOffsetOneRow : OpenClaim := { program := "ytpllodjahanpkac", sum := "dad88386d9bb11153b14aa703469fba04af80af15de833d64a075c06efa98c35", func := "loop.example/satelliteclock/laws.FnMedianOffsetOne", spec := "fnMedianOffsetOne", recurses := true, apart := false }
def FnMedianOffsetOneSaid : Prop := fnMedianOffsetOneRow.holds Try.pinned (OpenSpec.ofChange fnMedianOffsetOneSpec)

/-- ITS FALSE NEIGHBOUR: 'it returns false'. Refute it at one input. -/
def fnMedianOffsetOneWrong : ChangeSpec := { name := "fnMedianOffsetOne", fn := fun _ => fun
  | [d] => { results := [.lit (.bool false)], args := [d] }
  | _ => none }
def FnMedianOffsetOneWrongFalsely : Prop := fnMedianOffsetOneRow.holds Try.pinned (OpenSpec.ofChange fnMedianOffsetOneWrong)

/-- 'laws.FnBestSample': WHATEVER THE INPUT: true; the input reads as it did. -/
def fnBestSampleSpec : ChangeSpec := { name := "fnBestSample", fn := fun _ => fun
  | [d] => { results := [.lit (.bool true)], args := [d] }
  | _ => none }
def fnBestSampleRow : OpenClaim := { program := "ytpllodjahanpkac", sum := "dad88386d9bb11153b14aa703469fba04af80af15de833d64a075c06efa98c35", func := "loop.example/satelliteclock/laws.FnBestSample", spec := "fnBestSample", apart := false }
def FnBestSampleSaid : Prop := fnBestSampleRow.holds Try.pinned (OpenSpec.ofChange fnBestSampleSpec)

/-- ITS FALSE NEIGHBOUR: 'it returns false'. Refute it at one input. -/
def fnBestSampleWrong : ChangeSpec := { name := "fnBestSample", fn := fun _ => fun
  | [d] => { results := [.lit (.bool false)], args := [d] }
  | _ => none }
def FnBestSampleWrongFalsely : Prop := fnBestSampleRow.holds Try.pinned (OpenSpec.ofChange fnBestSampleWrong)

/-- 'laws.FnBestSampleAdd': WHATEVER THE INPUT: true; the input reads as it did. -/
def fnBestSampleAddSpec : ChangeSpec := { name := "fnBestSampleAdd", fn := fun _ => fun
  | [d] => { results := [.lit (.bool true)], args := [d] }
  | _ => none }
def fnBestSampleAddRow : OpenClaim := { program := "ytpllodjahanpkac", sum := "dad88386d9bb11153b14aa703469fba04af80af15de833d64a075c06efa98c35", func := "loop.example/satelliteclock/laws.FnBestSampleAdd", spec := "fnBestSampleAdd", apart := false }
def FnBestSampleAddSaid : Prop := fnBestSampleAddRow.holds Try.pinned (OpenSpec.ofChange fnBestSampleAddSpec)

/-- ITS FALSE NEIGHBOUR: 'it returns false'. Refute it at one input. -/
def fnBestSampleAddWrong : ChangeSpec := { name := "fnBestSampleAdd", fn := fun _ => fun
  | [d] => { results := [.lit (.bool false)], args := [d] }
  | _ => none }
def FnBestSampleAddWrongFalsely : Prop := fnBestSampleAddRow.holds Try.pinned (OpenSpec.ofChange fnBestSampleAddWrong)

/-- 'laws.FnJitterOf': WHATEVER THE INPUT: true; the input reads as it did. -/
def fnJitterOfSpec : ChangeSpec := { name := "fnJitterOf", fn := fun _ => fun
  | [d] => { results := [.lit (.bool true)], args := [d] }
  | _ => none }
def fnJitterOfRow : OpenClaim := { program := "ytpllodjahanpkac", sum := "dad88386d9bb11153b14aa703469fba04af80af15de833d64a075c06efa98c35", func := "loop.example/satelliteclock/laws.FnJitterOf", spec := "fnJitterOf", apart := false }
def FnJitterOfSaid : Prop := fnJitterOfRow.holds Try.pinned (OpenSpec.ofChange fnJitterOfSpec)

/-- ITS FALSE NEIGHBOUR: 'it returns false'. Refute it at one input. -/
def fnJitterOfWrong : ChangeSpec := { name := "fnJitterOf", fn := fun _ => fun
  | [d] => { results := [.lit (.bool false)], args := [d] }
  | _ => none }
def FnJitterOfWrongFalsely : Prop := fnJitterOfRow.holds Try.pinned (OpenSpec.ofChange fnJitterOfWrong)

/-- 'laws.FnJitterOfShift': WHATEVER THE INPUT: true; the input reads as it did. -/
def fnJitterOfShiftSpec : ChangeSpec := { name := "fnJitterOfShift", fn := fun _ => fun
  | [d] => { results := [.lit (.bool true)], args := [d] }
  | _ => none }
def fnJitterOfShiftRow : OpenClaim := { program := "ytpllodjahanpkac", sum := "dad88386d9bb11153b14aa703469fba04af80af15de833d64a075c06efa98c35", func := "loop.example/satelliteclock/laws.FnJitterOfShift", spec := "fnJitterOfShift", recurses := true, apart := false }
def FnJitterOfShiftSaid : Prop := fnJitterOfShiftRow.holds Try.pinned (OpenSpec.ofChange fnJitterOfShiftSpec)

/-- ITS FALSE NEIGHBOUR: 'it returns false'. Refute it at one input. -/
def fnJitterOfShiftWrong : ChangeSpec := { name := "fnJitterOfShift", fn := fun _ => fun
  | [d] => { results := [.lit (.bool false)], args := [d] }
  | _ => none }
def FnJitterOfShiftWrongFalsely : Prop := fnJitterOfShiftRow.holds Try.pinned (OpenSpec.ofChange fnJitterOfShiftWrong)

/-- 'laws.FnAddSample': WHATEVER THE INPUT: true; the input reads as it did. -/
def fnAddSampleSpec : ChangeSpec := { name := "fnAddSample", fn := fun _ => fun
  | [d] => { results := [.lit (.bool true)], args := [d] }
  | _ => none }
def fnAddSampleRow : OpenClaim := { program := "ytpllodjahanpkac", sum := "dad88386d9bb11153b14aa703469fba04af80af15de833d64a075c06efa98c35", func := "loop.example/satelliteclock/laws.FnAddSample", spec := "fnAddSample", apart := false }
def FnAddSampleSaid : Prop := fnAddSampleRow.holds Try.pinned (OpenSpec.ofChange fnAddSampleSpec)

/-- ITS FALSE NEIGHBOUR: 'it returns false'. Refute it at one input. -/
def fnAddSampleWrong : ChangeSpec := { name := "fnAddSample", fn := fun _ => fun
  | [d] => { results := [.lit (.bool false)], args := [d] }
  | _ => none }
def FnAddSampleWrongFalsely : Prop := fnAddSampleRow.holds Try.pinned (OpenSpec.ofChange fnAddSampleWrong)

/-- 'laws.FnAddSampleFull': WHATEVER THE INPUT: true; the input reads as it did. -/
def fnAddSampleFullSpec : ChangeSpec := { name := "fnAddSampleFull", fn := fun _ => fun
  | [d] => { results := [.lit (.bool true)], args := [d] }
  | _ => none }
def fnAddSampleFullRow : OpenClaim := { program := "ytpllodjahanpkac", sum := "dad88386d9bb11153b14aa703469fba04af80af15de833d64a075c06efa98c35", func := "loop.example/satelliteclock/laws.FnAddSampleFull", spec := "fnAddSampleFull", apart := false }
def FnAddSampleFullSaid : Prop := fnAddSampleFullRow.holds Try.pinned (OpenSpec.ofChange fnAddSampleFullSpec)

/-- ITS FALSE NEIGHBOUR: 'it returns false'. Refute it at one input. -/
def fnAddSampleFullWrong : ChangeSpec := { name := "fnAddSampleFull", fn := fun _ => fun
  | [d] => { results := [.lit (.bool false)], args := [d] }
  | _ => none }
def FnAddSampleFullWrongFalsely : Prop := fnAddSampleFullRow.holds Try.pinned (OpenSpec.ofChange fnAddSampleFullWrong)

/-- 'laws.FnWithoutSpikes': WHATEVER THE INPUT: true; the input reads as it did. -/
def fnWithoutSpikesSpec : ChangeSpec := { name := "fnWithoutSpikes", fn := fun _ => fun
  | [d] => { results := [.lit (.bool true)], args := [d] }
  | _ => none }
def fnWithoutSpikesRow : OpenClaim := { program := "ytpllodjahanpkac", sum := "dad88386d9bb11153b14aa703469fba04af80af15de833d64a075c06efa98c35", func := "loop.example/satelliteclock/laws.FnWithoutSpikes", spec := "fnWithoutSpikes", recurses := true, apart := false }
def FnWithoutSpikesSaid : Prop := fnWithoutSpikesRow.holds Try.pinned (OpenSpec.ofChange fnWithoutSpikesSpec)

/-- ITS FALSE NEIGHBOUR: 'it returns false'. Refute it at one input. -/
def fnWithoutSpikesWrong : ChangeSpec := { name := "fnWithoutSpikes", fn := fun _ => fun
  | [d] => { results := [.lit (.bool false)], args := [d] }
  | _ => none }
def FnWithoutSpikesWrongFalsely : Prop := fnWithoutSpikesRow.holds Try.pinned (OpenSpec.ofChange fnWithoutSpikesWrong)

/- THE SECOND FORM. 'bulk': how many values and letters a reading holds, each counted each time it is reached (what is shared counts as often as it is met; a slice's spare places count too). A statement '..UptoSaid' is the law's where the arguments, and the package variables that the reading takes, are together of bulk at most 1048576: NARROWER than '..Said'. Prove '..Said' where nothing that the law and all that it calls make is longer than what came in: it says more and counts as full. Else prove '..UptoSaid'. A law counts once. -/
mutual
def uptoBulk {H : Type} : DataW H → Nat
  | .lit (.string bytes) => bytes.length + 1
  | .lit _ => 1
  | .nil => 1
  | .ptr d => uptoBulk d + 1
  | .slice elems spare => uptoBulkAll elems + uptoBulkAll spare + 1
  | .agg parts => uptoBulkAll parts + 1
  | .iface _ d => uptoBulk d + 1
  | .map entries => uptoBulkEntries entries + 1
  | .held _ => 1
def uptoBulkAll {H : Type} : List (DataW H) → Nat
  | [] => 0
  | d :: r => uptoBulk d + uptoBulkAll r
def uptoBulkEntries {H : Type} : List (Lit × DataW H) → Nat
  | [] => 0
  | x :: r => uptoBulkEntry x + uptoBulkEntries r
def uptoBulkEntry {H : Type} : Lit × DataW H → Nat
  | (.string bytes, d) => bytes.length + uptoBulk d + 1
  | (_, d) => uptoBulk d + 1
 end
def uptoSmall : (H : Type) → List (DataW H) → Bool := fun _ ds => decide (uptoBulkAll ds ≤ 1048576)
def OpenSpec.upto (s : _root_.Go.ChangeSpec) : _root_.Go.OpenSpec := { _root_.Go.OpenSpec.ofChange s with cond := some uptoSmall }

/-- 'laws.FnValidSamples', WHERE WHAT IT READS IS OF BULK AT MOST 1048576: true; the input reads as it did. -/
def fnValidSamplesUptoRow : OpenClaim := { program := "ytpllodjahanpkac", sum := "dad88386d9bb11153b14aa703469fba04af80af15de833d64a075c06efa98c35", func := "loop.example/satelliteclock/laws.FnValidSamples", spec := "fnValidSamples", apart := false, narrowed := true }
def FnValidSamplesUptoSaid : Prop := fnValidSamplesUptoRow.holds Try.pinned (OpenSpec.upto fnValidSamplesSpec)

/-- 'laws.FnMedianOffset', WHERE WHAT IT READS IS OF BULK AT MOST 1048576: true; the input reads as it did. -/
def fnMedianOffsetUptoRow : OpenClaim := { program := "ytpllodjahanpkac", sum := "dad88386d9bb11153b14aa703469fba04af80af15de833d64a075c06efa98c35", func := "loop.example/satelliteclock/laws.FnMedianOffset", spec := "fnMedianOffset", recurses := true, apart := false, narrowed := true }
def FnMedianOffsetUptoSaid : Prop := fnMedianOffsetUptoRow.holds Try.pinned (OpenSpec.upto fnMedianOffsetSpec)

/-- 'laws.FnMedianOffsetOne', WHERE WHAT IT READS IS OF BULK AT MOST 1048576: true; the input reads as it did. -/
def fnMedianOffsetOneUptoRow : OpenClaim := { program := "ytpllodjahanpkac", sum := "dad88386d9bb11153b14aa703469fba04af80af15de833d64a075c06efa98c35", func := "loop.example/satelliteclock/laws.FnMedianOffsetOne", spec := "fnMedianOffsetOne", recurses := true, apart := false, narrowed := true }
def FnMedianOffsetOneUptoSaid : Prop := fnMedianOffsetOneUptoRow.holds Try.pinned (OpenSpec.upto fnMedianOffsetOneSpec)

/-- 'laws.FnBestSample', WHERE WHAT IT READS IS OF BULK AT MOST 1048576: true; the input reads as it did. -/
def fnBestSampleUptoRow : OpenClaim := { program := "ytpllodjahanpkac", sum := "dad88386d9bb11153b14aa703469fba04af80af15de833d64a075c06efa98c35", func := "loop.example/satelliteclock/laws.FnBestSample", spec := "fnBestSample", apart := false, narrowed := true }
def FnBestSampleUptoSaid : Prop := fnBestSampleUptoRow.holds Try.pinned (OpenSpec.upto fnBestSampleSpec)

/-- 'laws.FnBestSampleAdd', WHERE WHAT IT READS IS OF BULK AT MOST 1048576: true; the input reads as it did. -/
def fnBestSampleAddUptoRow : OpenClaim := { program := "ytpllodjahanpkac", sum := "dad88386d9bb11153b14aa703469fba04af80af15de833d64a075c06efa98c35", func := "loop.example/satelliteclock/laws.FnBestSampleAdd", spec := "fnBestSampleAdd", apart := false, narrowed := true }
def FnBestSampleAddUptoSaid : Prop := fnBestSampleAddUptoRow.holds Try.pinned (OpenSpec.upto fnBestSampleAddSpec)

/-- 'laws.FnJitterOf', WHERE WHAT IT READS IS OF BULK AT MOST 1048576: true; the input reads as it did. -/
def fnJitterOfUptoRow : OpenClaim := { program := "ytpllodjahanpkac", sum := "dad88386d9bb11153b14aa703469fba04af80af15de833d64a075c06efa98c35", func := "loop.example/satelliteclock/laws.FnJitterOf", spec := "fnJitterOf", apart := false, narrowed := true }
def FnJitterOfUptoSaid : Prop := fnJitterOfUptoRow.holds Try.pinned (OpenSpec.upto fnJitterOfSpec)

/-- 'laws.FnJitterOfShift', WHERE WHAT IT READS IS OF BULK AT MOST 1048576: true; the input reads as it did. -/
def fnJitterOfShiftUptoRow : OpenClaim := { program := "ytpllodjahanpkac", sum := "dad88386d9bb11153b14aa703469fba04af80af15de833d64a075c06efa98c35", func := "loop.example/satelliteclock/laws.FnJitterOfShift", spec := "fnJitterOfShift", recurses := true, apart := false, narrowed := true }
def FnJitterOfShiftUptoSaid : Prop := fnJitterOfShiftUptoRow.holds Try.pinned (OpenSpec.upto fnJitterOfShiftSpec)

/-- 'laws.FnAddSample', WHERE WHAT IT READS IS OF BULK AT MOST 1048576: true; the input reads as it did. -/
def fnAddSampleUptoRow : OpenClaim := { program := "ytpllodjahanpkac", sum := "dad88386d9bb11153b14aa703469fba04af80af15de833d64a075c06efa98c35", func := "loop.example/satelliteclock/laws.FnAddSample", spec := "fnAddSample", apart := false, narrowed := true }
def FnAddSampleUptoSaid : Prop := fnAddSampleUptoRow.holds Try.pinned (OpenSpec.upto fnAddSampleSpec)

/-- 'laws.FnAddSampleFull', WHERE WHAT IT READS IS OF BULK AT MOST 1048576: true; the input reads as it did. -/
def fnAddSampleFullUptoRow : OpenClaim := { program := "ytpllodjahanpkac", sum := "dad88386d9bb11153b14aa703469fba04af80af15de833d64a075c06efa98c35", func := "loop.example/satelliteclock/laws.FnAddSampleFull", spec := "fnAddSampleFull", apart := false, narrowed := true }
def FnAddSampleFullUptoSaid : Prop := fnAddSampleFullUptoRow.holds Try.pinned (OpenSpec.upto fnAddSampleFullSpec)

/-- 'laws.FnWithoutSpikes', WHERE WHAT IT READS IS OF BULK AT MOST 1048576: true; the input reads as it did. -/
def fnWithoutSpikesUptoRow : OpenClaim := { program := "ytpllodjahanpkac", sum := "dad88386d9bb11153b14aa703469fba04af80af15de833d64a075c06efa98c35", func := "loop.example/satelliteclock/laws.FnWithoutSpikes", spec := "fnWithoutSpikes", recurses := true, apart := false, narrowed := true }
def FnWithoutSpikesUptoSaid : Prop := fnWithoutSpikesUptoRow.holds Try.pinned (OpenSpec.upto fnWithoutSpikesSpec)

end Rows
end Go.Proofs.Ytpllodjahanpkac
