/-
  No cell of these rows narrows 'for every input' (looked for: loops, veiled, ifaces, maps, wideKeys, modest, calm, conditions, laid).
  DERIVED. THE GIVEN ROWS OF THIS SEAT. 7 by the template 'for every input the law returns true; each argument reads behind the call as it read before'; 0 by the template 'total and deterministic' (their statements: YtpllodjahanpkadTotals.lean).
  GIVEN WITH THE SEED: the statements are not yours to turn. If you find one false, say at which input.
  Laid BY PROGRAM, IN A SANDBOX (cutbox-rows.mjs): the forced cells as the released guide's own fill.sh prints them over the translation ec9ad14af85b4ecf… (all of the seat's roots in one cut). By AI agents, Wed Nov 11 2026. No macro, syntax, notation, axiom, sorry.
-/
import Derived.Test.YtpllodjahanpkadChecked
import GoSem.Claim
import GoSem.ClaimJoined
import GoSem.ClaimMapViews
import Derived.JoinedTies
import Derived.KernelRfl
namespace Go.Proofs.Ytpllodjahanpkad
/- THE CELL 'sum', in the pinned program and in every row, IS THE sha256 OF THE DUMP (.gsa) THAT YtpllodjahanpkadProg.lean LOADS. Nothing in Lean hashes anything: it is a label: what it is worth is what the hold of that sum in a sandbox is worth. -/
noncomputable def Try.pinned : Pinned := { name := "ytpllodjahanpkad", sum := "ec9ad14af85b4ecf85566bc0148854a0ff93340fa6c8c04d4cc0de0a823ff550", checked := Try.checked }
namespace Rows
def none {H : Type} : Left H := { results := [], args := [] }

/-- 'laws.FnWithoutSpikesMore': WHATEVER THE INPUT: true; the input reads as it did. -/
def fnWithoutSpikesMoreSpec : ChangeSpec := { name := "fnWithoutSpikesMore", fn := fun _ => fun
  | [d] => { results := [.lit (.bool true)], args := [d] }
  | _ => none }
def fnWithoutSpikesMoreRow : OpenClaim := { program := "ytpllodjahanpkad", sum := "ec9ad14af85b4ecf85566bc0148854a0ff93340fa6c8c04d4cc0de0a823ff550", func := "loop.example/satelliteclock/laws.FnWithoutSpikesMore", spec := "fnWithoutSpikesMore", recurses := true, apart := false }
def FnWithoutSpikesMoreSaid : Prop := fnWithoutSpikesMoreRow.holds Try.pinned (OpenSpec.ofChange fnWithoutSpikesMoreSpec)

/-- ITS FALSE NEIGHBOUR: 'it returns false'. Refute it at one input. -/
def fnWithoutSpikesMoreWrong : ChangeSpec := { name := "fnWithoutSpikesMore", fn := fun _ => fun
  | [d] => { results := [.lit (.bool false)], args := [d] }
  | _ => none }
def FnWithoutSpikesMoreWrongFalsely : Prop := fnWithoutSpikesMoreRow.holds Try.pinned (OpenSpec.ofChange fnWithoutSpikesMoreWrong)

/-- 'laws.FnBestSampleJitter': WHATEVER THE INPUT: true; the input reads as it did. -/
def fnBestSampleJitterSpec : ChangeSpec := { name := "fnBestSampleJitter", fn := fun _ => fun
  | [d] => { results := [.lit (.bool true)], args := [d] }
  | _ => none }
def fnBestSampleJitterRow : OpenClaim := { program := "ytpllodjahanpkad", sum := "ec9ad14af85b4ecf85566bc0148854a0ff93340fa6c8c04d4cc0de0a823ff550", func := "loop.example/satelliteclock/laws.FnBestSampleJitter", spec := "fnBestSampleJitter", recurses := true, apart := false }
def FnBestSampleJitterSaid : Prop := fnBestSampleJitterRow.holds Try.pinned (OpenSpec.ofChange fnBestSampleJitterSpec)

/-- ITS FALSE NEIGHBOUR: 'it returns false'. Refute it at one input. -/
def fnBestSampleJitterWrong : ChangeSpec := { name := "fnBestSampleJitter", fn := fun _ => fun
  | [d] => { results := [.lit (.bool false)], args := [d] }
  | _ => none }
def FnBestSampleJitterWrongFalsely : Prop := fnBestSampleJitterRow.holds Try.pinned (OpenSpec.ofChange fnBestSampleJitterWrong)

/-- 'laws.FnExactMedianOffset': WHATEVER THE INPUT: true; the input reads as it did. -/
def fnExactMedianOffsetSpec : ChangeSpec := { name := "fnExactMedianOffset", fn := fun _ => fun
  | [d] => { results := [.lit (.bool true)], args := [d] }
  | _ => none }
def fnExactMedianOffsetRow : OpenClaim := { program := "ytpllodjahanpkad", sum := "ec9ad14af85b4ecf85566bc0148854a0ff93340fa6c8c04d4cc0de0a823ff550", func := "loop.example/satelliteclock/laws.FnExactMedianOffset", spec := "fnExactMedianOffset", recurses := true, apart := false }
def FnExactMedianOffsetSaid : Prop := fnExactMedianOffsetRow.holds Try.pinned (OpenSpec.ofChange fnExactMedianOffsetSpec)

/-- ITS FALSE NEIGHBOUR: 'it returns false'. Refute it at one input. -/
def fnExactMedianOffsetWrong : ChangeSpec := { name := "fnExactMedianOffset", fn := fun _ => fun
  | [d] => { results := [.lit (.bool false)], args := [d] }
  | _ => none }
def FnExactMedianOffsetWrongFalsely : Prop := fnExactMedianOffsetRow.holds Try.pinned (OpenSpec.ofChange fnExactMedianOffsetWrong)

/-- 'laws.FnExactBestSample': WHATEVER THE INPUT: true; the input reads as it did. -/
def fnExactBestSampleSpec : ChangeSpec := { name := "fnExactBestSample", fn := fun _ => fun
  | [d] => { results := [.lit (.bool true)], args := [d] }
  | _ => none }
def fnExactBestSampleRow : OpenClaim := { program := "ytpllodjahanpkad", sum := "ec9ad14af85b4ecf85566bc0148854a0ff93340fa6c8c04d4cc0de0a823ff550", func := "loop.example/satelliteclock/laws.FnExactBestSample", spec := "fnExactBestSample", apart := false }
def FnExactBestSampleSaid : Prop := fnExactBestSampleRow.holds Try.pinned (OpenSpec.ofChange fnExactBestSampleSpec)

/-- ITS FALSE NEIGHBOUR: 'it returns false'. Refute it at one input. -/
def fnExactBestSampleWrong : ChangeSpec := { name := "fnExactBestSample", fn := fun _ => fun
  | [d] => { results := [.lit (.bool false)], args := [d] }
  | _ => none }
def FnExactBestSampleWrongFalsely : Prop := fnExactBestSampleRow.holds Try.pinned (OpenSpec.ofChange fnExactBestSampleWrong)

/-- 'laws.FnExactJitterOf': WHATEVER THE INPUT: true; the input reads as it did. -/
def fnExactJitterOfSpec : ChangeSpec := { name := "fnExactJitterOf", fn := fun _ => fun
  | [d] => { results := [.lit (.bool true)], args := [d] }
  | _ => none }
def fnExactJitterOfRow : OpenClaim := { program := "ytpllodjahanpkad", sum := "ec9ad14af85b4ecf85566bc0148854a0ff93340fa6c8c04d4cc0de0a823ff550", func := "loop.example/satelliteclock/laws.FnExactJitterOf", spec := "fnExactJitterOf", apart := false }
def FnExactJitterOfSaid : Prop := fnExactJitterOfRow.holds Try.pinned (OpenSpec.ofChange fnExactJitterOfSpec)

/-- ITS FALSE NEIGHBOUR: 'it returns false'. Refute it at one input. -/
def fnExactJitterOfWrong : ChangeSpec := { name := "fnExactJitterOf", fn := fun _ => fun
  | [d] => { results := [.lit (.bool false)], args := [d] }
  | _ => none }
def FnExactJitterOfWrongFalsely : Prop := fnExactJitterOfRow.holds Try.pinned (OpenSpec.ofChange fnExactJitterOfWrong)

/-- 'laws.FnExactAddSample': WHATEVER THE INPUT: true; the input reads as it did. -/
def fnExactAddSampleSpec : ChangeSpec := { name := "fnExactAddSample", fn := fun _ => fun
  | [d1, d2] => { results := [.lit (.bool true)], args := [d1, d2] }
  | _ => none }
def fnExactAddSampleRow : OpenClaim := { program := "ytpllodjahanpkad", sum := "ec9ad14af85b4ecf85566bc0148854a0ff93340fa6c8c04d4cc0de0a823ff550", func := "loop.example/satelliteclock/laws.FnExactAddSample", spec := "fnExactAddSample", apart := false }
def FnExactAddSampleSaid : Prop := fnExactAddSampleRow.holds Try.pinned (OpenSpec.ofChange fnExactAddSampleSpec)

/-- ITS FALSE NEIGHBOUR: 'it returns false'. Refute it at one input. -/
def fnExactAddSampleWrong : ChangeSpec := { name := "fnExactAddSample", fn := fun _ => fun
  | [d1, d2] => { results := [.lit (.bool false)], args := [d1, d2] }
  | _ => none }
def FnExactAddSampleWrongFalsely : Prop := fnExactAddSampleRow.holds Try.pinned (OpenSpec.ofChange fnExactAddSampleWrong)

/-- 'laws.FnExactWithoutSpikes': WHATEVER THE INPUT: true; the input reads as it did. -/
def fnExactWithoutSpikesSpec : ChangeSpec := { name := "fnExactWithoutSpikes", fn := fun _ => fun
  | [d1, d2] => { results := [.lit (.bool true)], args := [d1, d2] }
  | _ => none }
def fnExactWithoutSpikesRow : OpenClaim := { program := "ytpllodjahanpkad", sum := "ec9ad14af85b4ecf85566bc0148854a0ff93340fa6c8c04d4cc0de0a823ff550", func := "loop.example/satelliteclock/laws.FnExactWithoutSpikes", spec := "fnExactWithoutSpikes", recurses := true, apart := false }
def FnExactWithoutSpikesSaid : Prop := fnExactWithoutSpikesRow.holds Try.pinned (OpenSpec.ofChange fnExactWithoutSpikesSpec)

/-- ITS FALSE NEIGHBOUR: 'it returns false'. Refute it at one input. -/
def fnExactWithoutSpikesWrong : ChangeSpec := { name := "fnExactWithoutSpikes", fn := fun _ => fun
  | [d1, d2] => { results := [.lit (.bool false)], args := [d1, d2] }
  | _ => none }
def FnExactWithoutSpikesWrongFalsely : Prop := fnExactWithoutSpikesRow.holds Try.pinned (OpenSpec.ofChange fnExactWithoutSpikesWrong)

/- THE SECOND FORM. 'bulk': how many values and letters a reading holds, each counted each time it is reached (what is shared counts as often as it is met; a slice's spare places count too). A statement '..UptoSaid' is the law's where the arguments, and the package variables that the reading takes, are together of bulk at most 1048576: NARROWER than '..Said'. Prove '..Said' where nothing that the law and all that it calls make is longer than what came in: it says more and counts as full. Else prove '..UptoSaid'. A law counts once. -/
mutual
def uptoBulk {H : Type} : DataW H → Nat
  | .lit (.string bytes) => bytes.length + 1
  | .lit _ => 1
  | .nil => 1
  | .ptr d => uptoBulk d + 1
  | .slice elems spare => uptoBulkAll elems + uptoBulkAll spare + 1
  | .agg parts => uptoBulkAll parts + 1
  | .iface _ d => uptoBulk d + 1
  | .map entries => uptoBulkEntries entries + 1
  | .held _ => 1
def uptoBulkAll {H : Type} : List (DataW H) → Nat
  | [] => 0
  | d :: r => uptoBulk d + uptoBulkAll r
def uptoBulkEntries {H : Type} : List (Lit × DataW H) → Nat
  | [] => 0
  | x :: r => uptoBulkEntry x + uptoBulkEntries r
def uptoBulkEntry {H : Type} : Lit × DataW H → Nat
  | (.string bytes, d) => bytes.length + uptoBulk d + 1
  | (_, d) => uptoBulk d + 1
 end
def uptoSmall : (H : Type) → List (DataW H) → Bool := fun _ ds => decide (uptoBulkAll ds ≤ 1048576)
def OpenSpec.upto (s : _root_.Go.ChangeSpec) : _root_.Go.OpenSpec := { _root_.Go.OpenSpec.ofChange s with cond := some uptoSmall }

/-- 'laws.FnWithoutSpikesMore', WHERE WHAT IT READS IS OF BULK AT MOST 1048576: true; the input reads as it did. -/
def fnWithoutSpikesMoreUptoRow : OpenClaim := { program := "ytpllodjahanpkad", sum := "ec9ad14af85b4ecf85566bc0148854a0ff93340fa6c8c04d4cc0de0a823ff550", func := "loop.example/satelliteclock/laws.FnWithoutSpikesMore", spec := "fnWithoutSpikesMore", recurses := true, apart := false, narrowed := true }
def FnWithoutSpikesMoreUptoSaid : Prop := fnWithoutSpikesMoreUptoRow.holds Try.pinned (OpenSpec.upto fnWithoutSpikesMoreSpec)

/-- 'laws.FnBestSampleJitter', WHERE WHAT IT READS IS OF BULK AT MOST 1048576: true; the input reads as it did. -/
def fnBestSampleJitterUptoRow : OpenClaim := { program := "ytpllodjahanpkad", sum := "ec9ad14af85b4ecf85566bc0148854a0ff93340fa6c8c04d4cc0de0a823ff550", func := "loop.example/satelliteclock/laws.FnBestSampleJitter", spec := "fnBestSampleJitter", recurses := true, apart := false, narrowed := true }
def FnBestSampleJitterUptoSaid : Prop := fnBestSampleJitterUptoRow.holds Try.pinned (OpenSpec.upto fnBestSampleJitterSpec)

/-- 'laws.FnExactMedianOffset', WHERE WHAT IT READS IS OF BULK AT MOST 1048576: true; the input reads as it did. -/
def fnExactMedianOffsetUptoRow : OpenClaim := { program := "ytpllodjahanpkad", sum := "ec9ad14af85b4ecf85566bc0148854a0ff93340fa6c8c04d4cc0de0a823ff550", func := "loop.example/satelliteclock/laws.FnExactMedianOffset", spec := "fnExactMedianOffset", recurses := true, apart := false, narrowed := true }
def FnExactMedianOffsetUptoSaid : Prop := fnExactMedianOffsetUptoRow.holds Try.pinned (OpenSpec.upto fnExactMedianOffsetSpec)

/-- 'laws.FnExactBestSample', WHERE WHAT IT READS IS OF BULK AT MOST 1048576: true; the input reads as it did. -/
def fnExactBestSampleUptoRow : OpenClaim := { program := "ytpllodjahanpkad", sum := "ec9ad14af85b4ecf85566bc0148854a0ff93340fa6c8c04d4cc0de0a823ff550", func := "loop.example/satelliteclock/laws.FnExactBestSample", spec := "fnExactBestSample", apart := false, narrowed := true }
def FnExactBestSampleUptoSaid : Prop := fnExactBestSampleUptoRow.holds Try.pinned (OpenSpec.upto fnExactBestSampleSpec)

/-- 'laws.FnExactJitterOf', WHERE WHAT IT READS IS OF BULK AT MOST 1048576: true; the input reads as it did. -/
def fnExactJitterOfUptoRow : OpenClaim := { program := "ytpllodjahanpkad", sum := "ec9ad14af85b4ecf85566bc0148854a0ff93340fa6c8c04d4cc0de0a823ff550", func := "loop.example/satelliteclock/laws.FnExactJitterOf", spec := "fnExactJitterOf", apart := false, narrowed := true }
def FnExactJitterOfUptoSaid : Prop := fnExactJitterOfUptoRow.holds Try.pinned (OpenSpec.upto fnExactJitterOfSpec)

/-- 'laws.FnExactAddSample', WHERE WHAT IT READS IS OF BULK AT MOST 1048576: true; the input reads as it did. -/
def fnExactAddSampleUptoRow : OpenClaim := { program := "ytpllodjahanpkad", sum := "ec9ad14af85b4ecf85566bc0148854a0ff93340fa6c8c04d4cc0de0a823ff550", func := "loop.example/satelliteclock/laws.FnExactAddSample", spec := "fnExactAddSample", apart := false, narrowed := true }
def FnExactAddSampleUptoSaid : Prop := fnExactAddSampleUptoRow.holds Try.pinned (OpenSpec.upto fnExactAddSampleSpec)

/-- 'laws.FnExactWithoutSpikes', WHERE WHAT IT READS IS OF BULK AT MOST 1048576: true; the input reads as it did. -/
def fnExactWithoutSpikesUptoRow : OpenClaim := { program := "ytpllodjahanpkad", sum := "ec9ad14af85b4ecf85566bc0148854a0ff93340fa6c8c04d4cc0de0a823ff550", func := "loop.example/satelliteclock/laws.FnExactWithoutSpikes", spec := "fnExactWithoutSpikes", recurses := true, apart := false, narrowed := true }
def FnExactWithoutSpikesUptoSaid : Prop := fnExactWithoutSpikesUptoRow.holds Try.pinned (OpenSpec.upto fnExactWithoutSpikesSpec)

end Rows
end Go.Proofs.Ytpllodjahanpkad
