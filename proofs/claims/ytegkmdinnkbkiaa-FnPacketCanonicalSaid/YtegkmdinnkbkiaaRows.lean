/-
  No cell of these rows narrows 'for every input' (looked for: loops, veiled, ifaces, maps, wideKeys, modest, calm, conditions, laid).
  DERIVED. THE GIVEN ROWS OF THIS SEAT. 3 by the template 'for every input the law returns true; each argument reads behind the call as it read before'; 0 by the template 'total and deterministic' (their statements: YtegkmdinnkbkiaaTotals.lean).
  GIVEN WITH THE SEED: the statements are not yours to turn. If you find one false, say at which input.
  Laid BY PROGRAM, IN A SANDBOX (cutbox-rows.mjs): the forced cells as the released guide's own fill.sh prints them over the translation 672a1143285e0763… (all of the seat's roots in one cut). By AI agents, Wed Nov 11 2026. No macro, syntax, notation, axiom, sorry.
-/
import Derived.Test.YtegkmdinnkbkiaaChecked
import GoSem.Claim
import GoSem.ClaimJoined
import GoSem.ClaimMapViews
import Derived.JoinedTies
import Derived.KernelRfl
namespace Go.Proofs.Ytegkmdinnkbkiaa
/- THE CELL 'sum', in the pinned program and in every row, IS THE sha256 OF THE DUMP (.gsa) THAT YtegkmdinnkbkiaaProg.lean LOADS. Nothing in Lean hashes anything: it is a label: what it is worth is what the hold of that sum in a sandbox is worth. -/
noncomputable def Try.pinned : Pinned := { name := "ytegkmdinnkbkiaa", sum := "672a1143285e0763e4b4aadcc6b0e8e67b6a0ecaf194447398923b306bb69289", checked := Try.checked }
namespace Rows
def none {H : Type} : Left H := { results := [], args := [] }

/-- 'laws.FnPacketRoundTrip': WHATEVER THE INPUT: true; the input reads as it did. -/
def fnPacketRoundTripSpec : ChangeSpec := { name := "fnPacketRoundTrip", fn := fun _ => fun
  | [d] => { results := [.lit (.bool true)], args := [d] }
  | _ => none }
def fnPacketRoundTripRow : OpenClaim := { program := "ytegkmdinnkbkiaa", sum := "672a1143285e0763e4b4aadcc6b0e8e67b6a0ecaf194447398923b306bb69289", func := "loop.example/satelliteclock/laws.FnPacketRoundTrip", spec := "fnPacketRoundTrip", apart := false }
def FnPacketRoundTripSaid : Prop := fnPacketRoundTripRow.holds Try.pinned (OpenSpec.ofChange fnPacketRoundTripSpec)

/-- ITS FALSE NEIGHBOUR: 'it returns false'. Refute it at one input. -/
def fnPacketRoundTripWrong : ChangeSpec := { name := "fnPacketRoundTrip", fn := fun _ => fun
  | [d] => { results := [.lit (.bool false)], args := [d] }
  | _ => none }
def FnPacketRoundTripWrongFalsely : Prop := fnPacketRoundTripRow.holds Try.pinned (OpenSpec.ofChange fnPacketRoundTripWrong)

/-- 'laws.FnPacketCanonical': WHATEVER THE INPUT: true; the input reads as it did. -/
def fnPacketCanonicalSpec : ChangeSpec := { name := "fnPacketCanonical", fn := fun _ => fun
  | [d] => { results := [.lit (.bool true)], args := [d] }
  | _ => none }
def fnPacketCanonicalRow : OpenClaim := { program := "ytegkmdinnkbkiaa", sum := "672a1143285e0763e4b4aadcc6b0e8e67b6a0ecaf194447398923b306bb69289", func := "loop.example/satelliteclock/laws.FnPacketCanonical", spec := "fnPacketCanonical", apart := false }
def FnPacketCanonicalSaid : Prop := fnPacketCanonicalRow.holds Try.pinned (OpenSpec.ofChange fnPacketCanonicalSpec)

/-- ITS FALSE NEIGHBOUR: 'it returns false'. Refute it at one input. -/
def fnPacketCanonicalWrong : ChangeSpec := { name := "fnPacketCanonical", fn := fun _ => fun
  | [d] => { results := [.lit (.bool false)], args := [d] }
  | _ => none }
def FnPacketCanonicalWrongFalsely : Prop := fnPacketCanonicalRow.holds Try.pinned (OpenSpec.ofChange fnPacketCanonicalWrong)

/-- 'laws.FnExactParsePacket': WHATEVER THE INPUT: true; the input reads as it did. -/
def fnExactParsePacketSpec : ChangeSpec := { name := "fnExactParsePacket", fn := fun _ => fun
  | [d] => { results := [.lit (.bool true)], args := [d] }
  | _ => none }
def fnExactParsePacketRow : OpenClaim := { program := "ytegkmdinnkbkiaa", sum := "672a1143285e0763e4b4aadcc6b0e8e67b6a0ecaf194447398923b306bb69289", func := "loop.example/satelliteclock/laws.FnExactParsePacket", spec := "fnExactParsePacket", apart := false }
def FnExactParsePacketSaid : Prop := fnExactParsePacketRow.holds Try.pinned (OpenSpec.ofChange fnExactParsePacketSpec)

/-- ITS FALSE NEIGHBOUR: 'it returns false'. Refute it at one input. -/
def fnExactParsePacketWrong : ChangeSpec := { name := "fnExactParsePacket", fn := fun _ => fun
  | [d] => { results := [.lit (.bool false)], args := [d] }
  | _ => none }
def FnExactParsePacketWrongFalsely : Prop := fnExactParsePacketRow.holds Try.pinned (OpenSpec.ofChange fnExactParsePacketWrong)

/- THE SECOND FORM. 'bulk': how many values and letters a reading holds, each counted each time it is reached (what is shared counts as often as it is met; a slice's spare places count too). A statement '..UptoSaid' is the law's where the arguments, and the package variables that the reading takes, are together of bulk at most 1048576: NARROWER than '..Said'. Prove '..Said' where nothing that the law and all that it calls make is longer than what came in: it says more and counts as full. Else prove '..UptoSaid'. A law counts once. -/
mutual
def uptoBulk {H : Type} : DataW H → Nat
  | .lit (.string bytes) => bytes.length + 1
  | .lit _ => 1
  | .nil => 1
  | .ptr d => uptoBulk d + 1
  | .slice elems spare => uptoBulkAll elems + uptoBulkAll spare + 1
  | .agg parts => uptoBulkAll parts + 1
  | .iface _ d => uptoBulk d + 1
  | .map entries => uptoBulkEntries entries + 1
  | .held _ => 1
def uptoBulkAll {H : Type} : List (DataW H) → Nat
  | [] => 0
  | d :: r => uptoBulk d + uptoBulkAll r
def uptoBulkEntries {H : Type} : List (Lit × DataW H) → Nat
  | [] => 0
  | x :: r => uptoBulkEntry x + uptoBulkEntries r
def uptoBulkEntry {H : Type} : Lit × DataW H → Nat
  | (.string bytes, d) => bytes.length + uptoBulk d + 1
  | (_, d) => uptoBulk d + 1
 end
def uptoSmall : (H : Type) → List (DataW H) → Bool := fun _ ds => decide (uptoBulkAll ds ≤ 1048576)
def OpenSpec.upto (s : _root_.Go.ChangeSpec) : _root_.Go.OpenSpec := { _root_.Go.OpenSpec.ofChange s with cond := some uptoSmall }

/-- 'laws.FnPacketRoundTrip', WHERE WHAT IT READS IS OF BULK AT MOST 1048576: true; the input reads as it did. -/
def fnPacketRoundTripUptoRow : OpenClaim := { program := "ytegkmdinnkbkiaa", sum := "672a1143285e0763e4b4aadcc6b0e8e67b6a0ecaf194447398923b306bb69289", func := "loop.example/satelliteclock/laws.FnPacketRoundTrip", spec := "fnPacketRoundTrip", apart := false, narrowed := true }
def FnPacketRoundTripUptoSaid : Prop := fnPacketRoundTripUptoRow.holds Try.pinned (OpenSpec.upto fnPacketRoundTripSpec)

/-- 'laws.FnPacketCanonical', WHERE WHAT IT READS IS OF BULK AT MOST 1048576: true; the input reads as it did. -/
def fnPacketCanonicalUptoRow : OpenClaim := { program := "ytegkmdinnkbkiaa", sum := "672a1143285e0763e4b4aadcc6b0e8e67b6a0ecaf194447398923b306bb69289", func := "loop.example/satelliteclock/laws.FnPacketCanonical", spec := "fnPacketCanonical", apart := false, narrowed := true }
def FnPacketCanonicalUptoSaid : Prop := fnPacketCanonicalUptoRow.holds Try.pinned (OpenSpec.upto fnPacketCanonicalSpec)

/-- 'laws.FnExactParsePacket', WHERE WHAT IT READS IS OF BULK AT MOST 1048576: true; the input reads as it did. -/
def fnExactParsePacketUptoRow : OpenClaim := { program := "ytegkmdinnkbkiaa", sum := "672a1143285e0763e4b4aadcc6b0e8e67b6a0ecaf194447398923b306bb69289", func := "loop.example/satelliteclock/laws.FnExactParsePacket", spec := "fnExactParsePacket", apart := false, narrowed := true }
def FnExactParsePacketUptoSaid : Prop := fnExactParsePacketUptoRow.holds Try.pinned (OpenSpec.upto fnExactParsePacketSpec)

end Rows
end Go.Proofs.Ytegkmdinnkbkiaa
