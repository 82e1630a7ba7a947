/-
  DERIVED. GIVEN WITH THE SEED: THE CARDS: each row of YtjlplnflhleohaaDoorRows.lean that lists a variable, with what it lists TIED to the program's text (the seventh form; the later family's looks); each row that meets fmt, with fmt's text TOLD by the authors' own Lean function (tested against real Go, not proved from fmt's source: count such statements apart). THE CARD IS WHAT COUNTS. Prove the row's statement (the work); the ties are given (YtjlplnflhleohaaDoorTie.lean); close each card by the builder's one call (the guide's Derived/Test/ToyasCard.lean, 'card_holds'). Laid BY PROGRAM, IN A SANDBOX (cutbox-door.mjs). By AI agents, Wed Nov 11 2026. No macro, syntax, notation, axiom, sorry.
-/
import Derived.Test.YtjlplnflhleohaaDoorRows
import GoSem.ClaimSeven
namespace Go.Proofs.YtjlplnflhleohaaDoor
namespace Rows

/-- THE TIED CARD OF 'laws.FnValidFix'. -/
def fnValidFixCard : Claim7 := { stood := { row := fnValidFixRow, standIns := [], harness := (true, "37f5d4f546c6e3a02f8c16fcbfe42fd2e85fdec950f6e092fd88f156f1606a37"), looks := false }, kinds := [], alts := [], laidByText := true, laidKinds := [.data, .data, .data], laidTests := true, laidLooks := .later }
def FnValidFixCardSaid : Prop := Claim7.holds Tryd.pinned (.plain (OpenSpec.ofChange fnValidFixSpec)) fnValidFixCard

/-- THE SECOND FORM's CARD OF 'laws.FnValidFix'. -/
def fnValidFixUptoCard : Claim7 := { stood := { row := fnValidFixUptoRow, standIns := [], harness := (true, "37f5d4f546c6e3a02f8c16fcbfe42fd2e85fdec950f6e092fd88f156f1606a37"), looks := false }, kinds := [], alts := [], laidByText := true, laidKinds := [.data, .data, .data], laidTests := true, laidLooks := .later }
def FnValidFixUptoCardSaid : Prop := Claim7.holds Tryd.pinned (.plain (OpenSpec.upto fnValidFixSpec)) fnValidFixUptoCard
end Rows
end Go.Proofs.YtjlplnflhleohaaDoor
