/-
  DERIVED. GIVEN WITH THE SEED: THE CARDS: each row of YthbfjmlkcgcgaaaDoorRows.lean that lists a variable, with what it lists TIED to the program's text (the seventh form; the later family's looks); each row that meets fmt, with fmt's text TOLD by the authors' own Lean function (tested against real Go, not proved from fmt's source: count such statements apart). THE CARD IS WHAT COUNTS. Prove the row's statement (the work); the ties are given (YthbfjmlkcgcgaaaDoorTie.lean); close each card by the builder's one call (the guide's Derived/Test/ToyasCard.lean, 'card_holds'). Laid BY PROGRAM, IN A SANDBOX (cutbox-door.mjs). By AI agents, Wed Nov 11 2026. No macro, syntax, notation, axiom, sorry.
-/
import Derived.Test.YthbfjmlkcgcgaaaDoorRows
import GoSem.ClaimSeven
namespace Go.Proofs.YthbfjmlkcgcgaaaDoor
namespace Rows

/-- THE TIED CARD OF 'laws.FnNextPoll'. -/
def fnNextPollCard : Claim7 := { stood := { row := fnNextPollRow, standIns := [], harness := (true, "f2e49cd36c93ffb06ebc91e7e571fd3580a7b60fdc3852441a80230de0c8a5b1"), looks := false }, kinds := [], alts := [], laidByText := true, laidKinds := [.data], laidTests := true, laidLooks := .later }
def FnNextPollCardSaid : Prop := Claim7.holds Tryd.pinned (.plain (OpenSpec.ofChange fnNextPollSpec)) fnNextPollCard

/-- THE TIED CARD OF 'laws.FnNextPollGood'. -/
def fnNextPollGoodCard : Claim7 := { stood := { row := fnNextPollGoodRow, standIns := [], harness := (true, "f2e49cd36c93ffb06ebc91e7e571fd3580a7b60fdc3852441a80230de0c8a5b1"), looks := false }, kinds := [], alts := [], laidByText := true, laidKinds := [.data], laidTests := true, laidLooks := .later }
def FnNextPollGoodCardSaid : Prop := Claim7.holds Tryd.pinned (.plain (OpenSpec.ofChange fnNextPollGoodSpec)) fnNextPollGoodCard

/-- THE TIED CARD OF 'laws.FnNextPollSign'. -/
def fnNextPollSignCard : Claim7 := { stood := { row := fnNextPollSignRow, standIns := [], harness := (true, "f2e49cd36c93ffb06ebc91e7e571fd3580a7b60fdc3852441a80230de0c8a5b1"), looks := false }, kinds := [], alts := [], laidByText := true, laidKinds := [.data], laidTests := true, laidLooks := .later }
def FnNextPollSignCardSaid : Prop := Claim7.holds Tryd.pinned (.plain (OpenSpec.ofChange fnNextPollSignSpec)) fnNextPollSignCard

/-- THE TIED CARD OF 'laws.FnRunPolls'. -/
def fnRunPollsCard : Claim7 := { stood := { row := fnRunPollsRow, standIns := [], harness := (true, "f2e49cd36c93ffb06ebc91e7e571fd3580a7b60fdc3852441a80230de0c8a5b1"), looks := false }, kinds := [], alts := [], laidByText := true, laidKinds := [.data], laidTests := true, laidLooks := .later }
def FnRunPollsCardSaid : Prop := Claim7.holds Tryd.pinned (.plain (OpenSpec.ofChange fnRunPollsSpec)) fnRunPollsCard

/-- THE TIED CARD OF 'laws.FnRunPollsBounds'. -/
def fnRunPollsBoundsCard : Claim7 := { stood := { row := fnRunPollsBoundsRow, standIns := [], harness := (true, "f2e49cd36c93ffb06ebc91e7e571fd3580a7b60fdc3852441a80230de0c8a5b1"), looks := false }, kinds := [], alts := [], laidByText := true, laidKinds := [.data], laidTests := true, laidLooks := .later }
def FnRunPollsBoundsCardSaid : Prop := Claim7.holds Tryd.pinned (.plain (OpenSpec.ofChange fnRunPollsBoundsSpec)) fnRunPollsBoundsCard

/-- THE TIED CARD OF 'laws.FnRunPollsGood'. -/
def fnRunPollsGoodCard : Claim7 := { stood := { row := fnRunPollsGoodRow, standIns := [], harness := (true, "f2e49cd36c93ffb06ebc91e7e571fd3580a7b60fdc3852441a80230de0c8a5b1"), looks := false }, kinds := [], alts := [], laidByText := true, laidKinds := [.data], laidTests := true, laidLooks := .later }
def FnRunPollsGoodCardSaid : Prop := Claim7.holds Tryd.pinned (.plain (OpenSpec.ofChange fnRunPollsGoodSpec)) fnRunPollsGoodCard

/-- THE TIED CARD OF 'laws.FnExactNextPoll'. -/
def fnExactNextPollCard : Claim7 := { stood := { row := fnExactNextPollRow, standIns := [], harness := (true, "f2e49cd36c93ffb06ebc91e7e571fd3580a7b60fdc3852441a80230de0c8a5b1"), looks := false }, kinds := [], alts := [], laidByText := true, laidKinds := [.data], laidTests := true, laidLooks := .later }
def FnExactNextPollCardSaid : Prop := Claim7.holds Tryd.pinned (.plain (OpenSpec.ofChange fnExactNextPollSpec)) fnExactNextPollCard

/-- THE TIED CARD OF 'laws.FnExactRunPolls'. -/
def fnExactRunPollsCard : Claim7 := { stood := { row := fnExactRunPollsRow, standIns := [], harness := (true, "f2e49cd36c93ffb06ebc91e7e571fd3580a7b60fdc3852441a80230de0c8a5b1"), looks := false }, kinds := [], alts := [], laidByText := true, laidKinds := [.data], laidTests := true, laidLooks := .later }
def FnExactRunPollsCardSaid : Prop := Claim7.holds Tryd.pinned (.plain (OpenSpec.ofChange fnExactRunPollsSpec)) fnExactRunPollsCard

/-- THE SECOND FORM's CARD OF 'laws.FnNextPoll'. -/
def fnNextPollUptoCard : Claim7 := { stood := { row := fnNextPollUptoRow, standIns := [], harness := (true, "f2e49cd36c93ffb06ebc91e7e571fd3580a7b60fdc3852441a80230de0c8a5b1"), looks := false }, kinds := [], alts := [], laidByText := true, laidKinds := [.data], laidTests := true, laidLooks := .later }
def FnNextPollUptoCardSaid : Prop := Claim7.holds Tryd.pinned (.plain (OpenSpec.upto fnNextPollSpec)) fnNextPollUptoCard

/-- THE SECOND FORM's CARD OF 'laws.FnNextPollGood'. -/
def fnNextPollGoodUptoCard : Claim7 := { stood := { row := fnNextPollGoodUptoRow, standIns := [], harness := (true, "f2e49cd36c93ffb06ebc91e7e571fd3580a7b60fdc3852441a80230de0c8a5b1"), looks := false }, kinds := [], alts := [], laidByText := true, laidKinds := [.data], laidTests := true, laidLooks := .later }
def FnNextPollGoodUptoCardSaid : Prop := Claim7.holds Tryd.pinned (.plain (OpenSpec.upto fnNextPollGoodSpec)) fnNextPollGoodUptoCard

/-- THE SECOND FORM's CARD OF 'laws.FnNextPollSign'. -/
def fnNextPollSignUptoCard : Claim7 := { stood := { row := fnNextPollSignUptoRow, standIns := [], harness := (true, "f2e49cd36c93ffb06ebc91e7e571fd3580a7b60fdc3852441a80230de0c8a5b1"), looks := false }, kinds := [], alts := [], laidByText := true, laidKinds := [.data], laidTests := true, laidLooks := .later }
def FnNextPollSignUptoCardSaid : Prop := Claim7.holds Tryd.pinned (.plain (OpenSpec.upto fnNextPollSignSpec)) fnNextPollSignUptoCard

/-- THE SECOND FORM's CARD OF 'laws.FnRunPolls'. -/
def fnRunPollsUptoCard : Claim7 := { stood := { row := fnRunPollsUptoRow, standIns := [], harness := (true, "f2e49cd36c93ffb06ebc91e7e571fd3580a7b60fdc3852441a80230de0c8a5b1"), looks := false }, kinds := [], alts := [], laidByText := true, laidKinds := [.data], laidTests := true, laidLooks := .later }
def FnRunPollsUptoCardSaid : Prop := Claim7.holds Tryd.pinned (.plain (OpenSpec.upto fnRunPollsSpec)) fnRunPollsUptoCard

/-- THE SECOND FORM's CARD OF 'laws.FnRunPollsBounds'. -/
def fnRunPollsBoundsUptoCard : Claim7 := { stood := { row := fnRunPollsBoundsUptoRow, standIns := [], harness := (true, "f2e49cd36c93ffb06ebc91e7e571fd3580a7b60fdc3852441a80230de0c8a5b1"), looks := false }, kinds := [], alts := [], laidByText := true, laidKinds := [.data], laidTests := true, laidLooks := .later }
def FnRunPollsBoundsUptoCardSaid : Prop := Claim7.holds Tryd.pinned (.plain (OpenSpec.upto fnRunPollsBoundsSpec)) fnRunPollsBoundsUptoCard

/-- THE SECOND FORM's CARD OF 'laws.FnRunPollsGood'. -/
def fnRunPollsGoodUptoCard : Claim7 := { stood := { row := fnRunPollsGoodUptoRow, standIns := [], harness := (true, "f2e49cd36c93ffb06ebc91e7e571fd3580a7b60fdc3852441a80230de0c8a5b1"), looks := false }, kinds := [], alts := [], laidByText := true, laidKinds := [.data], laidTests := true, laidLooks := .later }
def FnRunPollsGoodUptoCardSaid : Prop := Claim7.holds Tryd.pinned (.plain (OpenSpec.upto fnRunPollsGoodSpec)) fnRunPollsGoodUptoCard

/-- THE SECOND FORM's CARD OF 'laws.FnExactNextPoll'. -/
def fnExactNextPollUptoCard : Claim7 := { stood := { row := fnExactNextPollUptoRow, standIns := [], harness := (true, "f2e49cd36c93ffb06ebc91e7e571fd3580a7b60fdc3852441a80230de0c8a5b1"), looks := false }, kinds := [], alts := [], laidByText := true, laidKinds := [.data], laidTests := true, laidLooks := .later }
def FnExactNextPollUptoCardSaid : Prop := Claim7.holds Tryd.pinned (.plain (OpenSpec.upto fnExactNextPollSpec)) fnExactNextPollUptoCard

/-- THE SECOND FORM's CARD OF 'laws.FnExactRunPolls'. -/
def fnExactRunPollsUptoCard : Claim7 := { stood := { row := fnExactRunPollsUptoRow, standIns := [], harness := (true, "f2e49cd36c93ffb06ebc91e7e571fd3580a7b60fdc3852441a80230de0c8a5b1"), looks := false }, kinds := [], alts := [], laidByText := true, laidKinds := [.data], laidTests := true, laidLooks := .later }
def FnExactRunPollsUptoCardSaid : Prop := Claim7.holds Tryd.pinned (.plain (OpenSpec.upto fnExactRunPollsSpec)) fnExactRunPollsUptoCard
end Rows
end Go.Proofs.YthbfjmlkcgcgaaaDoor
