/-
  Three facts on this seat's program, which the frame of every law's proof asks: each proved once. No condition.
-/
import Derived.Test.YtgbbbmljanlogaaRows
import Derived.WalkKit
import Derived.ProofKit
namespace Go.Proofs.Ytgbbbmljanlogaa
open Go.ChangeShapes Go.WideShapes Go.ChangeAt Go.RowKit
theorem mayJ : Try.pinned.checked.prog.mayEnter = true := by kernel_rfl
theorem liftsJ : Try.pinned.checked.prog.liftsFinal = Rows.fnGainOfShiftRow.lifted := by kernel_rfl
theorem makeJ : Try.pinned.checked.prog.make = some Rows.fnGainOfShiftRow.make := by kernel_rfl
end Go.Proofs.Ytgbbbmljanlogaa
