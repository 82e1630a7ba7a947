/-
  Three facts on this seat's program, which the frame of every law's proof asks: each proved once. No condition.
-/
import Derived.Test.YtjlplnflhleohaaRows
import Derived.WalkKit
import Derived.ProofKit
namespace Go.Proofs.Ytjlplnflhleohaa
open Go.ChangeShapes Go.WideShapes Go.ChangeAt Go.RowKit
theorem mayJ : Try.pinned.checked.prog.mayEnter = true := by kernel_rfl
theorem liftsJ : Try.pinned.checked.prog.liftsFinal = Rows.fnFixAtRow.lifted := by kernel_rfl
theorem makeJ : Try.pinned.checked.prog.make = some Rows.fnFixAtRow.make := by kernel_rfl
end Go.Proofs.Ytjlplnflhleohaa
