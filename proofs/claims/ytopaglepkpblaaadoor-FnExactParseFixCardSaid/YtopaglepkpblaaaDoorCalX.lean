/-
  The number of a date by the model, for every date.
-/
import Derived.Test.YtopaglepkpblaaaDoorCalV
import Derived.Test.YtopaglepkpblaaaDoorCalW
namespace Go.Proofs.YtopaglepkpblaaaDoor
open Go.RowKit
set_option linter.unusedVariables false
end Go.Proofs.YtopaglepkpblaaaDoor
