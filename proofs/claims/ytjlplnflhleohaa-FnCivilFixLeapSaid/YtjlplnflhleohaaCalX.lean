/-
  The number of a date by the model, for every date.
-/
import Derived.Test.YtjlplnflhleohaaCalV
import Derived.Test.YtjlplnflhleohaaCalW
namespace Go.Proofs.Ytjlplnflhleohaa
open Go.RowKit
set_option linter.unusedVariables false
end Go.Proofs.Ytjlplnflhleohaa
