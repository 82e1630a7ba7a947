/-
  The number of a date by the model, for every date.
-/
import Derived.Test.YtjlplnflhleohaaDoorCalV
import Derived.Test.YtjlplnflhleohaaDoorCalW
namespace Go.Proofs.YtjlplnflhleohaaDoor
open Go.RowKit
set_option linter.unusedVariables false
end Go.Proofs.YtjlplnflhleohaaDoor
