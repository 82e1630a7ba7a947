/-
  What chapter 5 says of spans in memory: the program's functions that only look at them.
-/
import Derived.Test.YtigaifnoicnafaaSpan
namespace Go.Proofs.Ytigaifnoicnafaa
open Go.RowKit
set_option linter.unusedVariables false
end Go.Proofs.Ytigaifnoicnafaa
