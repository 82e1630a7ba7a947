/-
  The generators of time stamps (chapter 10): numbers of moderate size, and nothing that was there has changed. Condition: the code has at most 1048576 bytes.
-/
import Derived.Test.YthbfjmlkcgcgaaaDoorDraw
namespace Go.Proofs.YthbfjmlkcgcgaaaDoor
open Go.RowKit
set_option linter.unusedVariables false
set_option maxRecDepth 100000
/-- A number that was drawn, of moderate size. -/
abbrev DrawnN (B : Nat) (w : World) (r m : Nat) : Ending → World → Prop := Num B w r m (-1000000000000000) 1000000000000000
def FromN1 (w : World) (e : Ending) (w' : World) : Prop := ∃ z : Int, e = .returned (.int .i64 z) ∧ (-1000000000000000 ≤ z ∧ z ≤ 1000000000000000) ∧ Below w.heap.size w w'
def FromN2 (w : World) (e : Ending) (w' : World) : Prop := ∃ y z : Int, e = .returned (.tuple #[.int .i64 y, .int .i64 z]) ∧ (-1000000000000000 ≤ y ∧ y ≤ 1000000000000000) ∧ (-1000000000000000 ≤ z ∧ z ≤ 1000000000000000) ∧ Below w.heap.size w w'
end Go.Proofs.YthbfjmlkcgcgaaaDoor
