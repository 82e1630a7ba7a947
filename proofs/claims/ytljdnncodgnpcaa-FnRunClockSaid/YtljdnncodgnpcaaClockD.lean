/-
  Clocks (chapter 7): the program's offset at a time, the corrected clock, whether a clock nears zero.
-/
import Derived.Test.YtljdnncodgnpcaaClockB
namespace Go.Proofs.Ytljdnncodgnpcaa
open Go.RowKit
set_option linter.unusedVariables false
set_option maxRecDepth 100000
set_option maxRecDepth 100000 in
theorem field_0 (x y z : Int) (W : World) : (Instr.field 24 (.agg #[.int .i64 x, .int .i64 y, .int .i64 z]) 0).run Try.prog W = .ok (.int .i64 (#[x, y, z][0])) W := by
  first
  | rfl
  | (simp [go_sem, Try.underlying24]; done)
set_option maxRecDepth 100000 in
theorem field_1 (x y z : Int) (W : World) : (Instr.field 24 (.agg #[.int .i64 x, .int .i64 y, .int .i64 z]) 1).run Try.prog W = .ok (.int .i64 (#[x, y, z][1])) W := by
  first
  | rfl
  | (simp [go_sem, Try.underlying24]; done)
set_option maxRecDepth 100000 in
theorem field_2 (x y z : Int) (W : World) : (Instr.field 24 (.agg #[.int .i64 x, .int .i64 y, .int .i64 z]) 2).run Try.prog W = .ok (.int .i64 (#[x, y, z][2])) W := by
  first
  | rfl
  | (simp [go_sem, Try.underlying24]; done)
end Go.Proofs.Ytljdnncodgnpcaa
