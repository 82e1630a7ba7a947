/-
  Polls: the laws' own small functions over states, and a state that is carried through a law.
-/
import Derived.Test.YthbfjmlkcgcgaaaDoorPoll
namespace Go.Proofs.YthbfjmlkcgcgaaaDoor
open Go.RowKit
set_option linter.unusedVariables false
set_option maxRecDepth 100000
/-- Two numbers in a block. -/
structure P2 (w : World) (D : Nat) (x y : Int) : Prop where
  c0 : w.cell? ⟨D, 0, none⟩ = some (.int .i64 x)
  c1 : w.cell? ⟨D, 1, none⟩ = some (.int .i64 y)
  lt : D < w.heap.size
theorem P2.b {w w' : World} {D : Nat} {x y : Int} (h : P2 w D x y) (hb : Below w.heap.size w w') : P2 w' D x y := ⟨(hb.cell (p := ⟨D, 0, none⟩) h.lt).trans h.c0, (hb.cell (p := ⟨D, 1, none⟩) h.lt).trans h.c1, Nat.lt_of_lt_of_le h.lt hb.size⟩
theorem P2.al {w : World} {D : Nat} {x y : Int} (h : P2 w D x y) (o : Obj) : P2 (w.alloc o) D x y := h.b ((Below.refl _ _).alloc (Nat.le_refl _) o)
theorem P2.new (w : World) (x y : Int) (t : TypeId) : P2 (w.alloc (.cells #[.int .i64 x, .int .i64 y] t)) w.heap.size x y := ⟨by simp, by simp, by simp⟩
theorem toPoll_any (x y : Int) (w : World) : Calls Tryd.prog 19 #[.agg #[.int .i64 x, .int .i64 y]] w fun e w' => e = .returned (.agg #[.int .i64 x, .int .i64 y]) ∧ Below w.heap.size w w' := by
  go_enter Tryd.func19, Tryd.ntmps19
  go_wp2
  refine bodyPost_ret (v := .agg #[.int .i64 x, .int .i64 y]) (by simp [results, Tryd.results19, go_sem]) rfl ⟨rfl, ?_⟩
  repeat (first | exact Below.refl _ _ | refine Below.alloc ?_ (by first | exact Nat.le_refl _ | (simp; done) | (simp; omega)) _)
theorem eqPoll_same (x y : Int) (w : World) : Calls Tryd.prog 20 #[.agg #[.int .i64 x, .int .i64 y], .agg #[.int .i64 x, .int .i64 y]] w fun e w' => e = .returned (.bool true) ∧ Below w.heap.size w w' := by
  go_enter Tryd.func20, Tryd.ntmps20
  go_wp2
  go_ret
  refine ⟨rfl, ?_⟩
  repeat (first | exact Below.refl _ _ | refine Below.alloc ?_ (by first | exact Nat.le_refl _ | (simp; done) | (simp; omega)) _)
end Go.Proofs.YthbfjmlkcgcgaaaDoor
