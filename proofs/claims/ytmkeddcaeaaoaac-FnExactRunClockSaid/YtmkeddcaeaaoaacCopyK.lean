/-
  Clocks: the laws' own small functions over clocks, and a clock that is carried through a law.
-/
import Derived.Test.YtmkeddcaeaaoaacClock
namespace Go.Proofs.Ytmkeddcaeaaoaac
open Go.RowKit
set_option linter.unusedVariables false
set_option maxRecDepth 100000
/-- A clock in a block of the law's own, and what lay there before is as it was. -/
structure Kq (w0 w : World) (D : Nat) (o r a : Int) : Prop where
  here : C3 w D o r a
  bel : Below w0.heap.size w0 w
theorem Kq.b {w0 w w' : World} {D : Nat} {o r a : Int} (h : Kq w0 w D o r a) (hb : Below w.heap.size w w') : Kq w0 w' D o r a := ⟨h.here.b hb, h.bel.trans (hb.mono h.bel.size)⟩
theorem Kq.al {w0 w : World} {D : Nat} {o r a : Int} (h : Kq w0 w D o r a) (x : Obj) : Kq w0 (w.alloc x) D o r a := h.b ((Below.refl _ _).alloc (Nat.le_refl _) x)
theorem Kq.dr {w0 w : World} {D : Nat} {o r a : Int} (h : Kq w0 w D o r a) (k : Nat) : Kq w0 (w.drewN k) D o r a := ⟨h.here.dr k, below_drewN h.bel k⟩
theorem Kq.new {w0 w : World} (h : Below w0.heap.size w0 w) (o r a : Int) (t : TypeId) : Kq w0 (w.alloc (.cells #[.int .i64 o, .int .i64 r, .int .i64 a] t)) w.heap.size o r a := ⟨C3.new w o r a t, h.alloc h.size _⟩
theorem toClock_any (x y z : Int) (w : World) : Calls Try.prog 19 #[.agg #[.int .i64 x, .int .i64 y, .int .i64 z]] w fun e w' => e = .returned (.agg #[.int .i64 x, .int .i64 y, .int .i64 z]) ∧ Below w.heap.size w w' := by
  go_enter Try.func19, Try.ntmps19
  go_wp2
  refine bodyPost_ret (v := .agg #[.int .i64 x, .int .i64 y, .int .i64 z]) (by simp [results, Try.results19, go_sem]) rfl ⟨rfl, ?_⟩
  repeat (first | exact Below.refl _ _ | refine Below.alloc ?_ (by first | exact Nat.le_refl _ | (simp; done) | (simp; omega)) _)
theorem eqClock_same (x y z : Int) (w : World) : Calls Try.prog 27 #[.agg #[.int .i64 x, .int .i64 y, .int .i64 z], .agg #[.int .i64 x, .int .i64 y, .int .i64 z]] w fun e w' => e = .returned (.bool true) ∧ Below w.heap.size w w' := by
  go_enter Try.func27, Try.ntmps27
  go_wp2
  go_ret
  refine ⟨rfl, ?_⟩
  repeat (first | exact Below.refl _ _ | refine Below.alloc ?_ (by first | exact Nat.le_refl _ | (simp; done) | (simp; omega)) _)
end Go.Proofs.Ytmkeddcaeaaoaac
