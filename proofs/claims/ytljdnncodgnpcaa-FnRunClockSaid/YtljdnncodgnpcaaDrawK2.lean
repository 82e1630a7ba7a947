/-
  The generators of the arguments of the clocks' functions. Condition: the code has at most 1048576 bytes.
-/
import Derived.Test.YtljdnncodgnpcaaDrawK
import Derived.Deep.RegionHeld3
namespace Go.Proofs.Ytljdnncodgnpcaa
open Go.RowKit
set_option linter.unusedVariables false
set_option maxRecDepth 100000
theorem Code.laterK {w w' : World} {a : Option Addr} {len : Nat} (h : Code w a len) (hb : Below w.heap.size w w') : Code w' a len := by
  refine ⟨h.1, h.2.1, fun n hn => ?_⟩
  rcases h.2.2 n hn with h0 | ⟨b, off, e, hlt, hall⟩
  · exact .inl h0
  · refine .inr ⟨b, off, e, Nat.lt_of_lt_of_le hlt hb.size, fun i hi => ?_⟩
    obtain ⟨k, k0, k1, kc⟩ := hall i hi
    exact ⟨k, k0, k1, (hb.cell (p := ⟨b, off + i, none⟩) hlt).trans kc⟩
/-- A block of three zeros that the call has made, and what lies below it. -/
structure Z3 (w0 w : World) (b : Nat) : Prop where
  lo : w0.heap.size ≤ b
  lt : b < w.heap.size
  c0 : w.cell? ⟨b, 0, none⟩ = some (.int .i64 0)
  c1 : w.cell? ⟨b, 1, none⟩ = some (.int .i64 0)
  c2 : w.cell? ⟨b, 2, none⟩ = some (.int .i64 0)
  f0 : w.frozen? ⟨b, 0, none⟩ = false
  f1 : w.frozen? ⟨b, 1, none⟩ = false
  f2 : w.frozen? ⟨b, 2, none⟩ = false
  bel : Below w0.heap.size w0 w
theorem Z3.new (w : World) (t : TypeId) : Z3 w (w.alloc (.cells #[.int .i64 0, .int .i64 0, .int .i64 0] t)) w.heap.size :=
  ⟨Nat.le_refl _, by simp, by simp, by simp, by simp, by simp, by simp, by simp, (Below.refl _ _).alloc (Nat.le_refl _) _⟩
theorem Z3.b {w0 w w' : World} {b B : Nat} (h : Z3 w0 w b) (k : Below B w w') (hB : b < B) : Z3 w0 w' b :=
  ⟨h.lo, Nat.lt_of_lt_of_le h.lt k.size, (k.cell (p := ⟨b, 0, none⟩) hB).trans h.c0, (k.cell (p := ⟨b, 1, none⟩) hB).trans h.c1, (k.cell (p := ⟨b, 2, none⟩) hB).trans h.c2, (k.frozen (p := ⟨b, 0, none⟩) hB).trans h.f0, (k.frozen (p := ⟨b, 1, none⟩) hB).trans h.f1, (k.frozen (p := ⟨b, 2, none⟩) hB).trans h.f2, h.bel.trans (k.mono (by have := h.lo; omega))⟩
theorem Z3.fin {w0 w : World} {b : Nat} (h : Z3 w0 w b) (x y z : Value) : Below w0.heap.size w0 (((w.setCell ⟨b, 0, none⟩ x).setCell ⟨b, 1, none⟩ y).setCell ⟨b, 2, none⟩ z) :=
  ((h.bel.setCell (p := ⟨b, 0, none⟩) h.lo _).setCell (p := ⟨b, 1, none⟩) h.lo _).setCell (p := ⟨b, 2, none⟩) h.lo _
def FromK1 (w : World) (e : Ending) (w' : World) : Prop := ∃ o p a : Int, e = .returned (.agg #[.int .i64 o, .int .i64 p, .int .i64 a]) ∧ (-1000001 ≤ o ∧ o ≤ 1000001) ∧ (-500001 ≤ p ∧ p ≤ 500001) ∧ (-1 ≤ a ∧ a ≤ 3786479999) ∧ Below w.heap.size w w'
def FromK2 (w : World) (e : Ending) (w' : World) : Prop := ∃ o p a t : Int, e = .returned (.tuple #[.agg #[.int .i64 o, .int .i64 p, .int .i64 a], .int .i64 t]) ∧ (-1000001 ≤ o ∧ o ≤ 1000001) ∧ (-500001 ≤ p ∧ p ≤ 500001) ∧ (-1 ≤ a ∧ a ≤ 3786479999) ∧ (-10 ≤ t ∧ t ≤ 3786800000) ∧ Below w.heap.size w w'
def FromK3 (w : World) (e : Ending) (w' : World) : Prop := ∃ o p a t x : Int, e = .returned (.tuple #[.agg #[.int .i64 o, .int .i64 p, .int .i64 a], .int .i64 t, .int .i64 x]) ∧ (-1000001 ≤ o ∧ o ≤ 1000001) ∧ (-500001 ≤ p ∧ p ≤ 500001) ∧ (-1 ≤ a ∧ a ≤ 3786479999) ∧ (-10 ≤ t ∧ t ≤ 3786800000) ∧ (-1000001 ≤ x ∧ x ≤ 1000001) ∧ Below w.heap.size w w'
theorem BoxK.drew {w : World} {r b : Nat} {x y z : Int} (h : BoxK w r b x y z) : BoxK w.drew r b x y z := ⟨h.ne, h.top, h.c0, h.c1, h.c2, h.f0, h.f1, h.f2⟩
theorem Z3.drew {w0 w : World} {b : Nat} (h : Z3 w0 w b) : Z3 w0 w.drew b := ⟨h.lo, h.lt, h.c0, h.c1, h.c2, h.f0, h.f1, h.f2, h.bel.drew⟩
end Go.Proofs.Ytljdnncodgnpcaa
