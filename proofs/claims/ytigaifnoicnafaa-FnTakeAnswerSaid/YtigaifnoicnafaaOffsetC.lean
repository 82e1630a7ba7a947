/-
  Spans of questions (chapter 11): the program's and the model's functions.
-/
import Derived.Test.YtigaifnoicnafaaOffsetB
namespace Go.Proofs.Ytigaifnoicnafaa
open Go.RowKit
set_option linter.unusedVariables false
set_option maxRecDepth 100000
/-- A result of two numbers at w's end, and an exchange at D. -/
structure XS (w wr : World) (D : Nat) (y0 y1 x0 x1 x2 x3 : Int) : Prop where
  z0 : wr.cell? ⟨w.heap.size, 0, none⟩ = some (.int .i64 y0)
  z1 : wr.cell? ⟨w.heap.size, 1, none⟩ = some (.int .i64 y1)
  g0 : wr.frozen? ⟨w.heap.size, 0, none⟩ = false
  g1 : wr.frozen? ⟨w.heap.size, 1, none⟩ = false
  c0 : wr.cell? ⟨D, 0, none⟩ = some (.int .i64 x0)
  c1 : wr.cell? ⟨D, 1, none⟩ = some (.int .i64 x1)
  c2 : wr.cell? ⟨D, 2, none⟩ = some (.int .i64 x2)
  c3 : wr.cell? ⟨D, 3, none⟩ = some (.int .i64 x3)
  lt : w.heap.size < wr.heap.size
  ltD : D < wr.heap.size
  bel : Below w.heap.size w wr
theorem XS.b {w wr w' : World} {D : Nat} {y0 y1 x0 x1 x2 x3 : Int} (h : XS w wr D y0 y1 x0 x1 x2 x3) (q : Below wr.heap.size wr w') : XS w w' D y0 y1 x0 x1 x2 x3 :=
  ⟨(q.cell (p := ⟨w.heap.size, 0, none⟩) h.lt).trans h.z0, (q.cell (p := ⟨w.heap.size, 1, none⟩) h.lt).trans h.z1, (q.frozen (p := ⟨w.heap.size, 0, none⟩) h.lt).trans h.g0, (q.frozen (p := ⟨w.heap.size, 1, none⟩) h.lt).trans h.g1,
    (q.cell (p := ⟨D, 0, none⟩) h.ltD).trans h.c0, (q.cell (p := ⟨D, 1, none⟩) h.ltD).trans h.c1, (q.cell (p := ⟨D, 2, none⟩) h.ltD).trans h.c2, (q.cell (p := ⟨D, 3, none⟩) h.ltD).trans h.c3, Nat.lt_of_lt_of_le h.lt q.size, Nat.lt_of_lt_of_le h.ltD q.size, h.bel.trans (q.mono h.bel.size)⟩
theorem XS.al {w wr : World} {D : Nat} {y0 y1 x0 x1 x2 x3 : Int} (h : XS w wr D y0 y1 x0 x1 x2 x3) (o : Obj) : XS w (wr.alloc o) D y0 y1 x0 x1 x2 x3 := h.b ((Below.refl _ _).alloc (Nat.le_refl _) o)
theorem XS.drew {w wr : World} {D : Nat} {y0 y1 x0 x1 x2 x3 : Int} (h : XS w wr D y0 y1 x0 x1 x2 x3) : XS w wr.drew D y0 y1 x0 x1 x2 x3 := ⟨h.z0, h.z1, h.g0, h.g1, h.c0, h.c1, h.c2, h.c3, h.lt, h.ltD, h.bel.drew⟩
theorem XS.fin {w wr : World} {D : Nat} {y0 y1 x0 x1 x2 x3 : Int} (h : XS w wr D y0 y1 x0 x1 x2 x3) (u v : Value) : Below w.heap.size w ((wr.setCell ⟨w.heap.size, 0, none⟩ u).setCell ⟨w.heap.size, 1, none⟩ v) :=
  (h.bel.setCell (p := ⟨w.heap.size, 0, none⟩) (Nat.le_refl _) _).setCell (p := ⟨w.heap.size, 1, none⟩) (Nat.le_refl _) _
theorem XS.new {w w1 : World} {u v : Int} {t t' : TypeId} (x0 x1 x2 x3 : Int) (b : Below (w.heap.size + 1) (w.alloc (Obj.cells #[.int .i64 u, .int .i64 v] t)) w1) (hs : w.heap.size < w1.heap.size) : XS w (w1.alloc (.cells #[.int .i64 x0, .int .i64 x1, .int .i64 x2, .int .i64 x3] t')) w1.heap.size u v x0 x1 x2 x3 := by
  obtain ⟨a0, a1, a2, a3⟩ := two_below b
  have b2 : Below w.heap.size w w1 := ((Below.refl _ _).alloc (Nat.le_refl _) _).trans (b.mono (by omega))
  have b3 := b2.alloc b2.size (.cells #[.int .i64 x0, .int .i64 x1, .int .i64 x2, .int .i64 x3] t')
  have q : Below w1.heap.size w1 (w1.alloc (.cells #[.int .i64 x0, .int .i64 x1, .int .i64 x2, .int .i64 x3] t')) := (Below.refl _ _).alloc (Nat.le_refl _) _
  exact ⟨(q.cell (p := ⟨w.heap.size, 0, none⟩) hs).trans a0, (q.cell (p := ⟨w.heap.size, 1, none⟩) hs).trans a1, (q.frozen (p := ⟨w.heap.size, 0, none⟩) hs).trans a2, (q.frozen (p := ⟨w.heap.size, 1, none⟩) hs).trans a3, by simp, by simp, by simp, by simp, by simp; omega, by simp, b3⟩
theorem spansOne (w : World) (x y : Int) (t : TypeId) : Sps (w.alloc (.cells #[.int .i64 x, .int .i64 y] t)).heap.size (w.alloc (.cells #[.int .i64 x, .int .i64 y] t)) (some ⟨w.heap.size, 0, none⟩) 1 [(x, y)] :=
  by
  refine ⟨rfl, by omega, .inr ⟨w.heap.size, 0, rfl, by simp, fun i hi => ?_⟩⟩
  obtain rfl : i = 0 := by omega
  exact ⟨by simp [V.lo], by simp [V.hi]⟩
end Go.Proofs.Ytigaifnoicnafaa
