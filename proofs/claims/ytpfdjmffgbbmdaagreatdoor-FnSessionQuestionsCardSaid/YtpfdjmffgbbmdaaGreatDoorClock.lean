/-
  Clocks (chapter 7): rounding down, limits, what is valid, the offset at a time; the program's and the model's functions.
-/
import Derived.Test.YtpfdjmffgbbmdaaGreatDoorP3
import Derived.Test.YtpfdjmffgbbmdaaGreatDoorP1
import Derived.Deep.RegionHeld3
import Derived.Deep.RegionWith
import Derived.Below
namespace Go.Proofs.YtpfdjmffgbbmdaaGreatDoor
open Go.RowKit
set_option linter.unusedVariables false
set_option maxRecDepth 100000
/-- Three numbers in a block of their own. -/
structure C3 (w : World) (D : Nat) (x y z : Int) : Prop where
  c0 : w.cell? ⟨D, 0, none⟩ = some (.int .i64 x)
  c1 : w.cell? ⟨D, 1, none⟩ = some (.int .i64 y)
  c2 : w.cell? ⟨D, 2, none⟩ = some (.int .i64 z)
  lt : D < w.heap.size
theorem C3.b {w w' : World} {D : Nat} {x y z : Int} (h : C3 w D x y z) (hb : Below w.heap.size w w') : C3 w' D x y z := ⟨(hb.cell (p := ⟨D, 0, none⟩) h.lt).trans h.c0, (hb.cell (p := ⟨D, 1, none⟩) h.lt).trans h.c1, (hb.cell (p := ⟨D, 2, none⟩) h.lt).trans h.c2, Nat.lt_of_lt_of_le h.lt hb.size⟩
theorem C3.al {w : World} {D : Nat} {x y z : Int} (h : C3 w D x y z) (o : Obj) : C3 (w.alloc o) D x y z := h.b ((Below.refl _ _).alloc (Nat.le_refl _) o)
theorem C3.dr {w : World} {D : Nat} {x y z : Int} (h : C3 w D x y z) (k : Nat) : C3 (w.drewN k) D x y z := ⟨h.c0, h.c1, h.c2, h.lt⟩
theorem C3.new (w : World) (x y z : Int) (t : TypeId) : C3 (w.alloc (.cells #[.int .i64 x, .int .i64 y, .int .i64 z] t)) w.heap.size x y z := ⟨by simp, by simp, by simp, by simp⟩
theorem keepC {w0 w1 w2 : World} {D : Nat} {x y z : Int} (b : Below w1.heap.size w1 w2) (h : Below w0.heap.size w0 w1 ∧ D < w1.heap.size ∧ w1.cell? ⟨D, 0, none⟩ = some (.int .i64 x) ∧ w1.cell? ⟨D, 1, none⟩ = some (.int .i64 y) ∧ w1.cell? ⟨D, 2, none⟩ = some (.int .i64 z)) :
    Below w0.heap.size w0 w2 ∧ D < w2.heap.size ∧ w2.cell? ⟨D, 0, none⟩ = some (.int .i64 x) ∧ w2.cell? ⟨D, 1, none⟩ = some (.int .i64 y) ∧ w2.cell? ⟨D, 2, none⟩ = some (.int .i64 z) :=
  ⟨h.1.trans (b.mono h.1.size), Nat.lt_of_lt_of_le h.2.1 b.size, (b.cell (p := ⟨D, 0, none⟩) h.2.1).trans h.2.2.1, (b.cell (p := ⟨D, 1, none⟩) h.2.1).trans h.2.2.2.1, (b.cell (p := ⟨D, 2, none⟩) h.2.1).trans h.2.2.2.2⟩
end Go.Proofs.YtpfdjmffgbbmdaaGreatDoor
