/-
  The generators of time stamps (chapter 10): numbers of moderate size, and nothing that was there has changed. Condition: the code has at most 1048576 bytes.
-/
import Derived.Test.YtegkmdinnkbkiaaDraw
namespace Go.Proofs.Ytegkmdinnkbkiaa
open Go.RowKit
set_option linter.unusedVariables false
set_option maxRecDepth 100000
/-- A number that was drawn, of moderate size. -/
abbrev DrawnN (B : Nat) (w : World) (r m : Nat) : Ending → World → Prop := Num B w r m (-1000000000000000) 1000000000000000
def FromN1 (w : World) (e : Ending) (w' : World) : Prop := ∃ z : Int, e = .returned (.int .i64 z) ∧ (-1000000000000000 ≤ z ∧ z ≤ 1000000000000000) ∧ Below w.heap.size w w'
def FromN2 (w : World) (e : Ending) (w' : World) : Prop := ∃ y z : Int, e = .returned (.tuple #[.int .i64 y, .int .i64 z]) ∧ (-1000000000000000 ≤ y ∧ y ≤ 1000000000000000) ∧ (-1000000000000000 ≤ z ∧ z ≤ 1000000000000000) ∧ Below w.heap.size w w'
theorem someStamp_any (B r m : Nat) (w : World) (h : Rdr B w r m) (hm : m ≤ 100000) : Calls Try.prog 28 #[.pointer (some ⟨r, 0, none⟩)] w (DrawnN B w r (m + 3)) := by
  go_enter Try.func28, Try.ntmps28
  go_wp2_with fail
  refine (pick_any B r _ _ _ h (by omega)).mono ?_
  rintro e w1 ⟨k1, rfl, a1, b1, st1⟩
  have c1 : k1 ≤ 250 := by omega
  clear b1
  go_wp2_with fail
  refine (pick_any B r _ _ _ st1.rdr (by omega)).mono ?_
  rintro e w2 ⟨k2, rfl, a2, b2, st2⟩
  have c2 : k2 ≤ 250 := by omega
  clear b2
  go_wp2_with fail
  refine (one_any B r _ _ _ _ (-1000000000000000) 1000000000000000 _ (st2.rdr.alloc _ _) (by omega) (by omega) (by omega) (by have := st2.rdr.top; omega) ?_).mono ?_
  · exact made_cells _ _ _ _ _ _ rfl (by simp [Ints] <;> omega)
  rintro e w3 ⟨z3, rfl, x3, y3, bl3, rd3, fr3⟩
  go_wp2
  go_ret
  exact ⟨z3, rfl, x3, y3, ((st1.bel.trans st2.bel).alloc st2.rdr.le _).trans bl3, rd3, ((st1.far.trans st2.far).alloc _).trans fr3⟩
end Go.Proofs.Ytegkmdinnkbkiaa
