/-
  The generators of smears (chapter 12): numbers of moderate size, and nothing that was there has changed. Condition: the code has at most 1048576 bytes.
-/
import Derived.Test.YtealpfkandgjdaaDrawN
namespace Go.Proofs.Ytealpfkandgjdaa
open Go.RowKit
set_option linter.unusedVariables false
set_option maxRecDepth 100000
theorem leapAt_any (B r m : Nat) (w : World) (h : Rdr B w r m) (hm : m ≤ 100000) : Calls Try.prog 22 #[.pointer (some ⟨r, 0, none⟩)] w (Num B w r (m + 2) (-10000000000) 10000000000) := by
  go_enter Try.func22, Try.ntmps22
  go_wp2_with fail
  refine (pick_any B r _ _ _ h (by omega)).mono ?_
  rintro e w1 ⟨k1, rfl, a1, b1, st1⟩
  have c1 : k1 ≤ 250 := by omega
  clear b1
  go_wp2_with fail
  refine (one_any B r _ _ _ _ (-10000000000) 10000000000 _ (st1.rdr.alloc _ _) (by omega) (by omega) (by omega) (by have := st1.rdr.top; omega) ?_).mono ?_
  · exact made_cells _ _ _ _ _ _ rfl (by simp [Ints] <;> omega)
  rintro e w3 ⟨z3, rfl, x3, y3, bl3, rd3, fr3⟩
  go_wp2
  go_ret
  exact ⟨z3, rfl, x3, y3, (st1.bel.alloc st1.rdr.le _).trans bl3, rd3, (st1.far.alloc _).trans fr3⟩
theorem DrawSmearAt_any (w : World) (a : Option Addr) (len cap : Nat) (h : Code w a len) (hcap : len ≤ cap) : Calls Try.prog 12 #[.slice a len cap] w (FromN2 w) := by
  go_enter Try.func12, Try.ntmps12
  go_wp2_with fail
  refine (newReader_any w a len cap h hcap).mono ?_
  rintro e w0 ⟨rfl, bl0, rd0⟩
  go_wp2_with fail
  refine (leapAt_any _ _ _ _ rd0 (by omega)).mono ?_
  rintro e w1 ⟨z1, rfl, x1, y1, bl1, rd1, fr1⟩
  go_wp2_with fail
  refine (pick_any _ _ _ _ _ rd1 (by omega)).mono ?_
  rintro e w2 ⟨k2, rfl, a2, b2, st2⟩
  have c2 : k2 ≤ 250 := by omega
  clear b2
  go_wp2_with fail
  refine (one_any _ _ _ _ _ _ (-1000000000000) 1000000000000 _ (st2.rdr.alloc _ _) (by omega) (by omega) (by omega) (by have := st2.rdr.top; omega) ?_).mono ?_
  · exact made_cells _ _ _ _ _ _ rfl (by simp [Ints] <;> omega)
  rintro e w3 ⟨z3, rfl, x3, y3, bl3, rd3, fr3⟩
  go_wp2
  go_ret2
  exact ⟨z1, _, rfl, ⟨by omega, by omega⟩, ⟨by omega, by omega⟩, (((bl0.trans bl1).trans st2.bel).alloc st2.rdr.le _).trans bl3⟩
theorem DrawSmearedStamp_any (w : World) (a : Option Addr) (len cap : Nat) (h : Code w a len) (hcap : len ≤ cap) : Calls Try.prog 15 #[.slice a len cap] w (FromN2 w) := by
  go_enter Try.func15, Try.ntmps15
  go_wp2_with fail
  refine (DrawSmearAt_any w a len cap h hcap).mono ?_
  rintro e w0 ⟨y, z, rfl, hy, hz, bl⟩
  go_wp2
  go_ret2
  exact ⟨y, z, rfl, hy, hz, bl⟩
theorem DrawSmearDone_any (w : World) (a : Option Addr) (len cap : Nat) (h : Code w a len) (hcap : len ≤ cap) : Calls Try.prog 18 #[.slice a len cap] w (FromN2 w) := by
  go_enter Try.func18, Try.ntmps18
  go_wp2_with fail
  refine (newReader_any w a len cap h hcap).mono ?_
  rintro e w0 ⟨rfl, bl0, rd0⟩
  go_wp2_with fail
  refine (leapAt_any _ _ _ _ rd0 (by omega)).mono ?_
  rintro e w1 ⟨z1, rfl, x1, y1, bl1, rd1, fr1⟩
  go_wp2_with fail
  refine (pick_any _ _ _ _ _ rd1 (by omega)).mono ?_
  rintro e w2 ⟨k2, rfl, a2, b2, st2⟩
  have c2 : k2 ≤ 250 := by omega
  clear b2
  go_wp2_with fail
  refine (one_any _ _ _ _ _ _ (-1000000000000) 1000000000000 _ (st2.rdr.alloc _ _) (by omega) (by omega) (by omega) (by have := st2.rdr.top; omega) ?_).mono ?_
  · exact made_cells _ _ _ _ _ _ rfl (by simp [Ints] <;> omega)
  rintro e w3 ⟨z3, rfl, x3, y3, bl3, rd3, fr3⟩
  go_wp2
  go_ret2
  exact ⟨z1, _, rfl, ⟨by omega, by omega⟩, ⟨by omega, by omega⟩, (((bl0.trans bl1).trans st2.bel).alloc st2.rdr.le _).trans bl3⟩
end Go.Proofs.Ytealpfkandgjdaa
