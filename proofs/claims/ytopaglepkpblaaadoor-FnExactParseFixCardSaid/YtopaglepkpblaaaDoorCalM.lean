/-
  What the functions of dates return that use memory of their own: months, days and dates. The program's and the model's answer is the same plain number; what was there is as it was.
-/
import Derived.Test.YtopaglepkpblaaaDoorCal
import Derived.Deep.RegionHeld3
namespace Go.Proofs.YtopaglepkpblaaaDoor
open Go.RowKit
set_option linter.unusedVariables false
/-- A quiet callee, in a region that draws its order. -/
theorem qs {P : Program} {f : FuncId} {args : Array Value} {w : World} {n : Nat} {v : Value} (h : ∀ w', Calls P f args w' fun e w'' => e = .returned v ∧ w' = w'') :
    Calls P f args (w.drewN n) fun e w'' => e = .returned v ∧ ∃ m, w'' = w.drewN m := Calls.quiet_of_same ((h _).mono fun _ _ ⟨a, b⟩ => ⟨a, b.symm⟩)
theorem leap_spec (y : Int) (w : World) (h0 : 1980 ≤ y) (h1 : y ≤ 2099) : Calls Tryd.prog 77 #[.int .i64 y] w fun e w' => e = .returned (.bool (M.leapB y)) ∧ w = w' := by
  by_cases h2 : y % 4 = 0
  · have e0 : M.leapB y = true := by simp [M.leapB, h2]
    rw [e0]
    have b4 : (y % 4 == 0) = true := by simp [h2]
    by_cases h3 : y % 100 = 0
    · have b100 : (y % 100 != 0) = false := by simp [h3]
      have b400 : (y % 400 == 0) = true := by simp; omega
      clear h2 h3
      go_enter Tryd.func77, Tryd.ntmps77
      go_wp2
      go_ret
      exact ⟨rfl, rfl⟩
    · have b100 : (y % 100 != 0) = true := by simp [h3]
      clear h2 h3
      go_enter Tryd.func77, Tryd.ntmps77
      go_wp2
      go_ret
      exact ⟨rfl, rfl⟩
  · have e0 : M.leapB y = false := by simp [M.leapB, h2]
    rw [e0]
    have b4 : (y % 4 == 0) = false := by simp [h2]
    have b400 : (y % 400 == 0) = false := by simp; omega
    clear h2
    go_enter Tryd.func77, Tryd.ntmps77
    go_wp2
    go_ret
    exact ⟨rfl, rfl⟩
set_option maxHeartbeats 2000000 in
/-- The days of a month, and new memory alone. -/
theorem dim_spec (y m : Int) (w : World) (h0 : 1980 ≤ y) (h1 : y ≤ 2099) (m0 : 1 ≤ m) (m1 : m ≤ 12) : Calls Tryd.prog 69 #[.int .i64 y, .int .i64 m] w fun e w' => e = .returned (.int .i64 (M.dim y m)) ∧ ∃ o, w' = w.alloc o := by
  rcases M.months ⟨m0, m1⟩ with rfl | rfl | rfl | rfl | rfl | rfl | rfl | rfl | rfl | rfl | rfl | rfl
  case inr.inl =>
    rcases M.lp_eq y with ⟨h2, h3⟩ | ⟨h2, h3⟩
    · have c := fun w' => leap_spec y w' h0 h1
      have e1 : M.leapB y = true := by simp [M.leapB, h2]
      have e2 : M.dim y 2 = 29 := by simp [M.dim]; omega
      rw [e1] at c
      rw [e2]
      have C := Lib.hid c
      clear c e1 e2 h2 h3
      go_enter Tryd.func69, Tryd.ntmps69
      go_wp2_with (go_at_call 77; refine (C.out _).mono ?_; rintro e w' ⟨rfl, rfl⟩)
      go_ret
      exact ⟨rfl, _, rfl⟩
    · have c := fun w' => leap_spec y w' h0 h1
      have e1 : M.leapB y = false := by simp [M.leapB, h2]
      have e2 : M.dim y 2 = 28 := by simp [M.dim]; omega
      rw [e1] at c
      rw [e2]
      have C := Lib.hid c
      clear c e1 e2 h2 h3
      go_enter Tryd.func69, Tryd.ntmps69
      go_wp2_with (go_at_call 77; refine (C.out _).mono ?_; rintro e w' ⟨rfl, rfl⟩)
      go_ret
      exact ⟨rfl, _, rfl⟩
  all_goals
    go_enter Tryd.func69, Tryd.ntmps69
    go_wp2
    go_ret
    exact ⟨ret_int (by simp [M.dim]), _, rfl⟩
theorem march_impl (y m : Int) (w : World) (h : -100000 ≤ y ∧ y ≤ 100000) (h' : 1 ≤ m ∧ m ≤ 12) : Calls Tryd.prog 61 #[.int .i64 y, .int .i64 m] w fun e w' => e = .returned (.tuple #[.int .i64 (if m < 3 then y - 1 else y), .int .i64 (if m < 3 then m + 9 else m - 3)]) ∧ w = w' := by
  by_cases h3 : m < 3
  · rw [if_pos h3, if_pos h3]
    go_enter Tryd.func61, Tryd.ntmps61
    go_wp2
    go_ret2
    exact ⟨rfl, rfl⟩
  · rw [if_neg h3, if_neg h3]
    go_enter Tryd.func61, Tryd.ntmps61
    go_wp2
    go_ret2
    exact ⟨rfl, rfl⟩
theorem dby_impl (y : Int) (w : World) (h : 0 ≤ y ∧ y ≤ 400) : Calls Tryd.prog 62 #[.int .i64 y] w fun e w' => e = .returned (.int .i64 (365 * y + y / 4 - y / 100)) ∧ w = w' := by
  go_enter Tryd.func62, Tryd.ntmps62
  go_wp2
  go_ret
  exact ⟨rfl, rfl⟩
theorem dbm_impl (m : Int) (w : World) (h : 0 ≤ m ∧ m ≤ 12) : Calls Tryd.prog 63 #[.int .i64 m] w fun e w' => e = .returned (.int .i64 ((153 * m + 2) / 5)) ∧ w = w' := by
  go_enter Tryd.func63, Tryd.ntmps63
  go_wp2
  go_ret
  exact ⟨rfl, rfl⟩
theorem dayOf_impl_no (y m d : Int) (w : World) (h : inR d 1 (M.mdays y m) = false) : Calls Tryd.prog 37 #[.agg #[.int .i64 y, .int .i64 m, .int .i64 d]] w fun e w' => e = .returned (.int .i64 (-1)) ∧ Below w.heap.size w w' := by
  go_enter Tryd.func37, Tryd.ntmps37
  go_wp2_with fail
  go_quiet ((first | (go_at_call 60; exact qs (mdays_impl _ _)) | (go_at_call 38; exact qs (inR_impl _ _ _))))
  go_wp2
  go_ret
  exact ⟨rfl, below_drewN ((Below.refl _ _).alloc (Nat.le_refl _) _) _⟩
end Go.Proofs.YtopaglepkpblaaaDoor
