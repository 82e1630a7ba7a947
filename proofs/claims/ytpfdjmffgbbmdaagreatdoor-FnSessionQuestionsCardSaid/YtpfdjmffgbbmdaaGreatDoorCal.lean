/-
  What the functions of dates and weeks return, for every argument: the program's and the model's answer is the same plain number.
-/
import Derived.Test.YtpfdjmffgbbmdaaGreatDoorProg
import Derived.Test.YtpfdjmffgbbmdaaGreatDoorP1
import Derived.WalkKit
import Derived.Lib.Hide
import Derived.Deep.QuietTactic
import Derived.BigQuiet
import Derived.IntWalk
import Derived.WalkLawsBesides
namespace Go.Proofs.YtpfdjmffgbbmdaaGreatDoor
open Go.RowKit
set_option linter.unusedVariables false
theorem ret_int {k : IntKind} {a b : Int} (h : a = b) : Ending.returned (.int k a) = .returned (.int k b) := by rw [h]
theorem ret_bool {a b : Bool} (h : a = b) : Ending.returned (.bool a) = .returned (.bool b) := by rw [h]

/-- A number in a range. -/
def inR (n lo hi : Int) : Bool := decide (lo ≤ n ∧ n ≤ hi)
theorem inR_cases (n lo hi : Int) : (inR n lo hi = true ∧ lo ≤ n ∧ n ≤ hi) ∨ (inR n lo hi = false ∧ ¬ (lo ≤ n ∧ n ≤ hi)) := by
  by_cases h : lo ≤ n ∧ n ≤ hi
  · exact .inl ⟨by simp [inR, h], h⟩
  · exact .inr ⟨by simpa [inR] using h, h⟩
theorem inR_yes {n lo hi : Int} (h : lo ≤ n ∧ n ≤ hi) : inR n lo hi = true := by simp [inR, h]
theorem inR_no {n lo hi : Int} (h : ¬ (lo ≤ n ∧ n ≤ hi)) : inR n lo hi = false := by simpa [inR] using h
theorem inR_impl (n lo hi : Int) (w : World) : Calls Tryz.prog 33 #[.int .i64 n, .int .i64 lo, .int .i64 hi] w fun e w' => e = .returned (.bool (inR n lo hi)) ∧ w = w' := by
  by_cases h0 : lo ≤ n
  · by_cases h1 : n ≤ hi
    · rw [inR_yes ⟨h0, h1⟩]
      go_enter Tryz.func33, Tryz.ntmps33
      go_wp2
      go_ret
      exact ⟨rfl, rfl⟩
    · rw [inR_no (fun h => h1 h.2)]
      have h2 : decide (n ≤ hi) = false := by simpa using h1
      clear h1
      go_enter Tryz.func33, Tryz.ntmps33
      go_wp2
      go_ret
      exact ⟨rfl, rfl⟩
  · rw [inR_no (fun h => h0 h.1)]
    have h2 : decide (lo ≤ n) = false := by simpa using h0
    clear h0
    go_enter Tryz.func33, Tryz.ntmps33
    go_wp2
    go_ret
    exact ⟨rfl, rfl⟩
theorem inR_spec (n lo hi : Int) (w : World) : Calls Tryz.prog 39 #[.int .i64 n, .int .i64 lo, .int .i64 hi] w fun e w' => e = .returned (.bool (inR n lo hi)) ∧ w = w' := by
  by_cases h0 : lo ≤ n
  · by_cases h1 : n ≤ hi
    · rw [inR_yes ⟨h0, h1⟩]
      go_enter Tryz.func39, Tryz.ntmps39
      go_wp2
      go_ret
      exact ⟨rfl, rfl⟩
    · rw [inR_no (fun h => h1 h.2)]
      have h2 : decide (n ≤ hi) = false := by simpa using h1
      clear h1
      go_enter Tryz.func39, Tryz.ntmps39
      go_wp2
      go_ret
      exact ⟨rfl, rfl⟩
  · rw [inR_no (fun h => h0 h.1)]
    have h2 : decide (lo ≤ n) = false := by simpa using h0
    clear h0
    go_enter Tryz.func39, Tryz.ntmps39
    go_wp2
    go_ret
    exact ⟨rfl, rfl⟩
theorem gps_impl (d s : Int) (w : World) : Calls Tryz.prog 93 #[.int .i64 d, .int .i64 s] w fun e w' => e = .returned (.int .i64 (M.gps d s)) ∧ w = w' := by
  rcases inR_cases d 5 43829 with ⟨h0, a0⟩ | ⟨h0, a0⟩ <;> rcases inR_cases s 0 86399 with ⟨h1, a1⟩ | ⟨h1, a1⟩
  all_goals
    go_enter Tryz.func93, Tryz.ntmps93
    go_wp2_with (go_at_call 33; refine (inR_impl _ _ _ _).mono ?_; rintro e w' ⟨rfl, rfl⟩)
    go_ret
    exact ⟨ret_int (by unfold M.gps; split <;> omega), rfl⟩
theorem isLeap_impl (y : Int) (w : World) : Calls Tryz.prog 109 #[.int .i64 y] w fun e w' => e = .returned (.bool (M.isLeap y)) ∧ w = w' := by
  by_cases h0 : y < 1980
  · have e0 : M.isLeap y = false := by simp [M.isLeap]; omega
    rw [e0]
    go_enter Tryz.func109, Tryz.ntmps109
    go_wp2
    go_ret
    exact ⟨rfl, rfl⟩
  by_cases h1 : 2099 < y
  · have e0 : M.isLeap y = false := by simp [M.isLeap]; omega
    rw [e0]
    have h1d : decide (y ≤ 2099) = false := by simpa using h1
    go_enter Tryz.func109, Tryz.ntmps109
    go_wp2
    go_ret
    exact ⟨rfl, rfl⟩
  have h0' : 1980 ≤ y := by omega
  have h1' : y ≤ 2099 := by omega
  by_cases h2 : y % 4 = 0
  · have e0 : M.isLeap y = true := by simp [M.isLeap]; omega
    rw [e0]
    have b4 : (y % 4 == 0) = true := by simp [h2]
    by_cases h3 : y % 100 = 0
    · have b100 : (y % 100 != 0) = false := by simp [h3]
      have b400 : (y % 400 == 0) = true := by simp; omega
      clear h0 h1 h2 h3
      go_enter Tryz.func109, Tryz.ntmps109
      go_wp2
      go_ret
      exact ⟨rfl, rfl⟩
    · have b100 : (y % 100 != 0) = true := by simp [h3]
      clear h0 h1 h2 h3
      go_enter Tryz.func109, Tryz.ntmps109
      go_wp2
      go_ret
      exact ⟨rfl, rfl⟩
  · have e0 : M.isLeap y = false := by simp [M.isLeap]; omega
    rw [e0]
    have b4 : (y % 4 == 0) = false := by simp [h2]
    have b400 : (y % 400 == 0) = false := by simp; omega
    clear h0 h1 h2
    go_enter Tryz.func109, Tryz.ntmps109
    go_wp2
    go_ret
    exact ⟨rfl, rfl⟩
theorem mdays_impl (y m : Int) (w : World) : Calls Tryz.prog 87 #[.int .i64 y, .int .i64 m] w fun e w' => e = .returned (.int .i64 (M.mdays y m)) ∧ w = w' := by
  by_cases hb : (1980 ≤ y ∧ y ≤ 2099) ∧ 1 ≤ m ∧ m ≤ 12
  · obtain ⟨⟨h0, h1⟩, h2, h3⟩ := hb
    have e0 : M.mdays y m = M.dim y m := by simp [M.mdays, h0, h1, h2, h3]
    rw [e0]
    have hl := M.lp_eq y
    rcases M.months ⟨h2, h3⟩ with rfl | rfl | rfl | rfl | rfl | rfl | rfl | rfl | rfl | rfl | rfl | rfl
    case inr.inl =>
      rcases hl with ⟨h4, h5⟩ | ⟨h4, h5⟩
      · have e1 : M.isLeap y = true := by simp [M.isLeap]; omega
        have e2 : M.dim y 2 = 29 := by simp [M.dim]; omega
        rw [e2]
        have c := isLeap_impl y w
        rw [e1] at c
        have C := Lib.hid c
        clear c e1 e2 h2 h3 e0 h4 h5
        go_enter Tryz.func87, Tryz.ntmps87
        go_wp2_with (first | (go_at_call 109; refine C.out.mono ?_; rintro e w' ⟨rfl, rfl⟩) | (go_at_call 33; go_in))
        go_ret
        exact ⟨rfl, rfl⟩
      · have e1 : M.isLeap y = false := by simp [M.isLeap]; omega
        have e2 : M.dim y 2 = 28 := by simp [M.dim]; omega
        rw [e2]
        have c := isLeap_impl y w
        rw [e1] at c
        have C := Lib.hid c
        clear c e1 e2 h2 h3 e0 h4 h5
        go_enter Tryz.func87, Tryz.ntmps87
        go_wp2_with (first | (go_at_call 109; refine C.out.mono ?_; rintro e w' ⟨rfl, rfl⟩) | (go_at_call 33; go_in))
        go_ret
        exact ⟨rfl, rfl⟩
    all_goals
      clear hl e0
      go_enter Tryz.func87, Tryz.ntmps87
      go_wp2
      go_ret
      exact ⟨ret_int (by simp [M.dim]), rfl⟩
  · have e0 : M.mdays y m = -1 := by simp [M.mdays]; omega
    rw [e0]
    by_cases h0 : 1980 ≤ y
    · by_cases h1 : y ≤ 2099
      · by_cases h2 : 1 ≤ m
        · have h3 : decide (m ≤ 12) = false := by simp; omega
          clear hb e0
          go_enter Tryz.func87, Tryz.ntmps87
          go_wp2
          go_ret
          exact ⟨rfl, rfl⟩
        · have h3 : decide (1 ≤ m) = false := by simpa using h2
          clear hb e0 h2
          go_enter Tryz.func87, Tryz.ntmps87
          go_wp2
          go_ret
          exact ⟨rfl, rfl⟩
      · have h3 : decide (y ≤ 2099) = false := by simpa using h1
        clear hb e0 h1
        go_enter Tryz.func87, Tryz.ntmps87
        go_wp2
        go_ret
        exact ⟨rfl, rfl⟩
    · have h3 : decide (1980 ≤ y) = false := by simpa using h0
      clear hb e0 h0
      go_enter Tryz.func87, Tryz.ntmps87
      go_wp2
      go_ret
      exact ⟨rfl, rfl⟩
end Go.Proofs.YtpfdjmffgbbmdaaGreatDoor
