/-
  What the functions of dates and weeks return, for every argument: the program's and the model's answer is the same plain number.
-/
import Derived.Test.YtgbbbmljanlogaaProg
import Derived.Test.YtgbbbmljanlogaaMath
import Derived.WalkKit
import Derived.Lib.Hide
import Derived.Deep.QuietTactic
import Derived.BigQuiet
import Derived.IntWalk
import Derived.WalkLawsBesides
namespace Go.Proofs.Ytgbbbmljanlogaa
open Go.RowKit
set_option linter.unusedVariables false
theorem ret_int {k : IntKind} {a b : Int} (h : a = b) : Ending.returned (.int k a) = .returned (.int k b) := by rw [h]
theorem ret_bool {a b : Bool} (h : a = b) : Ending.returned (.bool a) = .returned (.bool b) := by rw [h]

/-- A number in a range. -/
def inR (n lo hi : Int) : Bool := decide (lo ≤ n ∧ n ≤ hi)
theorem inR_cases (n lo hi : Int) : (inR n lo hi = true ∧ lo ≤ n ∧ n ≤ hi) ∨ (inR n lo hi = false ∧ ¬ (lo ≤ n ∧ n ≤ hi)) := by
  by_cases h : lo ≤ n ∧ n ≤ hi
  · exact .inl ⟨by simp [inR, h], h⟩
  · exact .inr ⟨by simpa [inR] using h, h⟩
theorem inR_yes {n lo hi : Int} (h : lo ≤ n ∧ n ≤ hi) : inR n lo hi = true := by simp [inR, h]
theorem inR_no {n lo hi : Int} (h : ¬ (lo ≤ n ∧ n ≤ hi)) : inR n lo hi = false := by simpa [inR] using h
theorem inR_impl (n lo hi : Int) (w : World) : Calls Try.prog 43 #[.int .i64 n, .int .i64 lo, .int .i64 hi] w fun e w' => e = .returned (.bool (inR n lo hi)) ∧ w = w' := by
  by_cases h0 : lo ≤ n
  · by_cases h1 : n ≤ hi
    · rw [inR_yes ⟨h0, h1⟩]
      go_enter Try.func43, Try.ntmps43
      go_wp2
      go_ret
      exact ⟨rfl, rfl⟩
    · rw [inR_no (fun h => h1 h.2)]
      have h2 : decide (n ≤ hi) = false := by simpa using h1
      clear h1
      go_enter Try.func43, Try.ntmps43
      go_wp2
      go_ret
      exact ⟨rfl, rfl⟩
  · rw [inR_no (fun h => h0 h.1)]
    have h2 : decide (lo ≤ n) = false := by simpa using h0
    clear h0
    go_enter Try.func43, Try.ntmps43
    go_wp2
    go_ret
    exact ⟨rfl, rfl⟩
theorem inR_spec (n lo hi : Int) (w : World) : Calls Try.prog 44 #[.int .i64 n, .int .i64 lo, .int .i64 hi] w fun e w' => e = .returned (.bool (inR n lo hi)) ∧ w = w' := by
  by_cases h0 : lo ≤ n
  · by_cases h1 : n ≤ hi
    · rw [inR_yes ⟨h0, h1⟩]
      go_enter Try.func44, Try.ntmps44
      go_wp2
      go_ret
      exact ⟨rfl, rfl⟩
    · rw [inR_no (fun h => h1 h.2)]
      have h2 : decide (n ≤ hi) = false := by simpa using h1
      clear h1
      go_enter Try.func44, Try.ntmps44
      go_wp2
      go_ret
      exact ⟨rfl, rfl⟩
  · rw [inR_no (fun h => h0 h.1)]
    have h2 : decide (lo ≤ n) = false := by simpa using h0
    clear h0
    go_enter Try.func44, Try.ntmps44
    go_wp2
    go_ret
    exact ⟨rfl, rfl⟩
end Go.Proofs.Ytgbbbmljanlogaa
