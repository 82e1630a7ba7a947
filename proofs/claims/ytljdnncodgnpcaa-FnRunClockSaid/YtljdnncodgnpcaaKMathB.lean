/-
  The plain mathematics of clocks: what the laws say.
-/
import Derived.Test.YtljdnncodgnpcaaKMath
namespace Go.Proofs.Ytljdnncodgnpcaa.K
set_option linter.unusedVariables false
theorem off_self (o r a : Int) : off o r a a = o := by unfold off; simp
theorem told_self {o r a : Int} (h : vc o r a = true) : told o r a a = true := told_yes ⟨h, by omega, (last_bd h).1⟩
theorem off_step (o r a t : Int) : off o r a (t + 1000) = off o r a t + r := by
  unfold off
  have e : r * (t + 1000 - a) = r * (t - a) + r * 1000 := by rw [← Int.mul_add]; congr 1; omega
  rw [e, Int.add_mul_ediv_right _ _ (by omega)]
  omega
theorem off_flat (o a t : Int) : off o 0 a t = o := by unfold off; simp
theorem vc_flat {o r a : Int} (h : vc o r a = true) : vc o 0 a = true := by have := vc_of h; exact vc_yes ⟨by omega, by omega, by omega⟩
theorem told_flat {o r a t : Int} (h : told o r a t = true) : told o 0 a t = true := by obtain ⟨h1, h2, h3⟩ := told_of h; exact told_yes ⟨vc_flat h1, h2, h3⟩
theorem off_up {o r a t : Int} (h : 0 ≤ r) : off o r a t ≤ off o r a (t + 1) := by
  unfold off
  have e : r * (t + 1 - a) = r * (t - a) + r := by rw [show t + 1 - a = (t - a) + 1 by omega, Int.mul_add, Int.mul_one]
  have := Int.ediv_le_ediv (a := r * (t - a)) (b := r * (t + 1 - a)) (c := 1000) (by omega) (by omega)
  omega
theorem off_down {o r a t : Int} (h : r ≤ 0) : off o r a (t + 1) ≤ off o r a t := by
  unfold off
  have e : r * (t + 1 - a) = r * (t - a) + r := by rw [show t + 1 - a = (t - a) + 1 by omega, Int.mul_add, Int.mul_one]
  have := Int.ediv_le_ediv (a := r * (t + 1 - a)) (b := r * (t - a)) (c := 1000) (by omega) (by omega)
  omega
theorem off_even {o r a t : Int} (h : r.tmod 1000 = 0) : off o r a t = o + r.tdiv 1000 * (t - a) := by
  have h1 := Int.mul_tdiv_add_tmod r 1000
  unfold off
  have e : r * (t - a) = r.tdiv 1000 * (t - a) * 1000 := by
    have : r = r.tdiv 1000 * 1000 := by omega
    rw [Int.mul_assoc, Int.mul_comm (t - a) 1000, ← Int.mul_assoc, ← this]
  rw [e, Int.mul_ediv_cancel _ (by omega)]
theorem lim_near {n m x : Int} (hn : -m ≤ n ∧ n ≤ m) (hm : 0 ≤ m) : abs (n - lim (n - x) m) ≤ abs x := by
  unfold abs lim
  split <;> split <;> omega
theorem abs_div4 (x : Int) : abs (x / 4) ≤ abs x / 4 + 1 := by
  unfold abs
  split <;> split <;> omega
/-- A small correction moves the offset by a quarter at most. -/
theorem co_near {n x : Int} (hn : -1000000 ≤ n ∧ n ≤ 1000000) (h : ¬ 128000 < abs x) : abs (n - co n x) ≤ abs x / 4 + 1 := by
  have h1 := lim_near (x := x / 4) hn (by omega)
  have h2 := abs_div4 x
  rw [show co n x = lim (n - x / 4) 1000000 from if_neg h]
  omega
theorem co_zero (n : Int) : co n 0 = lim n 1000000 := by
  rw [show co n 0 = lim (n - 0 / 4) 1000000 from if_neg (by unfold abs; simp)]
  simp
theorem cr_zero {r : Int} (h : -500000 ≤ r ∧ r ≤ 500000) : cr r 0 = r := by
  rw [show cr r 0 = lim (r - 0 * 1000 / 4096) 500000 from if_neg (by unfold abs; simp)]
  unfold lim
  omega
theorem cr_side {r x : Int} (hr : -500000 ≤ r ∧ r ≤ 500000) (h : ¬ 128000 < abs x) : (0 ≤ x → cr r x ≤ r) ∧ (x ≤ 0 → r ≤ cr r x) := by
  rw [show cr r x = lim (r - x * 1000 / 4096) 500000 from if_neg h]
  unfold lim
  constructor <;> intro <;> omega
theorem co_rest {n : Int} (hn : -1000000 ≤ n ∧ n ≤ 1000000) : abs (co n n) ≤ abs n := by
  unfold co
  split
  · unfold lim abs; split <;> split <;> omega
  · unfold lim abs; split <;> split <;> omega
end Go.Proofs.Ytljdnncodgnpcaa.K
