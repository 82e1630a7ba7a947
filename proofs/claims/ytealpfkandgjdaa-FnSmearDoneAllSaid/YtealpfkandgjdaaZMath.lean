/-
  The plain mathematics of smears (chapter 12).
-/
import Derived.IntWalk
namespace Go.Proofs.Ytealpfkandgjdaa.Z
set_option linter.unusedVariables false
def va (a : Int) : Bool := decide (86400 ≤ a ∧ a ≤ 3786393599)
theorem va_of {a : Int} (h : va a = true) : 86400 ≤ a ∧ a ≤ 3786393599 := of_decide_eq_true h
theorem va_yes {a : Int} (h : 86400 ≤ a ∧ a ≤ 3786393599) : va a = true := decide_eq_true h
theorem va_no {a : Int} (h : ¬ (86400 ≤ a ∧ a ≤ 3786393599)) : va a = false := decide_eq_false h
/-- Both numbers are in their ranges: a leap second, and a time up to m. -/
def ok (m a t : Int) : Bool := decide ((86400 ≤ a ∧ a ≤ 3786393599) ∧ 0 ≤ t ∧ t ≤ m)
theorem ok_of {m a t : Int} (h : ok m a t = true) : (86400 ≤ a ∧ a ≤ 3786393599) ∧ 0 ≤ t ∧ t ≤ m := of_decide_eq_true h
theorem ok_yes {m a t : Int} (h : (86400 ≤ a ∧ a ≤ 3786393599) ∧ 0 ≤ t ∧ t ≤ m) : ok m a t = true := decide_eq_true h
theorem ok_no {m a t : Int} (h : ¬ ((86400 ≤ a ∧ a ≤ 3786393599) ∧ 0 ≤ t ∧ t ≤ m)) : ok m a t = false := decide_eq_false h
/-- What is held back. -/
def hb (a t : Int) : Int := max 0 (min (t - (a - 43200)) 86400) * 1000000 / 86400
theorem hb_bd (a t : Int) : 0 ≤ hb a t ∧ hb a t ≤ 1000000 := by unfold hb; omega
theorem hb_low {a t : Int} (h : t - (a - 43200) ≤ 0) : hb a t = 0 := by unfold hb; omega
theorem hb_high {a t : Int} (h : 86400 ≤ t - (a - 43200)) : hb a t = 1000000 := by unfold hb; omega
theorem hb_mid {a t : Int} (h : 0 ≤ t - (a - 43200)) (h' : t - (a - 43200) ≤ 86400) : hb a t = (t - (a - 43200)) * 1000000 / 86400 := by
  unfold hb; rw [Int.min_eq_left h', Int.max_eq_right h]
theorem hb_next (a t : Int) : hb a t ≤ hb a (t + 1) ∧ hb a (t + 1) ≤ hb a t + 12 := by unfold hb; omega
def sa (a t : Int) : Int := if ok 3786479999 a t = true then hb a t else -1
theorem sa_yes {a t : Int} (h : ok 3786479999 a t = true) : sa a t = hb a t := if_pos h
theorem sa_no {a t : Int} (h : ok 3786479999 a t = false) : sa a t = -1 := if_neg (by simp [h])
def ss (a t : Int) : Int := if ok 200000000 a t = true then t * 1000000 - hb a t else -1
theorem ss_yes {a t : Int} (h : ok 200000000 a t = true) : ss a t = t * 1000000 - hb a t := if_pos h
theorem ss_no {a t : Int} (h : ok 200000000 a t = false) : ss a t = -1 := if_neg (by simp [h])
def okd (a m : Int) : Bool := decide ((86400 ≤ a ∧ a ≤ 3786393599) ∧ 1 ≤ m ∧ m ≤ 1000000)
theorem okd_of {a t : Int} (h : okd a t = true) : (86400 ≤ a ∧ a ≤ 3786393599) ∧ 1 ≤ t ∧ t ≤ 1000000 := of_decide_eq_true h
theorem okd_yes {a t : Int} (h : (86400 ≤ a ∧ a ≤ 3786393599) ∧ 1 ≤ t ∧ t ≤ 1000000) : okd a t = true := decide_eq_true h
theorem okd_no {a t : Int} (h : ¬ ((86400 ≤ a ∧ a ≤ 3786393599) ∧ 1 ≤ t ∧ t ≤ 1000000)) : okd a t = false := decide_eq_false h
def dn (a m : Int) : Int := a - 43200 + (m * 86400 + 999999) / 1000000
def sd (a m : Int) : Int := if okd a m = true then dn a m else -1
theorem sd_yes {a t : Int} (h : okd a t = true) : sd a t = dn a t := if_pos h
theorem sd_no {a t : Int} (h : okd a t = false) : sd a t = -1 := if_neg (by simp [h])
theorem dn_neg (a m : Int) : a - 43200 + -(-(m * 86400) / 1000000) = dn a m := by unfold dn; omega
theorem dn_bd {a m : Int} (h : okd a m = true) : a - 43200 < dn a m ∧ dn a m ≤ a + 43200 := by have := okd_of h; unfold dn; omega
theorem dn_done {a m : Int} (h : okd a m = true) : m ≤ hb a (dn a m) ∧ hb a (dn a m - 1) < m := by
  have := okd_of h; unfold dn hb; omega
end Go.Proofs.Ytealpfkandgjdaa.Z
