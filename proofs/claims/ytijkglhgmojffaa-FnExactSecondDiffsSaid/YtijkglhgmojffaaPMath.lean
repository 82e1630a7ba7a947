/-
  The plain mathematics of phases (chapter 8).
-/
import Derived.Test.YtijkglhgmojffaaLMath
namespace Go.Proofs.Ytijkglhgmojffaa.F
set_option linter.unusedVariables false
/-- The first k of the phases are within the limits. -/
def okTo (l : List Int) (k : Nat) : Prop := ∀ i, i < k → -1000000 ≤ L.g l i ∧ L.g l i ≤ 1000000
theorem okTo_succ {l : List Int} {k : Nat} (h : okTo l k) (h' : -1000000 ≤ L.g l k ∧ L.g l k ≤ 1000000) : okTo l (k + 1) := fun i hi => by
  rcases Nat.lt_or_ge i k with a | a
  · exact h i a
  · obtain rfl : i = k := by omega
    exact h'
instance (l : List Int) (k : Nat) : Decidable (okTo l k) := by unfold okTo; infer_instance
def ai (l : List Int) : Bool := decide (okTo l l.length)
def vp (l : List Int) : Bool := decide (l.length ≤ 16 ∧ okTo l l.length)
theorem vp_of {l : List Int} (h : vp l = true) : l.length ≤ 16 ∧ okTo l l.length := of_decide_eq_true h
theorem vp_yes {l : List Int} (h : l.length ≤ 16 ∧ okTo l l.length) : vp l = true := decide_eq_true h
theorem vp_no {l : List Int} (h : ¬ (l.length ≤ 16 ∧ okTo l l.length)) : vp l = false := decide_eq_false h
def sok (l : List Int) : Bool := decide (vp l = true ∧ 2 ≤ l.length)
theorem sok_of {l : List Int} (h : sok l = true) : vp l = true ∧ 2 ≤ l.length := of_decide_eq_true h
theorem sok_yes {l : List Int} (h : vp l = true ∧ 2 ≤ l.length) : sok l = true := decide_eq_true h
theorem sok_no {l : List Int} (h : ¬ (vp l = true ∧ 2 ≤ l.length)) : sok l = false := decide_eq_false h
def sl (l : List Int) : Int := (L.g l (l.length - 1) - L.g l 0) / ((l.length : Int) - 1)
def sn (l : List Int) : Int := if sok l = true then sl l else 0
theorem sn_yes {l : List Int} (h : sok l = true) : sn l = sl l := if_pos h
theorem sn_no {l : List Int} (h : sok l = false) : sn l = 0 := if_neg (by rw [h]; decide)
end Go.Proofs.Ytijkglhgmojffaa.F
