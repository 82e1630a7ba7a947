/-
  The plain mathematics of a clock's corrections one after the other (chapter 7).
-/
import Derived.Test.YtljdnncodgnpcaaKMathB
import Derived.Test.YtljdnncodgnpcaaQMath
namespace Go.Proofs.Ytljdnncodgnpcaa.K
set_option linter.unusedVariables false
/-- The clock behind the first k corrections, each one as if it did not fail. -/
def rs (s : Int × Int × Int) (l : List Q.Sm) : Nat → Int × Int × Int
  | 0 => s
  | k + 1 => (so (rs s l k).1 (rs s l k).2.1 (rs s l k).2.2 (Q.tm l k) (Q.of l k), sr (rs s l k).1 (rs s l k).2.1 (rs s l k).2.2 (Q.tm l k) (Q.of l k), st (rs s l k).1 (rs s l k).2.1 (rs s l k).2.2 (Q.tm l k) (Q.of l k))
def sk (s : Int × Int × Int) (l : List Q.Sm) (k : Nat) : Bool := sok (rs s l k).1 (rs s l k).2.1 (rs s l k).2.2 (Q.tm l k) (Q.of l k)
/-- None of the first k fails. -/
def rk (s : Int × Int × Int) (l : List Q.Sm) (k : Nat) : Prop := ∀ i, i < k → sk s l i = true
theorem rk_succ {s : Int × Int × Int} {l : List Q.Sm} {k : Nat} (h : rk s l k) (h' : sk s l k = true) : rk s l (k + 1) := fun i hi => by
  rcases Nat.lt_or_ge i k with a | a
  · exact h i a
  · obtain rfl : i = k := by omega
    exact h'
instance (s : Int × Int × Int) (l : List Q.Sm) (k : Nat) : Decidable (rk s l k) := by unfold rk; infer_instance
def rv (s : Int × Int × Int) (l : List Q.Sm) : Prop := vc s.1 s.2.1 s.2.2 = true ∧ (0 < l.length → Q.vq l = true)
instance (s : Int × Int × Int) (l : List Q.Sm) : Decidable (rv s l) := by unfold rv; infer_instance
def rok (s : Int × Int × Int) (l : List Q.Sm) : Bool := decide (rv s l ∧ rk s l l.length)
theorem rok_of {s : Int × Int × Int} {l : List Q.Sm} (h : rok s l = true) : rv s l ∧ rk s l l.length := of_decide_eq_true h
theorem rok_yes {s : Int × Int × Int} {l : List Q.Sm} (h : rv s l ∧ rk s l l.length) : rok s l = true := decide_eq_true h
theorem rok_no {s : Int × Int × Int} {l : List Q.Sm} (h : ¬ (rv s l ∧ rk s l l.length)) : rok s l = false := decide_eq_false h
def re (s : Int × Int × Int) (l : List Q.Sm) : Int × Int × Int := if rok s l = true then rs s l l.length else (0, 0, 0)
theorem re_yes {s : Int × Int × Int} {l : List Q.Sm} (h : rok s l = true) : re s l = rs s l l.length := if_pos h
theorem re_no {s : Int × Int × Int} {l : List Q.Sm} (h : rok s l = false) : re s l = (0, 0, 0) := if_neg (by rw [h]; decide)
theorem rs_vc {s : Int × Int × Int} {l : List Q.Sm} (h : vc s.1 s.2.1 s.2.2 = true) : ∀ k, rk s l k → vc (rs s l k).1 (rs s l k).2.1 (rs s l k).2.2 = true
  | 0, _ => h
  | k + 1, hk => s_vc (hk k (by omega))
end Go.Proofs.Ytljdnncodgnpcaa.K
