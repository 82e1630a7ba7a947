/-
  The plain mathematics of offsets (chapter 11).
-/
import Derived.Test.YtigaifnoicnafaaLMath
import Derived.Test.YtigaifnoicnafaaVMath
namespace Go.Proofs.Ytigaifnoicnafaa.O
set_option linter.unusedVariables false
/-- The first k numbers are time stamps. -/
def okTo (l : List Int) (k : Nat) : Prop := ∀ i, i < k → 0 ≤ L.g l i ∧ L.g l i ≤ 200000000999999
theorem okTo_succ {l : List Int} {k : Nat} (h : okTo l k) (h' : 0 ≤ L.g l k ∧ L.g l k ≤ 200000000999999) : okTo l (k + 1) := fun i hi => by
  rcases Nat.lt_or_ge i k with a | a
  · exact h i a
  · obtain rfl : i = k := by omega
    exact h'
instance (l : List Int) (k : Nat) : Decidable (okTo l k) := by unfold okTo; infer_instance
def ai (l : List Int) : Bool := decide (okTo l l.length)
def vo (l : List Int) : Bool := decide (l.length = 4 ∧ okTo l l.length)
theorem vo_of {l : List Int} (h : vo l = true) : l.length = 4 ∧ okTo l l.length := of_decide_eq_true h
theorem vo_yes {l : List Int} (h : l.length = 4 ∧ okTo l l.length) : vo l = true := decide_eq_true h
theorem vo_no {l : List Int} (h : ¬ (l.length = 4 ∧ okTo l l.length)) : vo l = false := decide_eq_false h
/-- Four time stamps. -/
def In (x : Int) : Prop := 0 ≤ x ∧ x ≤ 200000000999999
theorem vo_at {l : List Int} (h : vo l = true) : l.length = 4 ∧ (0 ≤ L.g l 0 ∧ L.g l 0 ≤ 200000000999999) ∧ (0 ≤ L.g l 1 ∧ L.g l 1 ≤ 200000000999999) ∧ (0 ≤ L.g l 2 ∧ L.g l 2 ≤ 200000000999999) ∧ (0 ≤ L.g l 3 ∧ L.g l 3 ≤ 200000000999999) := by
  obtain ⟨h1, h2⟩ := vo_of h
  rw [h1] at h2
  exact ⟨h1, h2 0 (by omega), h2 1 (by omega), h2 2 (by omega), h2 3 (by omega)⟩
theorem vo_four {a b c d : Int} (ha : 0 ≤ a ∧ a ≤ 200000000999999) (hb : 0 ≤ b ∧ b ≤ 200000000999999) (hc : 0 ≤ c ∧ c ≤ 200000000999999) (hd : 0 ≤ d ∧ d ≤ 200000000999999) : vo [a, b, c, d] = true := by
  refine vo_yes ⟨rfl, fun i hi => ?_⟩
  have : i < 4 := hi
  rcases i with _ | _ | _ | _ | i
  · exact ha
  · exact hb
  · exact hc
  · exact hd
  · omega
/-- The offset and the delay of four numbers. -/
def of4 (a b c d : Int) : Int := (b - a + (c - d)) / 2
def de4 (a b c d : Int) : Int := max 0 (d - a - (c - b))
def of (l : List Int) : Int := of4 (L.g l 0) (L.g l 1) (L.g l 2) (L.g l 3)
def de (l : List Int) : Int := de4 (L.g l 0) (L.g l 1) (L.g l 2) (L.g l 3)
def ofs (l : List Int) : Int := if vo l = true then of l else 0
def del (l : List Int) : Int := if vo l = true then de l else -1
theorem o_yes {l : List Int} (h : vo l = true) : ofs l = of l ∧ del l = de l := ⟨if_pos h, if_pos h⟩
theorem o_no {l : List Int} (h : vo l = false) : ofs l = 0 ∧ del l = -1 := ⟨if_neg (by simp [h]), if_neg (by simp [h])⟩
theorem o_bd {l : List Int} (h : vo l = true) : -400000000999999 ≤ of l ∧ of l ≤ 400000000999999 ∧ 0 ≤ de l ∧ de l ≤ 400000001999998 := by
  have := vo_at h; unfold of de of4 de4; omega
/-- A span of offsets. -/
def lo (l : List Int) : Int := of l - (de l + 1) / 2
def hi (l : List Int) : Int := of l + (de l + 1) / 2
def sok (l : List Int) : Bool := decide (vo l = true ∧ V.okN (lo l) (hi l))
theorem sok_of {l : List Int} (h : sok l = true) : vo l = true ∧ V.okN (lo l) (hi l) := of_decide_eq_true h
theorem sok_yes {l : List Int} (h : vo l = true ∧ V.okN (lo l) (hi l)) : sok l = true := decide_eq_true h
theorem sok_no {l : List Int} (h : ¬ (vo l = true ∧ V.okN (lo l) (hi l))) : sok l = false := decide_eq_false h
def slo (l : List Int) : Int := if sok l = true then lo l else 0
def shi (l : List Int) : Int := if sok l = true then hi l else 0
theorem s_yes {l : List Int} (h : sok l = true) : slo l = lo l ∧ shi l = hi l := ⟨if_pos h, if_pos h⟩
theorem s_no {l : List Int} (h : sok l = false) : slo l = 0 ∧ shi l = 0 := ⟨if_neg (by simp [h]), if_neg (by simp [h])⟩
theorem vs_one (x y : Int) : V.vs [(x, y)] = decide (V.okN x y) := by
  by_cases h : V.okN x y
  · rw [decide_eq_true h]
    exact V.vs_yes (by simp) (by simp) (fun i hi => by
      have : i < 1 := hi
      obtain rfl : i = 0 := by omega
      exact h)
  · rw [decide_eq_false h]
    exact V.vs_bad 0 (by simp) h
def ex (l : List Int) (i : Nat) : Int := if vo l = true then L.g l i else 0
theorem ex_yes {l : List Int} (h : vo l = true) (i : Nat) : ex l i = L.g l i := if_pos h
theorem ex_no {l : List Int} (h : vo l = false) (i : Nat) : ex l i = 0 := if_neg (by simp [h])
theorem half_neg (n : Int) : -(-n / 2) = (n + 1) / 2 := by omega
end Go.Proofs.Ytigaifnoicnafaa.O
