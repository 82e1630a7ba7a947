/-
  The plain arithmetic of samples: valid samples, the fastest of them, how much their offsets differ, the offset in the middle. No program is read here.
-/
namespace Go.Proofs.Ytoaaedbfjbgakaa.Q

/-- A sample: offset, delay, time. -/
abbrev Sm := Int × Int × Int
def of (l : List Sm) (i : Nat) : Int := (l.getD i (0, 0, 0)).1
def de (l : List Sm) (i : Nat) : Int := (l.getD i (0, 0, 0)).2.1
def tm (l : List Sm) (i : Nat) : Int := (l.getD i (0, 0, 0)).2.2
theorem get (l : List Sm) (i : Nat) (h : i < l.length) : l[i]? = some (of l i, de l i, tm l i) := by
  unfold of de tm; rw [List.getD_eq_getElem?_getD, List.getElem?_eq_getElem h]; rfl
def ok1 (a b c : Int) : Prop := (-1000000 ≤ a ∧ a ≤ 1000000) ∧ (0 ≤ b ∧ b ≤ 1000000) ∧ 0 ≤ c ∧ c ≤ 3786479999
instance (a b c : Int) : Decidable (ok1 a b c) := by unfold ok1; infer_instance
def okAt (l : List Sm) (i : Nat) : Prop := ok1 (of l i) (de l i) (tm l i) ∧ (0 < i → tm l (i - 1) < tm l i)
instance (l : List Sm) (i : Nat) : Decidable (okAt l i) := by unfold okAt; infer_instance
def okTo (l : List Sm) (k : Nat) : Prop := ∀ i, i < k → okAt l i
instance (l : List Sm) (k : Nat) : Decidable (okTo l k) := by unfold okTo; infer_instance
def vq (l : List Sm) : Bool := decide ((1 ≤ l.length ∧ l.length ≤ 8) ∧ okTo l l.length)
theorem vq_yes {l : List Sm} (h : 1 ≤ l.length) (h' : l.length ≤ 8) (k : okTo l l.length) : vq l = true := decide_eq_true ⟨⟨h, h'⟩, k⟩
theorem vq_long {l : List Sm} (h : ¬ (1 ≤ l.length ∧ l.length ≤ 8)) : vq l = false := decide_eq_false (fun k => h k.1)
theorem vq_bad {l : List Sm} (i : Nat) (hi' : i < l.length) (h : ¬ okAt l i) : vq l = false := decide_eq_false (fun k => h (k.2 i hi'))
theorem vq_of {l : List Sm} (h : vq l = true) : (1 ≤ l.length ∧ l.length ≤ 8) ∧ okTo l l.length := of_decide_eq_true h
theorem okTo_succ {l : List Sm} {k : Nat} (h : okTo l k) (h' : okAt l k) : okTo l (k + 1) := fun i hi' => by
  rcases Nat.lt_or_ge i k with a | a
  · exact h i a
  · obtain rfl : i = k := by omega
    exact h'
theorem asc {l : List Sm} {n : Nat} (h : okTo l n) : ∀ j i : Nat, i < j → j < n → tm l i < tm l j
  | 0, i, hi', _ => absurd hi' (by omega)
  | j + 1, i, hi', hj => by
    have h1 := (h (j + 1) hj).2 (by omega)
    simp only [Nat.add_sub_cancel] at h1
    rcases Nat.lt_or_ge i j with a | a
    · have := asc h j i a (by omega); omega
    · obtain rfl : i = j := by omega
      exact h1
/-- The last one of the fastest among the first k + 1. -/
def bestTo (l : List Sm) : Nat → Nat
  | 0 => 0
  | k + 1 => if de l (k + 1) ≤ de l (bestTo l k) then k + 1 else bestTo l k
def best (l : List Sm) : Nat := bestTo l (l.length - 1)
structure Best (l : List Sm) (b k : Nat) : Prop where
  le : b ≤ k
  min_ : ∀ j, j ≤ k → de l b ≤ de l j
  last : ∀ j, j ≤ k → b < j → de l b < de l j
theorem bestTo_is (l : List Sm) : ∀ k, Best l (bestTo l k) k
  | 0 => ⟨Nat.le_refl _, fun j hj => by obtain rfl : j = 0 := by omega
                                        exact Int.le_refl _, fun j hj hb => by unfold bestTo at hb; omega⟩
  | k + 1 => by
    have ih := bestTo_is l k
    unfold bestTo
    split
    · rename_i h
      refine ⟨Nat.le_refl _, fun j hj => ?_, fun j hj hb => by omega⟩
      rcases Nat.lt_or_ge k j with a | a
      · obtain rfl : j = k + 1 := by omega
        exact Int.le_refl _
      · have := ih.min_ j a; omega
    · rename_i h
      refine ⟨by have := ih.le; omega, fun j hj => ?_, fun j hj hb => ?_⟩
      · rcases Nat.lt_or_ge k j with a | a
        · obtain rfl : j = k + 1 := by omega
          omega
        · exact ih.min_ j a
      · rcases Nat.lt_or_ge k j with a | a
        · obtain rfl : j = k + 1 := by omega
          omega
        · exact ih.last j a hb
theorem Best.same {l : List Sm} {a b k : Nat} (h : Best l a k) (h' : Best l b k) : a = b := by
  rcases Nat.lt_trichotomy a b with x | x | x
  · have := h.last b h'.le x; have := h'.min_ a h.le; omega
  · exact x
  · have := h'.last a h.le x; have := h.min_ b h'.le; omega
theorem best_lt {l : List Sm} (h : 0 < l.length) : best l < l.length := by have := (bestTo_is l (l.length - 1)).le; unfold best; omega
/-- The sum of the differences to a number. -/
def abs (n : Int) : Int := if n < 0 then -n else n
theorem abs_nn (n : Int) : 0 ≤ abs n := by unfold abs; split <;> omega
def sumTo (l : List Sm) (b : Int) : Nat → Int
  | 0 => 0
  | k + 1 => sumTo l b k + abs (of l k - b)
theorem sumTo_bd {l : List Sm} {b : Int} (hb : -1000000 ≤ b ∧ b ≤ 1000000) : ∀ k, (∀ i, i < k → -1000000 ≤ of l i ∧ of l i ≤ 1000000) → 0 ≤ sumTo l b k ∧ sumTo l b k ≤ 2000000 * (k : Int)
  | 0, _ => by unfold sumTo; omega
  | k + 1, h => by
    have h1 := sumTo_bd hb k (fun i hi' => h i (by omega))
    have h2 := h k (by omega)
    have h3 : 0 ≤ abs (of l k - b) ∧ abs (of l k - b) ≤ 2000000 := by unfold abs; split <;> omega
    unfold sumTo; push_cast; omega
def jit (l : List Sm) : Int := sumTo l (of l (best l)) l.length / (l.length : Int)
def jf (l : List Sm) : Int := if vq l = true then jit l else -1
theorem jf_yes {l : List Sm} (h : vq l = true) : jf l = jit l := if_pos h
theorem jf_no {l : List Sm} (h : vq l = false) : jf l = -1 := if_neg (by rw [h]; decide)
def bo (l : List Sm) : Int := if vq l = true then of l (best l) else 0
def bd (l : List Sm) : Int := if vq l = true then de l (best l) else 0
def bt (l : List Sm) : Int := if vq l = true then tm l (best l) else 0
theorem b_yes {l : List Sm} (h : vq l = true) : bo l = of l (best l) ∧ bd l = de l (best l) ∧ bt l = tm l (best l) := ⟨if_pos h, if_pos h, if_pos h⟩
theorem b_no {l : List Sm} (h : vq l = false) : bo l = 0 ∧ bd l = 0 ∧ bt l = 0 := ⟨if_neg (by rw [h]; decide), if_neg (by rw [h]; decide), if_neg (by rw [h]; decide)⟩
theorem abs_max (n : Int) : abs n = max n (-n) := by unfold abs; split <;> omega
end Go.Proofs.Ytoaaedbfjbgakaa.Q
