/-
  More plain arithmetic of tables of leap seconds: civil times of the next second, and back. No program is read here.
-/
import Derived.Test.YtoomkafhmennoaaLMath
namespace Go.Proofs.Ytoomkafhmennoaa.L
theorem vl_nil : vl [] = true := vl_yes (by simp) (fun i hi => absurd hi (by simp))
theorem civ_nil {t : Int} (h : 0 ≤ t ∧ t ≤ 3786479999) : civ [] t = t := by
  rw [civ_in vl_nil h]
  have h1 : cnt [] t = 0 := rfl
  have h2 : isIn [] t = false := isIn_no (fun i hi => absurd hi (by simp))
  rw [h1, h2, b1_f]; omega
theorem g_take (l : List Int) (k j : Nat) (hj : j < k) : g (l.take k) j = g l j := by
  unfold g; rw [List.getD_eq_getElem?_getD, List.getD_eq_getElem?_getD, List.getElem?_take_of_lt hj]
theorem vl_take {l : List Int} (h : vl l = true) (k : Nat) : vl (l.take k) = true := by
  have hx := vl_of h
  refine vl_yes (by rw [List.length_take]; omega) (fun i hi => ?_)
  rw [List.length_take] at hi
  have := hx.2 i (by omega)
  unfold okAt at this ⊢
  rw [g_take l k i (by omega), g_take l k (i - 1) (by omega)]
  exact this
theorem cntTo_take (l : List Int) (t : Int) (k : Nat) : ∀ j, j ≤ k → cntTo (l.take k) t j = cntTo l t j
  | 0, _ => rfl
  | j + 1, h => by
    show cntTo (l.take k) t j + (if g (l.take k) j < t then 1 else 0) = cntTo l t j + (if g l j < t then 1 else 0)
    rw [cntTo_take l t k j (by omega), g_take l k j (by omega)]
/-- With the last number left out. -/
theorem cnt_take (l : List Int) (t : Int) (k : Nat) (hk : k + 1 = l.length) : (cnt l t : Int) = cnt (l.take k) t + b1 (decide (g l k < t)) := by
  unfold cnt
  rw [List.length_take, Nat.min_eq_left (by omega), cntTo_take l t k k (Nat.le_refl _), ← hk]
  show ((cntTo l t k + (if g l k < t then 1 else 0) : Nat) : Int) = _
  unfold b1
  by_cases h : g l k < t
  · rw [if_pos h, if_pos (decide_eq_true h)]; rfl
  · rw [if_neg h, if_neg (by simpa using h)]; rfl
/-- Civil times are not negative. -/
theorem civ_low {l : List Int} {t : Int} (h : vl l = true) (h0 : 0 ≤ t) : (cnt l t : Int) + b1 (isIn l t) ≤ t := by
  have h1 := cnt_next h t
  have h2 := cut h (t + 1)
  generalize cnt l (t + 1) = m at h1 h2
  rcases Nat.eq_zero_or_pos m with hz | hz
  · omega
  · have h3 := h2.lo (m - 1) (by omega)
    have h4 := rng h (show 0 < l.length by have := h2.le; omega)
    rcases Nat.eq_zero_or_pos (m - 1) with hy | hy
    · rw [hy] at h3; omega
    · have h5 := ascv h hy (show m - 1 < l.length by have := h2.le; omega); omega
/-- The satellite time of the next civil second. -/
theorem sat_next {l : List Int} (h : vl l = true) (c : Int) : (c + 1) + (satN l (c + 1) : Int) = c + satN l c + 1 + b1 (isIn l (c + satN l c + 1)) := by
  have s := sut h c
  have a := sat_at h c
  generalize satN l c = j at s a ⊢
  have k0 : Cut l (c + j) j := by rw [← a.1]; rw [a.1]; have := cut h (c + j); rwa [a.1] at this
  -- nothing at c + j: the table goes on behind it
  by_cases e : j < l.length ∧ g l j = c + j + 1
  · have hi : isIn l (c + j + 1) = true := isIn_yes j e.1 e.2
    rw [hi, b1_t]
    have : Sut l (c + 1) (j + 1) := ⟨by omega, fun i hi => by
      rcases Nat.lt_or_ge i j with y | y
      · have := s.lo i y; omega
      · obtain rfl : i = j := by omega
        omega, fun i h1 h2 => by have := ascv h (show j < i by omega) h2; omega⟩
    rw [this.satN]; push_cast; omega
  · have hgt : ∀ i, j ≤ i → i < l.length → c + j + 1 < g l i := fun i h1 h2 => by
      have h3 := s.hi j (Nat.le_refl _) (by omega)
      have h4 : g l j ≠ c + j + 1 := fun x => e ⟨by omega, x⟩
      rcases Nat.lt_or_ge j i with y | y
      · have := ascv h y h2; omega
      · obtain rfl : i = j := by omega
        omega
    have hi : isIn l (c + j + 1) = false := isIn_no (fun i hi x => by
      rcases Nat.lt_or_ge i j with y | y
      · have := k0.lo i y; omega
      · have := hgt i y hi; omega)
    rw [hi, b1_f]
    have : Sut l (c + 1) j := ⟨s.le, fun i hi => by have := s.lo i hi; omega, fun i h1 h2 => by
      have h3 := hgt i h1 h2
      rcases Nat.lt_or_ge j i with y | y
      · have := ascv h y h2; have := hgt j (Nat.le_refl _) (by omega); omega
      · obtain rfl : i = j := by omega
        omega⟩
    rw [this.satN]; omega
/-- Back from civil times. -/
theorem sat_back {l : List Int} (h : vl l = true) (t : Int) : (t - cnt l t - b1 (isIn l t)) + (satN l (t - cnt l t - b1 (isIn l t)) : Int) = t - b1 (isIn l t) := by
  have k := cut h t
  have hk := isIn_cut h k
  generalize cnt l t = j at k hk ⊢
  have : Sut l (t - j - b1 (isIn l t)) j := by
    refine ⟨k.le, fun i hi => ?_, fun i h1 h2 => ?_⟩
    · have h3 := k.lo i hi
      rcases hb : isIn l t with _ | _
      · rw [b1_f]
        rcases Nat.lt_or_ge i (j - 1) with y | y
        · have := ascv h y (by have := k.le; omega); have := k.lo (j - 1) (by omega); omega
        · omega
      · rw [b1_t]
        rw [hb] at hk
        have hk := of_decide_eq_true hk.symm
        have := ascv h hi hk.1
        omega
    · have h3 := k.hi j (Nat.le_refl _) (by omega)
      rcases hb : isIn l t with _ | _
      · rw [b1_f]
        rw [hb] at hk
        have hk := of_decide_eq_false hk.symm
        have : g l j ≠ t := fun e => hk ⟨by omega, e⟩
        rcases Nat.lt_or_ge j i with y | y
        · have := ascv h y h2; omega
        · obtain rfl : i = j := by omega
          omega
      · rw [b1_t]
        rcases Nat.lt_or_ge j i with y | y
        · have := ascv h y h2; omega
        · obtain rfl : i = j := by omega
          omega
  rw [this.satN]; omega
end Go.Proofs.Ytoomkafhmennoaa.L
