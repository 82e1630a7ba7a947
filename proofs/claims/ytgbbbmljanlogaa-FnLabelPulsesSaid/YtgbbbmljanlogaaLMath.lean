/-
  The plain arithmetic of tables of leap seconds: valid tables, how many begin before a time, civil times and back. No program is read here.
-/
namespace Go.Proofs.Ytgbbbmljanlogaa.L

/-- The number at a place. -/
def g (l : List Int) (i : Nat) : Int := l.getD i 0
theorem g_get (l : List Int) (i : Nat) (h : i < l.length) : l[i]? = some (g l i) := by
  unfold g; rw [List.getD_eq_getElem?_getD, List.getElem?_eq_getElem h]; rfl
/-- The first k numbers are as a table has them. -/
def okAt (l : List Int) (i : Nat) : Prop := (1 ≤ g l i ∧ g l i ≤ 1893239999) ∧ (0 < i → g l (i - 1) + 604800 ≤ g l i)
def okTo (l : List Int) (k : Nat) : Prop := ∀ i, i < k → okAt l i
instance (l : List Int) (i : Nat) : Decidable (okAt l i) := by unfold okAt; infer_instance
instance (l : List Int) (k : Nat) : Decidable (okTo l k) := by unfold okTo; infer_instance
def vl (l : List Int) : Bool := decide (l.length ≤ 8 ∧ okTo l l.length)
theorem vl_yes {l : List Int} (h : l.length ≤ 8) (h' : okTo l l.length) : vl l = true := by unfold vl; exact decide_eq_true ⟨h, h'⟩
theorem vl_long {l : List Int} (h : 8 < l.length) : vl l = false := by unfold vl; exact decide_eq_false (fun k => by omega)
theorem vl_bad {l : List Int} (i : Nat) (hi : i < l.length) (h : ¬ okAt l i) : vl l = false := by unfold vl; exact decide_eq_false (fun k => h (k.2 i hi))
theorem vl_of {l : List Int} (h : vl l = true) : l.length ≤ 8 ∧ okTo l l.length := by unfold vl at h; exact of_decide_eq_true h
theorem okTo_succ {l : List Int} {k : Nat} (h : okTo l k) (h' : okAt l k) : okTo l (k + 1) := fun i hi => by
  rcases Nat.lt_or_ge i k with a | a
  · exact h i a
  · obtain rfl : i = k := by omega
    exact h'
/-- How many of the first k numbers are less than t. -/
def cntTo (l : List Int) (t : Int) : Nat → Nat
  | 0 => 0
  | k + 1 => cntTo l t k + (if g l k < t then 1 else 0)
def cnt (l : List Int) (t : Int) : Nat := cntTo l t l.length
theorem cntTo_le (l : List Int) (t : Int) : ∀ k, cntTo l t k ≤ k
  | 0 => Nat.le_refl _
  | k + 1 => by have := cntTo_le l t k; unfold cntTo; split <;> omega
theorem cnt_le (l : List Int) (t : Int) : cnt l t ≤ l.length := cntTo_le _ _ _
/-- Is t one of the first k numbers? -/
def inTo (l : List Int) (t : Int) (k : Nat) : Prop := ∃ i, i < k ∧ g l i = t
def isIn (l : List Int) (t : Int) : Bool := decide (∃ i, i < l.length ∧ g l i = t)
theorem isIn_yes {l : List Int} {t : Int} (i : Nat) (hi : i < l.length) (h : g l i = t) : isIn l t = true := by unfold isIn; exact decide_eq_true ⟨i, hi, h⟩
theorem isIn_no {l : List Int} {t : Int} (h : ∀ i, i < l.length → g l i ≠ t) : isIn l t = false := by unfold isIn; exact decide_eq_false (fun ⟨i, hi, e⟩ => h i hi e)
theorem isIn_of {l : List Int} {t : Int} (h : isIn l t = true) : ∃ i, i < l.length ∧ g l i = t := by unfold isIn at h; exact of_decide_eq_true h
theorem isIn_not {l : List Int} {t : Int} (h : isIn l t = false) : ∀ i, i < l.length → g l i ≠ t := by
  unfold isIn at h
  exact fun i hi e => of_decide_eq_false h ⟨i, hi, e⟩

/-! A valid table ascends. -/
theorem asc {l : List Int} {n : Nat} (h : okTo l n) : ∀ j i : Nat, i < j → j < n → g l i + 604800 * ((j : Int) - (i : Int)) ≤ g l j
  | 0, i, hi, _ => absurd hi (by omega)
  | j + 1, i, hi, hj => by
    have h1 := (h (j + 1) hj).2 (by omega)
    simp only [Nat.add_sub_cancel] at h1
    rcases Nat.lt_or_ge i j with a | a
    · have := asc h j i a (by omega); push_cast; omega
    · obtain rfl : i = j := by omega
      push_cast; omega
/-- Where a time cuts a table in two. -/
structure Cut (l : List Int) (t : Int) (j : Nat) : Prop where
  le : j ≤ l.length
  lo : ∀ i, i < j → g l i < t
  hi : ∀ i, j ≤ i → i < l.length → t ≤ g l i
theorem cntTo_lo {l : List Int} {t : Int} : ∀ k, (∀ i, i < k → g l i < t) → cntTo l t k = k
  | 0, _ => rfl
  | k + 1, h => by unfold cntTo; rw [if_pos (h k (by omega)), cntTo_lo k (fun i hi => h i (by omega))]
theorem cntTo_hi {l : List Int} {t : Int} (j : Nat) : ∀ k, j ≤ k → (∀ i, j ≤ i → i < k → t ≤ g l i) → cntTo l t k = cntTo l t j
  | k, hk, h => by
    induction k with
    | zero => obtain rfl : j = 0 := by omega
              rfl
    | succ k ih =>
      rcases Nat.lt_or_ge k j with a | a
      · obtain rfl : j = k + 1 := by omega
        rfl
      · show cntTo l t k + (if g l k < t then 1 else 0) = cntTo l t j
        have := h k a (by omega)
        rw [if_neg (by omega), Nat.add_zero, ih a (fun i h1 h2 => h i h1 (by omega))]
theorem Cut.cnt {l : List Int} {t : Int} {j : Nat} (h : Cut l t j) : cnt l t = j := by
  unfold L.cnt; rw [cntTo_hi j _ h.le h.hi, cntTo_lo j h.lo]
theorem cut_exists {l : List Int} (h : okTo l l.length) (t : Int) : ∀ k, k ≤ l.length → (∀ i, k ≤ i → i < l.length → t ≤ g l i) → ∃ j, Cut l t j
  | 0, hk, hh => ⟨0, by omega, fun i hi => absurd hi (by omega), hh⟩
  | k + 1, hk, hh => by
    by_cases hc : g l k < t
    · refine ⟨k + 1, hk, fun i hi => ?_, hh⟩
      rcases Nat.lt_or_ge i k with a | a
      · have := asc h k i a (by omega); omega
      · obtain rfl : i = k := by omega
        exact hc
    · refine cut_exists h t k (by omega) (fun i h1 h2 => ?_)
      rcases Nat.lt_or_ge k i with a | a
      · exact hh i (by omega) h2
      · obtain rfl : i = k := by omega
        omega
theorem cut {l : List Int} (h : vl l = true) (t : Int) : Cut l t (cnt l t) := by
  obtain ⟨j, hj⟩ := cut_exists (vl_of h).2 t l.length (Nat.le_refl _) (fun i h1 h2 => absurd h1 (by omega))
  rw [hj.cnt]; exact hj
theorem ascv {l : List Int} (h : vl l = true) {i j : Nat} (hi : i < j) (hj : j < l.length) : g l i + 604800 * ((j : Int) - (i : Int)) ≤ g l j := asc (vl_of h).2 j i hi hj
theorem rng {l : List Int} (h : vl l = true) {i : Nat} (hi : i < l.length) : 1 ≤ g l i ∧ g l i ≤ 1893239999 := ((vl_of h).2 i hi).1
theorem len8 {l : List Int} (h : vl l = true) : l.length ≤ 8 := (vl_of h).1

/-- In a valid table a time stands at the cut, or nowhere. -/
theorem isIn_cut {l : List Int} (h : vl l = true) {t : Int} {j : Nat} (c : Cut l t j) : isIn l t = decide (j < l.length ∧ g l j = t) := by
  by_cases a : j < l.length ∧ g l j = t
  · rw [isIn_yes j a.1 a.2, decide_eq_true a]
  · rw [decide_eq_false a]
    refine isIn_no (fun i hi e => ?_)
    rcases Nat.lt_or_ge i j with b | b
    · have := c.lo i b; omega
    · rcases Nat.lt_or_ge j i with b' | b'
      · have h1 := ascv h b' hi
        have h2 := c.hi j (Nat.le_refl _) (by omega)
        omega
      · obtain rfl : i = j := by omega
        exact a ⟨hi, e⟩
def b1 (b : Bool) : Int := if b = true then 1 else 0
theorem b1_t : b1 true = 1 := rfl
theorem b1_f : b1 false = 0 := rfl
theorem b1_01 (b : Bool) : b1 b = 0 ∨ b1 b = 1 := by cases b <;> simp [b1]
/-- The next second. -/
theorem cnt_next {l : List Int} (h : vl l = true) (t : Int) : (cnt l (t + 1) : Int) = cnt l t + b1 (isIn l t) := by
  have c := cut h t
  rw [isIn_cut h c]
  by_cases a : cnt l t < l.length ∧ g l (cnt l t) = t
  · rw [decide_eq_true a, b1_t]
    have : Cut l (t + 1) (cnt l t + 1) := by
      refine ⟨by omega, fun i hi => ?_, fun i h1 h2 => ?_⟩
      · rcases Nat.lt_or_ge i (cnt l t) with b | b
        · have := c.lo i b; omega
        · obtain rfl : i = cnt l t := by omega
          omega
      · have := ascv h (show cnt l t < i from h1) h2; omega
    rw [this.cnt]; push_cast; rfl
  · rw [decide_eq_false a, b1_f]
    have : Cut l (t + 1) (cnt l t) := by
      refine ⟨c.le, fun i hi => by have := c.lo i hi; omega, fun i h1 h2 => ?_⟩
      rcases Nat.lt_or_ge (cnt l t) i with b | b
      · have h3 := ascv h b h2
        have h4 := c.hi (cnt l t) (Nat.le_refl _) (by omega)
        omega
      · obtain rfl : i = cnt l t := by omega
        have h4 := c.hi (cnt l t) (Nat.le_refl _) h2
        have : g l (cnt l t) ≠ t := fun e => a ⟨h2, e⟩
        omega
    rw [this.cnt]; omega
theorem cnt_mono {l : List Int} (t u : Int) (h : t ≤ u) : cnt l t ≤ cnt l u := by
  unfold cnt
  generalize l.length = k
  induction k with
  | zero => exact Nat.le_refl _
  | succ k ih => unfold cntTo; split <;> split <;> omega
theorem isIn_next {l : List Int} (h : vl l = true) {t : Int} (a : isIn l t = true) : isIn l (t + 1) = false ∧ isIn l (t - 1) = false := by
  obtain ⟨i, hi, e⟩ := isIn_of a
  constructor <;> refine isIn_no (fun k hk e' => ?_)
  all_goals
    rcases Nat.lt_trichotomy i k with b | b | b
    · have := ascv h b hk; omega
    · subst b; omega
    · have := ascv h b hi; omega

/-! What the functions return. -/
def okT (t : Int) : Prop := 0 ≤ t ∧ t ≤ 3786479999
instance (t : Int) : Decidable (okT t) := by unfold okT; infer_instance
def lb (l : List Int) (t : Int) : Int := if vl l = true ∧ okT t then (cnt l t : Int) else -1
def isl (l : List Int) (t : Int) : Bool := vl l && isIn l t
def civ (l : List Int) (t : Int) : Int := if vl l = true ∧ okT t then t - cnt l t - b1 (isIn l t) else -1
def nxt (l : List Int) (t : Int) : Int := if vl l = true ∧ okT t ∧ cnt l t < l.length then g l (cnt l t) else -1
theorem lb_in {l : List Int} {t : Int} (h : vl l = true) (ht : 0 ≤ t ∧ t ≤ 3786479999) : lb l t = cnt l t := by unfold lb; exact if_pos (⟨h, ht⟩)
theorem lb_out {l : List Int} {t : Int} (h : ¬ (vl l = true ∧ 0 ≤ t ∧ t ≤ 3786479999)) : lb l t = -1 := by unfold lb; exact if_neg (h)
theorem civ_in {l : List Int} {t : Int} (h : vl l = true) (ht : 0 ≤ t ∧ t ≤ 3786479999) : civ l t = t - cnt l t - b1 (isIn l t) := by unfold civ; exact if_pos (⟨h, ht⟩)
theorem civ_out {l : List Int} {t : Int} (h : ¬ (vl l = true ∧ 0 ≤ t ∧ t ≤ 3786479999)) : civ l t = -1 := by unfold civ; exact if_neg (h)
theorem isl_in {l : List Int} {t : Int} (h : vl l = true) : isl l t = isIn l t := by unfold isl; rw [h]; rfl
theorem isl_out {l : List Int} {t : Int} (h : vl l = false) : isl l t = false := by unfold isl; rw [h]; rfl
theorem nxt_in {l : List Int} {t : Int} (h : vl l = true) (ht : 0 ≤ t ∧ t ≤ 3786479999) (hc : cnt l t < l.length) : nxt l t = g l (cnt l t) := by unfold nxt; exact if_pos (⟨h, ht, hc⟩)
theorem nxt_out {l : List Int} {t : Int} (h : ¬ (vl l = true ∧ (0 ≤ t ∧ t ≤ 3786479999) ∧ cnt l t < l.length)) : nxt l t = -1 := by unfold nxt; exact if_neg (h)
/-- How many leap seconds repeat an earlier civil second: l[i] - i - 1 < c. -/
def satTo (l : List Int) (c : Int) : Nat → Nat
  | 0 => 0
  | k + 1 => satTo l c k + (if g l k - (k : Int) - 1 < c then 1 else 0)
def satN (l : List Int) (c : Int) : Nat := satTo l c l.length
def okC (c : Int) : Prop := 0 ≤ c ∧ c ≤ 1893239999
instance (t : Int) : Decidable (okC t) := by unfold okC; infer_instance
def sat (l : List Int) (c : Int) : Int := if vl l = true ∧ okC c then c + satN l c else -1
theorem sat_in {l : List Int} {c : Int} (h : vl l = true) (ht : 0 ≤ c ∧ c ≤ 1893239999) : sat l c = c + satN l c := by unfold sat; exact if_pos (⟨h, ht⟩)
theorem sat_out {l : List Int} {c : Int} (h : ¬ (vl l = true ∧ 0 ≤ c ∧ c ≤ 1893239999)) : sat l c = -1 := by unfold sat; exact if_neg (h)
/-- Where a civil time cuts a table. -/
structure Sut (l : List Int) (c : Int) (j : Nat) : Prop where
  le : j ≤ l.length
  lo : ∀ i : Nat, i < j → g l i - (i : Int) - 1 < c
  hi : ∀ i : Nat, j ≤ i → i < l.length → c ≤ g l i - (i : Int) - 1
theorem satTo_lo {l : List Int} {c : Int} : ∀ k, (∀ i : Nat, i < k → g l i - (i : Int) - 1 < c) → satTo l c k = k
  | 0, _ => rfl
  | k + 1, h => by unfold satTo; rw [if_pos (h k (by omega)), satTo_lo k (fun i hi => h i (by omega))]
theorem satTo_hi {l : List Int} {c : Int} (j : Nat) : ∀ k, j ≤ k → (∀ i : Nat, j ≤ i → i < k → c ≤ g l i - (i : Int) - 1) → satTo l c k = satTo l c j
  | k, hk, h => by
    induction k with
    | zero => obtain rfl : j = 0 := by omega
              rfl
    | succ k ih =>
      rcases Nat.lt_or_ge k j with a | a
      · obtain rfl : j = k + 1 := by omega
        rfl
      · show satTo l c k + (if g l k - (k : Int) - 1 < c then 1 else 0) = satTo l c j
        have := h k a (by omega)
        rw [if_neg (by omega), Nat.add_zero, ih a (fun i h1 h2 => h i h1 (by omega))]
theorem Sut.satN {l : List Int} {c : Int} {j : Nat} (h : Sut l c j) : satN l c = j := by
  unfold L.satN; rw [satTo_hi j _ h.le h.hi, satTo_lo j h.lo]
theorem sut_exists {l : List Int} (h : okTo l l.length) (c : Int) : ∀ k, k ≤ l.length → (∀ i : Nat, k ≤ i → i < l.length → c ≤ g l i - (i : Int) - 1) → ∃ j, Sut l c j
  | 0, hk, hh => ⟨0, by omega, fun i hi => absurd hi (by omega), hh⟩
  | k + 1, hk, hh => by
    by_cases hc : g l k - (k : Int) - 1 < c
    · refine ⟨k + 1, hk, fun i hi => ?_, hh⟩
      rcases Nat.lt_or_ge i k with a | a
      · have := asc h k i a (by omega); omega
      · obtain rfl : i = k := by omega
        exact hc
    · refine sut_exists h c k (by omega) (fun i h1 h2 => ?_)
      rcases Nat.lt_or_ge k i with a | a
      · exact hh i (by omega) h2
      · obtain rfl : i = k := by omega
        omega
theorem sut {l : List Int} (h : vl l = true) (c : Int) : Sut l c (satN l c) := by
  obtain ⟨j, hj⟩ := sut_exists (vl_of h).2 c l.length (Nat.le_refl _) (fun i h1 h2 => absurd h1 (by omega))
  rw [hj.satN]; exact hj
theorem satN_le (l : List Int) (c : Int) : satN l c ≤ l.length := by
  unfold satN
  generalize l.length = k
  induction k with
  | zero => exact Nat.le_refl _
  | succ k ih => unfold satTo; split <;> omega
/-- At the satellite time of a civil time. -/
theorem sat_at {l : List Int} (h : vl l = true) (c : Int) : cnt l (c + satN l c) = satN l c ∧ isIn l (c + satN l c) = false := by
  have s := sut h c
  generalize satN l c = j at s ⊢
  have k : Cut l (c + j) j := ⟨s.le, fun i hi => by have := s.lo i hi; omega, fun i h1 h2 => by have := s.hi i h1 h2; omega⟩
  refine ⟨k.cnt, ?_⟩
  rw [isIn_cut h k]
  refine decide_eq_false (fun ⟨a, b⟩ => ?_)
  have := s.hi j (Nat.le_refl _) a
  omega
/-- Before it. -/
theorem sat_before {l : List Int} (h : vl l = true) (c : Int) (t : Int) (h0 : c ≤ t) (h1 : t < c + satN l c) : t - cnt l t - b1 (isIn l t) < c := by
  have s := sut h c
  generalize satN l c = j at s h1
  rw [show t - (cnt l t : Int) - b1 (isIn l t) = t - cnt l (t + 1) from by rw [cnt_next h]; omega]
  have k := cut h (t + 1)
  generalize cnt l (t + 1) = m at k
  obtain ⟨d, hd⟩ := Int.eq_ofNat_of_zero_le (show 0 ≤ t - c by omega)
  have hdj : d < j := by omega
  rcases Nat.lt_or_ge d m with a | a
  · omega
  · have h2 := s.lo d hdj
    have h3 := k.hi d a (by have := s.le; omega)
    omega
end Go.Proofs.Ytgbbbmljanlogaa.L
