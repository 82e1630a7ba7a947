/-
  The plain arithmetic of labels (chapter 14): valid labels, gains, labels of pulses. No program is read here.
-/
import Derived.Test.YtgbbbmljanlogaaUMath
import Derived.Test.YtgbbbmljanlogaaVMathB
namespace Go.Proofs.Ytgbbbmljanlogaa.G
set_option linter.unusedVariables false
def okAt (l : List (Int × Int)) (i : Nat) : Prop := ((0 ≤ V.lo l i ∧ V.lo l i ≤ 100000000) ∧ (0 ≤ V.hi l i ∧ V.hi l i ≤ 3786479999)) ∧ (0 < i → V.lo l (i - 1) < V.lo l i)
def okTo (l : List (Int × Int)) (k : Nat) : Prop := ∀ i, i < k → okAt l i
instance (l : List (Int × Int)) (i : Nat) : Decidable (okAt l i) := by unfold okAt; infer_instance
instance (l : List (Int × Int)) (k : Nat) : Decidable (okTo l k) := by unfold okTo; infer_instance
theorem okTo_succ {l : List (Int × Int)} {k : Nat} (h : okTo l k) (h' : okAt l k) : okTo l (k + 1) := fun i hi => by
  rcases Nat.lt_or_ge i k with a | a
  · exact h i a
  · obtain rfl : i = k := by omega
    exact h'
def vl (l : List (Int × Int)) : Bool := decide (l.length ≤ 16 ∧ okTo l l.length)
theorem vl_of {l : List (Int × Int)} (h : vl l = true) : l.length ≤ 16 ∧ okTo l l.length := of_decide_eq_true h
theorem vl_yes {l : List (Int × Int)} (h : l.length ≤ 16) (k : okTo l l.length) : vl l = true := decide_eq_true ⟨h, k⟩
theorem vl_long {l : List (Int × Int)} (h : 16 < l.length) : vl l = false := decide_eq_false (fun k => by omega)
theorem vl_bad {l : List (Int × Int)} (i : Nat) (hi : i < l.length) (h : ¬ okAt l i) : vl l = false := decide_eq_false (fun k => h (k.2 i hi))
theorem rng {l : List (Int × Int)} (h : vl l = true) {i : Nat} (hi : i < l.length) : (0 ≤ V.lo l i ∧ V.lo l i ≤ 100000000) ∧ (0 ≤ V.hi l i ∧ V.hi l i ≤ 3786479999) := ((vl_of h).2 i hi).1
/-- The first k times ascend. -/
def taTo (l : List (Int × Int)) (k : Nat) : Prop := ∀ i, i < k → 0 < i → V.hi l (i - 1) < V.hi l i
instance (l : List (Int × Int)) (k : Nat) : Decidable (taTo l k) := by unfold taTo; infer_instance
theorem taTo_succ {l : List (Int × Int)} {k : Nat} (h : taTo l k) (h' : 0 < k → V.hi l (k - 1) < V.hi l k) : taTo l (k + 1) := fun i hi h0 => by
  rcases Nat.lt_or_ge i k with a | a
  · exact h i a h0
  · obtain rfl : i = k := by omega
    exact h' h0
def ta (l : List (Int × Int)) : Bool := decide (taTo l l.length)
theorem ta_of {l : List (Int × Int)} (h : ta l = true) : taTo l l.length := of_decide_eq_true h
theorem ta_yes {l : List (Int × Int)} (h : taTo l l.length) : ta l = true := decide_eq_true h
theorem ta_no {l : List (Int × Int)} (i : Nat) (hi : i < l.length) (h0 : 0 < i) (h : ¬ V.hi l (i - 1) < V.hi l i) : ta l = false := decide_eq_false (fun k => h (k i hi h0))
def gok (l : List (Int × Int)) : Bool := decide (2 ≤ l.length ∧ vl l = true ∧ ta l = true)
theorem gok_of {l : List (Int × Int)} (h : gok l = true) : 2 ≤ l.length ∧ vl l = true ∧ ta l = true := of_decide_eq_true h
theorem gok_yes {l : List (Int × Int)} (h : 2 ≤ l.length ∧ vl l = true ∧ ta l = true) : gok l = true := decide_eq_true h
theorem gok_no {l : List (Int × Int)} (h : ¬ (2 ≤ l.length ∧ vl l = true ∧ ta l = true)) : gok l = false := decide_eq_false h
def gv (l : List (Int × Int)) : Int := V.lo l (l.length - 1) - V.lo l 0 - 1000000 * (V.hi l (l.length - 1) - V.hi l 0)
def gn (l : List (Int × Int)) : Int := if gok l = true then gv l else 0
theorem gn_yes {l : List (Int × Int)} (h : gok l = true) : gn l = gv l := if_pos h
theorem gn_no {l : List (Int × Int)} (h : gok l = false) : gn l = 0 := if_neg (by rw [h]; decide)
/-! parts -/
theorem vl_tk {l : List (Int × Int)} (h : vl l = true) {k : Nat} (hk : k ≤ l.length) : vl (V.tk l k) = true := by
  have e : (V.tk l k).length = k := by unfold V.tk; rw [List.length_take]; omega
  refine vl_yes (by have := (vl_of h).1; omega) (fun i hi => ?_)
  rw [e] at hi
  have := (vl_of h).2 i (by omega)
  unfold okAt V.tk at *
  rw [(V.lo_take hi).1, (V.lo_take hi).2, (V.lo_take (show i - 1 < k by omega)).1]
  exact this
theorem ta_tk {l : List (Int × Int)} (h : ta l = true) {k : Nat} (hk : k ≤ l.length) : ta (V.tk l k) = true := by
  have e : (V.tk l k).length = k := by unfold V.tk; rw [List.length_take]; omega
  refine ta_yes (fun i hi h0 => ?_)
  rw [e] at hi
  have := ta_of h i (by omega) h0
  unfold V.tk
  rw [(V.lo_take hi).2, (V.lo_take (show i - 1 < k by omega)).2]
  exact this
theorem vl_dr {l : List (Int × Int)} (h : vl l = true) {k : Nat} (hk : k ≤ l.length) : vl (V.dr l k) = true := by
  have e : (V.dr l k).length = l.length - k := by unfold V.dr; rw [List.length_drop]
  refine vl_yes (by have := (vl_of h).1; omega) (fun i hi => ?_)
  rw [e] at hi
  have := (vl_of h).2 (k + i) (by omega)
  unfold okAt V.dr at *
  rw [(V.lo_drop l k i).1, (V.lo_drop l k i).2, (V.lo_drop l k (i - 1)).1]
  refine ⟨this.1, fun h0 => ?_⟩
  have := this.2 (by omega)
  rw [show k + i - 1 = k + (i - 1) by omega] at this
  exact this
theorem ta_dr {l : List (Int × Int)} (h : ta l = true) {k : Nat} (hk : k ≤ l.length) : ta (V.dr l k) = true := by
  have e : (V.dr l k).length = l.length - k := by unfold V.dr; rw [List.length_drop]
  refine ta_yes (fun i hi h0 => ?_)
  rw [e] at hi
  have := ta_of h (k + i) (by omega) (by omega)
  unfold V.dr
  rw [(V.lo_drop l k i).2, (V.lo_drop l k (i - 1)).2]
  rw [show k + i - 1 = k + (i - 1) by omega] at this
  exact this
/-- Gains add up. -/
theorem gn_parts {l : List (Int × Int)} (h : gok l = true) {k : Nat} (h1 : 1 ≤ k) (hk : k + 1 < l.length) : gok (V.tk l (k + 1)) = true ∧ gok (V.dr l k) = true ∧ gn (V.tk l (k + 1)) + gn (V.dr l k) = gn l := by
  obtain ⟨h2, hv, ht⟩ := gok_of h
  have e1 : (V.tk l (k + 1)).length = k + 1 := by unfold V.tk; rw [List.length_take]; omega
  have e2 : (V.dr l k).length = l.length - k := by unfold V.dr; rw [List.length_drop]
  have g1 := gok_yes ⟨by omega, vl_tk hv (k := k + 1) (by omega), ta_tk ht (k := k + 1) (by omega)⟩
  have g2 := gok_yes ⟨by omega, vl_dr hv (k := k) (by omega), ta_dr ht (k := k) (by omega)⟩
  refine ⟨g1, g2, ?_⟩
  rw [gn_yes g1, gn_yes g2, gn_yes h]
  unfold gv
  rw [e1, e2]
  unfold V.tk V.dr
  rw [Nat.add_sub_cancel, (V.lo_take (show k < k + 1 by omega)).1, (V.lo_take (show k < k + 1 by omega)).2, (V.lo_take (show 0 < k + 1 by omega)).1, (V.lo_take (show 0 < k + 1 by omega)).2]
  rw [(V.lo_drop l k _).1, (V.lo_drop l k _).2, (V.lo_drop l k 0).1, (V.lo_drop l k 0).2]
  rw [show k + (l.length - k - 1) = l.length - 1 by omega, Nat.add_zero]
  omega
/-- The counts all greater by c. -/
def up (c : Int) (l : List (Int × Int)) : List (Int × Int) := l.map (fun p => (p.1 + c, p.2))
theorem up_len (c : Int) (l : List (Int × Int)) : (up c l).length = l.length := by simp [up]
theorem up_at (c : Int) (l : List (Int × Int)) (i : Nat) (h : i < l.length) : V.lo (up c l) i = V.lo l i + c ∧ V.hi (up c l) i = V.hi l i := by
  unfold V.lo V.hi up
  rw [List.getD_eq_getElem?_getD, List.getD_eq_getElem?_getD, List.getElem?_map, List.getElem?_eq_getElem h]; exact ⟨rfl, rfl⟩
theorem asc {l : List (Int × Int)} (h : vl l = true) : ∀ j i : Nat, i < j → j < l.length → V.lo l i < V.lo l j
  | 0, i, hi, _ => absurd hi (by omega)
  | j + 1, i, hi, hj => by
    have h1 := ((vl_of h).2 (j + 1) hj).2 (by omega)
    simp only [Nat.add_sub_cancel] at h1
    rcases Nat.lt_or_ge i j with a | a
    · have := asc h j i a (by omega); omega
    · obtain rfl : i = j := by omega
      exact h1
theorem gn_up {c : Int} {l : List (Int × Int)} (h : gok l = true) (hc : 0 ≤ c) (hlast : V.lo l (l.length - 1) + c ≤ 100000000) : gok (up c l) = true ∧ gn (up c l) = gn l := by
  obtain ⟨h2, hv, ht⟩ := gok_of h
  have g : gok (up c l) = true := by
    refine gok_yes ⟨by rw [up_len]; exact h2, vl_yes (by rw [up_len]; exact (vl_of hv).1) (fun i hi => ?_), ta_yes (fun i hi h0 => ?_)⟩
    · rw [up_len] at hi
      have r := rng hv hi
      have ha : V.lo l i ≤ V.lo l (l.length - 1) := by
        rcases Nat.lt_or_ge i (l.length - 1) with a | a
        · exact Int.le_of_lt (asc hv _ _ a (by omega))
        · obtain rfl : i = l.length - 1 := by omega
          exact Int.le_refl _
      unfold okAt
      rw [(up_at c l i hi).1, (up_at c l i hi).2]
      refine ⟨⟨by omega, r.2⟩, fun h0 => ?_⟩
      rw [(up_at c l (i - 1) (by omega)).1]
      have := ((vl_of hv).2 i hi).2 h0
      omega
    · rw [up_len] at hi
      rw [(up_at c l i hi).2, (up_at c l (i - 1) (by omega)).2]
      exact ta_of ht i hi h0
  refine ⟨g, ?_⟩
  rw [gn_yes g, gn_yes h]
  unfold gv
  rw [up_len, (up_at c l _ (by omega)).1, (up_at c l _ (by omega)).2, (up_at c l 0 (by omega)).1, (up_at c l 0 (by omega)).2]
  omega
/-- Labels of an exact counter. -/
def ex (m : Nat) : List (Int × Int) := (List.range m).map (fun i : Nat => (500 + 3000000 * (i : Int), 70 + 3 * (i : Int)))
theorem ex_len (m : Nat) : (ex m).length = m := by simp [ex]
theorem ex_at {m i : Nat} (h : i < m) : V.lo (ex m) i = 500 + 3000000 * (i : Int) ∧ V.hi (ex m) i = 70 + 3 * (i : Int) := by
  unfold V.lo V.hi ex
  rw [List.getD_eq_getElem?_getD, List.getElem?_map, List.getElem?_range h]; exact ⟨rfl, rfl⟩
theorem ex_snoc (m : Nat) : ex (m + 1) = ex m ++ [(500 + 3000000 * (m : Int), 70 + 3 * (m : Int))] := by
  unfold ex; rw [List.range_succ, List.map_append]; rfl
theorem gn_ex {m : Nat} (h2 : 2 ≤ m) (h : m ≤ 16) : gok (ex m) = true ∧ gn (ex m) = 0 := by
  have g : gok (ex m) = true := by
    refine gok_yes ⟨by rw [ex_len]; exact h2, vl_yes (by rw [ex_len]; exact h) (fun i hi => ?_), ta_yes (fun i hi h0 => ?_)⟩
    · rw [ex_len] at hi
      unfold okAt
      rw [(ex_at hi).1, (ex_at hi).2]
      refine ⟨⟨by omega, by omega⟩, fun h0 => ?_⟩
      rw [(ex_at (show i - 1 < m by omega)).1]; omega
    · rw [ex_len] at hi
      rw [(ex_at hi).2, (ex_at (show i - 1 < m by omega)).2]; omega
  refine ⟨g, ?_⟩
  rw [gn_yes g]
  unfold gv
  rw [ex_len, (ex_at (show m - 1 < m by omega)).1, (ex_at (show m - 1 < m by omega)).2, (ex_at (show 0 < m by omega)).1, (ex_at (show 0 < m by omega)).2]
  omega
/-! ### labels of pulses -/
/-- The last of the first k pulses that is not greater than c; -1 if there is none. -/
def lastTo (ps : List Int) (c : Int) : Nat → Int
  | 0 => -1
  | k + 1 => if L.g ps k ≤ c then L.g ps k else lastTo ps c k
theorem lastTo_yes {ps : List Int} {c : Int} {k : Nat} (h : L.g ps k ≤ c) : lastTo ps c (k + 1) = L.g ps k := if_pos h
theorem lastTo_no {ps : List Int} {c : Int} {k : Nat} (h : ¬ L.g ps k ≤ c) : lastTo ps c (k + 1) = lastTo ps c k := if_neg h
def last (ps : List Int) (c : Int) : Int := lastTo ps c ps.length
theorem lastTo_up {ps : List Int} {c : Int} (j : Nat) : ∀ k, j ≤ k → (∀ i, j ≤ i → i < k → c < L.g ps i) → lastTo ps c k = lastTo ps c j
  | 0, hk, h => by obtain rfl : j = 0 := by omega
                   rfl
  | k + 1, hk, h => by
    rcases Nat.lt_or_ge k j with a | a
    · obtain rfl : j = k + 1 := by omega
      rfl
    · rw [lastTo_no (by have := h k a (by omega); omega)]
      exact lastTo_up j k a (fun i h1 h2 => h i h1 (by omega))
/-- Where the pulses are cut in two by c. -/
theorem last_cut {ps : List Int} {c : Int} (hv : U.vp ps = true) {j : Nat} (hj : j ≤ ps.length) (hlo : ∀ i, i < j → L.g ps i ≤ c) (hhi : j = ps.length ∨ c < L.g ps j) : last ps c = if j = 0 then -1 else L.g ps (j - 1) := by
  unfold last
  rw [lastTo_up j _ hj (fun i h1 h2 => by
    rcases hhi with h | h
    · omega
    · rcases Nat.lt_or_ge j i with a | a
      · have := U.asc hv a h2; omega
      · obtain rfl : i = j := by omega
        exact h)]
  rcases j with _ | m
  · rfl
  · rw [lastTo_yes (hlo m (by omega))]; simp
theorem lastTo_in (ps : List Int) (c : Int) : ∀ k, lastTo ps c k = -1 ∨ ∃ j, j < k ∧ lastTo ps c k = L.g ps j ∧ L.g ps j ≤ c
  | 0 => .inl rfl
  | k + 1 => by
    by_cases h : L.g ps k ≤ c
    · rw [lastTo_yes h]; exact .inr ⟨k, by omega, rfl, h⟩
    · rw [lastTo_no h]
      rcases lastTo_in ps c k with e | ⟨j, hj, e⟩
      · exact .inl e
      · exact .inr ⟨j, by omega, e⟩
/-- No pulse that is not greater than c is greater than the last one. -/
theorem lastTo_max {ps : List Int} (hv : U.vp ps = true) (c : Int) : ∀ k, k ≤ ps.length → ∀ i, i < k → L.g ps i ≤ c → L.g ps i ≤ lastTo ps c k
  | 0, _, i, hi, _ => absurd hi (by omega)
  | k + 1, hk, i, hi, h => by
    by_cases hc : L.g ps k ≤ c
    · rw [lastTo_yes hc]
      rcases Nat.lt_or_ge i k with a | a
      · exact Int.le_of_lt (U.asc hv a (by omega))
      · obtain rfl : i = k := by omega
        exact Int.le_refl _
    · rw [lastTo_no hc]
      rcases Nat.lt_or_ge i k with a | a
      · exact lastTo_max hv c k (by omega) i a h
      · obtain rfl : i = k := by omega
        exact absurd h hc
/-- Is there a pulse for a label? -/
def hit (ps : List Int) (c : Int) : Prop := 0 ≤ last ps c ∧ c - last ps c ≤ 700000
instance (ps : List Int) (c : Int) : Decidable (hit ps c) := by unfold hit; infer_instance
def lbs (ps : List Int) (ls : List (Int × Int)) : Nat → List (Int × Int)
  | 0 => []
  | k + 1 => if hit ps (V.lo ls k) then lbs ps ls k ++ [(last ps (V.lo ls k), V.hi ls k)] else lbs ps ls k
theorem lbs_yes {ps : List Int} {ls : List (Int × Int)} {k : Nat} (h : hit ps (V.lo ls k)) : lbs ps ls (k + 1) = lbs ps ls k ++ [(last ps (V.lo ls k), V.hi ls k)] := if_pos h
theorem lbs_no {ps : List Int} {ls : List (Int × Int)} {k : Nat} (h : ¬ hit ps (V.lo ls k)) : lbs ps ls (k + 1) = lbs ps ls k := if_neg h
theorem lbs_len (ps : List Int) (ls : List (Int × Int)) : ∀ k, (lbs ps ls k).length ≤ k
  | 0 => Nat.le_refl _
  | k + 1 => by
    have := lbs_len ps ls k
    by_cases h : hit ps (V.lo ls k)
    · rw [lbs_yes h]; simp; omega
    · rw [lbs_no h]; omega
def lok (ps : List Int) (ls : List (Int × Int)) : Bool := U.vp ps && vl ls
def lp (ps : List Int) (ls : List (Int × Int)) : List (Int × Int) := if lok ps ls = true then lbs ps ls ls.length else []
theorem lp_yes {ps : List Int} {ls : List (Int × Int)} (h : U.vp ps = true) (k : vl ls = true) : lp ps ls = lbs ps ls ls.length := if_pos (by unfold lok; rw [h, k]; rfl)
theorem lp_no1 {ps : List Int} {ls : List (Int × Int)} (h : U.vp ps = false) : lp ps ls = [] := if_neg (by unfold lok; rw [h]; simp)
theorem lp_no2 {ps : List Int} {ls : List (Int × Int)} (h : vl ls = false) : lp ps ls = [] := if_neg (by unfold lok; rw [h]; cases U.vp ps <;> decide)
theorem lp_len (ps : List Int) (ls : List (Int × Int)) : (lp ps ls).length ≤ ls.length ∧ (lp ps ls).length ≤ 16 := by
  rcases h : U.vp ps with _ | _
  · rw [lp_no1 h]; simp
  · rcases k : vl ls with _ | _
    · rw [lp_no2 k]; simp
    · rw [lp_yes h k]; have := lbs_len ps ls ls.length; have := (vl_of k).1; omega
/-- Without pulses there are no labels, and none without labels. -/
theorem lp_nil1 (ls : List (Int × Int)) : lp [] ls = [] := by
  rcases k : vl ls with _ | _
  · exact lp_no2 k
  · rw [lp_yes (by decide) k]
    have : ∀ m, lbs [] ls m = [] := fun m => by
      induction m with
      | zero => rfl
      | succ m ih => rw [lbs_no (fun h => by have := h.1; unfold last lastTo at this; simp at this), ih]
    exact this _
theorem lp_nil2 (ps : List Int) : lp ps [] = [] := by
  have := (lp_len ps []).1
  exact List.length_eq_zero_iff.1 (by simpa using this)
theorem lo_snoc (l : List (Int × Int)) (x y : Int) (i : Nat) : (i < l.length → V.lo (l ++ [(x, y)]) i = V.lo l i ∧ V.hi (l ++ [(x, y)]) i = V.hi l i) ∧ (V.lo (l ++ [(x, y)]) l.length = x ∧ V.hi (l ++ [(x, y)]) l.length = y) := by
  unfold V.lo V.hi
  refine ⟨fun h => ?_, ?_⟩
  · rw [List.getD_eq_getElem?_getD, List.getD_eq_getElem?_getD, List.getElem?_append_left h]; exact ⟨rfl, rfl⟩
  · rw [List.getD_eq_getElem?_getD, List.getElem?_append_right (Nat.le_refl _)]; simp
/-- Where the labels of pulses come from. -/
theorem lbs_src (ps : List Int) (ls : List (Int × Int)) : ∀ k, ∃ f : Nat → Nat, (∀ i, i < (lbs ps ls k).length → f i < k ∧ V.hi ls (f i) = V.hi (lbs ps ls k) i ∧ V.lo (lbs ps ls k) i = last ps (V.lo ls (f i)) ∧ hit ps (V.lo ls (f i))) ∧ (∀ i j, i < j → j < (lbs ps ls k).length → f i < f j)
  | 0 => ⟨fun _ => 0, fun i hi => absurd hi (by simp [lbs]), fun i j _ hj => absurd hj (by simp [lbs])⟩
  | k + 1 => by
    obtain ⟨f, h1, h2⟩ := lbs_src ps ls k
    by_cases h : hit ps (V.lo ls k)
    · rw [lbs_yes h]
      generalize lbs ps ls k = X at *
      refine ⟨fun i => if i < X.length then f i else k, fun i hi => ?_, fun i j hij hj => ?_⟩
      · simp only [List.length_append, List.length_cons, List.length_nil] at hi
        by_cases a : i < X.length
        · simp only [a, if_true]
          have e := (lo_snoc X (last ps (V.lo ls k)) (V.hi ls k) i).1 a
          obtain ⟨a1, a2, a3, a4⟩ := h1 i a
          rw [e.1, e.2]
          exact ⟨by omega, a2, a3, a4⟩
        · obtain rfl : i = X.length := by omega
          simp only [Nat.lt_irrefl, if_false]
          have e := (lo_snoc X (last ps (V.lo ls k)) (V.hi ls k) 0).2
          rw [e.1, e.2]
          exact ⟨by omega, rfl, rfl, h⟩
      · simp only [List.length_append, List.length_cons, List.length_nil] at hj
        by_cases a : j < X.length
        · simp only [a, if_true, show i < X.length by omega]
          exact h2 i j hij a
        · simp only [a, if_false, show i < X.length by omega, if_true]
          exact (h1 i (by omega)).1
    · rw [lbs_no h]
      exact ⟨f, fun i hi => by obtain ⟨a, b⟩ := h1 i hi; exact ⟨by omega, b⟩, h2⟩
theorem hit_in {ps : List Int} {c : Int} (h : hit ps c) : last ps c ≤ c ∧ c ≤ last ps c + 700000 ∧ ∃ j, j < ps.length ∧ L.g ps j = last ps c := by
  have h1 := h.1
  have h2 := h.2
  unfold last at *
  rcases lastTo_in ps c ps.length with e | ⟨j, hj, e, hc⟩
  · omega
  · exact ⟨by omega, by omega, j, hj, e.symm⟩
/-- One label alone. -/
theorem lp_one {ps : List Int} {ls : List (Int × Int)} (h1 : ls.length = 1) : lp ps ls = [] ∨ (U.vp ps = true ∧ lp ps ls = [(last ps (V.lo ls 0), V.hi ls 0)]) := by
  rcases h : U.vp ps with _ | _
  · exact .inl (lp_no1 h)
  · rcases k : vl ls with _ | _
    · exact .inl (lp_no2 k)
    · rw [lp_yes h k, h1]
      by_cases q : hit ps (V.lo ls 0)
      · right; rw [lbs_yes q]; exact ⟨rfl, rfl⟩
      · left; rw [lbs_no q]; rfl
theorem last_between {ps : List Int} (hv : U.vp ps = true) {c : Int} {i : Nat} (hi : i < ps.length) : ¬ (last ps c < L.g ps i ∧ L.g ps i ≤ c) := fun ⟨h1, h2⟩ => by
  have := lastTo_max hv c ps.length (Nat.le_refl _) i hi h2
  unfold last at h1
  omega
end Go.Proofs.Ytgbbbmljanlogaa.G
