/-
  The plain mathematics of second differences, deviations and steps (chapter 8).
-/
import Derived.Test.YtijkglhgmojffaaPMath
namespace Go.Proofs.Ytijkglhgmojffaa.F
set_option linter.unusedVariables false
/-- The second difference at k, with the step s. -/
def sd (l : List Int) (s k : Nat) : Int := L.g l (k + 2 * s) - 2 * L.g l (k + s) + L.g l k
theorem sd_eq (l : List Int) (s k : Nat) : sd l s k = L.g l (k + 2 * s) - 2 * L.g l (k + s) + L.g l k := rfl
/-- The first k of them. -/
def sds (l : List Int) (s k : Nat) : List Int := (List.range k).map (sd l s)
theorem sds_len (l : List Int) (s k : Nat) : (sds l s k).length = k := by simp [sds]
theorem sds_snoc (l : List Int) (s k : Nat) : sds l s k ++ [sd l s k] = sds l s (k + 1) := by unfold sds; rw [List.range_succ, List.map_append]; rfl
theorem sds_g (l : List Int) (s k i : Nat) (h : i < k) : L.g (sds l s k) i = sd l s i := by
  unfold L.g sds
  rw [List.getD_eq_getElem?_getD, List.getElem?_map, List.getElem?_range h]; rfl
theorem vp_g {l : List Int} (h : vp l = true) (i : Nat) : -1000000 ≤ L.g l i ∧ L.g l i ≤ 1000000 := by
  rcases Nat.lt_or_ge i l.length with a | a
  · exact (vp_of h).2 i a
  · unfold L.g
    rw [List.getD_eq_getElem?_getD, List.getElem?_eq_none a]
    exact ⟨by decide, by decide⟩
theorem sd_in {l : List Int} (h : vp l = true) (s k : Nat) : -4000000 ≤ sd l s k ∧ sd l s k ≤ 4000000 := by
  have h0 := vp_g h k
  have h1 := vp_g h (k + s)
  have h2 := vp_g h (k + 2 * s)
  unfold sd
  omega
/-- The arguments that SecondDiffs takes. -/
def dok (l : List Int) (st : Int) : Bool := decide (vp l = true ∧ 1 ≤ st ∧ st ≤ 16)
theorem dok_of {l : List Int} {st : Int} (h : dok l st = true) : vp l = true ∧ 1 ≤ st ∧ st ≤ 16 := of_decide_eq_true h
theorem dok_yes {l : List Int} {st : Int} (h : vp l = true ∧ 1 ≤ st ∧ st ≤ 16) : dok l st = true := decide_eq_true h
theorem dok_no {l : List Int} {st : Int} (h : ¬ (vp l = true ∧ 1 ≤ st ∧ st ≤ 16)) : dok l st = false := decide_eq_false h
/-- SecondDiffs. -/
def sdr (l : List Int) (st : Int) : List Int := if dok l st = true then sds l st.toNat (l.length - 2 * st.toNat) else []
theorem sdr_no {l : List Int} {st : Int} (h : dok l st = false) : sdr l st = [] := if_neg (by rw [h]; decide)
theorem sdr_yes {l : List Int} {s : Nat} (h : dok l (s : Int) = true) : sdr l (s : Int) = sds l s (l.length - 2 * s) := by
  unfold sdr; rw [if_pos h]; simp
theorem sdr_in (l : List Int) (st : Int) (i : Nat) : -4000000 ≤ L.g (sdr l st) i ∧ L.g (sdr l st) i ≤ 4000000 := by
  rcases hd : dok l st with _ | _
  · rw [sdr_no hd, show L.g ([] : List Int) i = 0 by simp [L.g]]; exact ⟨by decide, by decide⟩
  · have h1 := dok_of hd
    obtain ⟨s, rfl⟩ := Int.eq_ofNat_of_zero_le (show 0 ≤ st by omega)
    rw [sdr_yes hd]
    rcases Nat.lt_or_ge i (l.length - 2 * s) with a | a
    · rw [sds_g _ _ _ _ a]; exact sd_in h1.1 _ _
    · unfold L.g
      rw [List.getD_eq_getElem?_getD, List.getElem?_eq_none (by rw [sds_len]; exact a)]
      exact ⟨by decide, by decide⟩
theorem sdr_len (l : List Int) (st : Int) : (sdr l st).length ≤ 16 := by
  rcases hd : dok l st with _ | _
  · rw [sdr_no hd]; decide
  · have h1 := dok_of hd
    obtain ⟨s, rfl⟩ := Int.eq_ofNat_of_zero_le (show 0 ≤ st by omega)
    rw [sdr_yes hd, sds_len]
    have := (vp_of h1.1).1
    omega
theorem sq_in {x A : Int} (h : -A ≤ x ∧ x ≤ A) : 0 ≤ x * x ∧ x * x ≤ A * A := by
  rcases Int.le_total 0 x with h0 | h0
  · exact ⟨Int.mul_nonneg h0 h0, Int.mul_le_mul h.2 h.2 h0 (by omega)⟩
  · have e : x * x = (-x) * (-x) := by rw [Int.neg_mul_neg]
    rw [e]
    exact ⟨Int.mul_nonneg (by omega) (by omega), Int.mul_le_mul (by omega) (by omega) (by omega) (by omega)⟩
/-- The sum of the squares of the first k. -/
def sqs (l : List Int) : Nat → Int
  | 0 => 0
  | k + 1 => sqs l k + L.g l k * L.g l k
theorem sqs_succ (l : List Int) (k : Nat) : sqs l (k + 1) = sqs l k + L.g l k * L.g l k := rfl
theorem sqs_in {l : List Int} (h : ∀ i, -4000000 ≤ L.g l i ∧ L.g l i ≤ 4000000) : ∀ k, 0 ≤ sqs l k ∧ sqs l k ≤ 16000000000000 * (k : Int)
  | 0 => by simp [sqs]
  | k + 1 => by
    have h1 := sqs_in h k
    have h2 := sq_in (h k)
    rw [sqs_succ]
    push_cast
    omega
/-- DeviationOf, of the second differences. -/
def dv (d : List Int) : Int := if d.length = 0 then -1 else sqs d d.length / (2 * (d.length : Int))
theorem dv_no {d : List Int} (h : d.length = 0) : dv d = -1 := if_pos h
theorem dv_yes {d : List Int} (h : 0 < d.length) : dv d = sqs d d.length / (2 * (d.length : Int)) := if_neg (by omega)
def dev (l : List Int) (st : Int) : Int := dv (sdr l st)
theorem div_in {a b M : Int} (ha : 0 ≤ a) (hb : 1 ≤ b) (hM : a ≤ M) : 0 ≤ a / b ∧ a / b ≤ M := by
  refine ⟨Int.ediv_nonneg ha (by omega), ?_⟩
  have h1 : a / b ≤ a := Int.ediv_le_self _ ha
  omega
theorem dev_in (l : List Int) (st : Int) : -1 ≤ dev l st ∧ dev l st ≤ 256000000000000 := by
  unfold dev
  rcases Nat.eq_zero_or_pos (sdr l st).length with h0 | h0
  · rw [dv_no h0]; omega
  · rw [dv_yes h0]
    have h1 := sqs_in (sdr_in l st) (sdr l st).length
    have h2 := sdr_len l st
    have h3 := div_in (b := 2 * ((sdr l st).length : Int)) h1.1 (by omega) (show sqs (sdr l st) (sdr l st).length ≤ 256000000000000 by omega)
    omega
theorem dev_neg {l : List Int} {st : Int} : dev l st < 0 ↔ (sdr l st).length = 0 := by
  unfold dev
  rcases Nat.eq_zero_or_pos (sdr l st).length with h0 | h0
  · rw [dv_no h0]; omega
  · rw [dv_yes h0]
    have h1 := sqs_in (sdr_in l st) (sdr l st).length
    have h3 := div_in (b := 2 * ((sdr l st).length : Int)) h1.1 (by omega) (Int.le_refl _)
    omega
/-- Where a step has no second differences, the longer ones have none. -/
theorem dev_more {l : List Int} {a b : Nat} (h0 : 1 ≤ a) (h : dev l (a : Int) < 0) (hab : a ≤ b) : dev l (b : Int) < 0 := by
  rw [dev_neg] at h ⊢
  rcases hd : dok l (b : Int) with _ | _
  · rw [sdr_no hd]; rfl
  · have h1 := dok_of hd
    have hd' : dok l (a : Int) = true := dok_yes ⟨h1.1, by omega, by omega⟩
    rw [sdr_yes hd', sds_len] at h
    rw [sdr_yes hd, sds_len]
    omega
theorem dev_pos_len {l : List Int} {a : Nat} (h : 0 ≤ dev l (a : Int)) : 2 * a < l.length := by
  rcases hd : dok l (a : Int) with _ | _
  · have := dev_neg.2 (show (sdr l (a : Int)).length = 0 by rw [sdr_no hd]; rfl); omega
  · rcases Nat.lt_or_ge (2 * a) l.length with h2 | h2
    · exact h2
    · have := dev_neg.2 (show (sdr l (a : Int)).length = 0 by rw [sdr_yes hd, sds_len]; omega); omega
/-- The best step among the first k, and what it deviates. -/
def bl (l : List Int) : Nat → Int × Int
  | 0 => (0, 0)
  | k + 1 => if 0 ≤ dev l ((k + 1 : Nat) : Int) ∧ ((bl l k).1 = 0 ∨ dev l ((k + 1 : Nat) : Int) / (((k + 1 : Nat) : Int) * ((k + 1 : Nat) : Int)) < (bl l k).2) then (((k + 1 : Nat) : Int), dev l ((k + 1 : Nat) : Int) / (((k + 1 : Nat) : Int) * ((k + 1 : Nat) : Int))) else bl l k
theorem bl_yes {l : List Int} {k : Nat} (h : 0 ≤ dev l ((k + 1 : Nat) : Int) ∧ ((bl l k).1 = 0 ∨ dev l ((k + 1 : Nat) : Int) / (((k + 1 : Nat) : Int) * ((k + 1 : Nat) : Int)) < (bl l k).2)) : bl l (k + 1) = (((k + 1 : Nat) : Int), dev l ((k + 1 : Nat) : Int) / (((k + 1 : Nat) : Int) * ((k + 1 : Nat) : Int))) := if_pos h
theorem bl_no {l : List Int} {k : Nat} (h : ¬ (0 ≤ dev l ((k + 1 : Nat) : Int) ∧ ((bl l k).1 = 0 ∨ dev l ((k + 1 : Nat) : Int) / (((k + 1 : Nat) : Int) * ((k + 1 : Nat) : Int)) < (bl l k).2))) : bl l (k + 1) = bl l k := if_neg h
def bs (l : List Int) : Int := (bl l 16).1
theorem bl_stop {l : List Int} {k : Nat} (h : dev l ((k + 1 : Nat) : Int) < 0) : ∀ j, bl l (k + j) = bl l k
  | 0 => rfl
  | j + 1 => by
    have h1 := dev_more (b := k + j + 1) (by omega) h (by omega)
    rw [show k + (j + 1) = (k + j) + 1 by omega, bl_no (fun q => by omega), bl_stop h j]
theorem sq_pos (k : Nat) : (1 : Int) ≤ ((k + 1 : Nat) : Int) * ((k + 1 : Nat) : Int) := by
  have h1 : (1 : Int) ≤ ((k + 1 : Nat) : Int) := by omega
  have := Int.mul_le_mul h1 h1 (by omega) (by omega)
  omega
/-- What is known of the best step so far. -/
structure Best (l : List Int) (k : Nat) (b m : Int) : Prop where
  lo : 0 ≤ b
  hi : b ≤ (k : Int)
  none_ : b = 0 → m = 0 ∧ ∀ j : Nat, 1 ≤ j → j ≤ k → dev l (j : Int) < 0
  some_ : b ≠ 0 → 0 ≤ dev l b ∧ m = dev l b / (b * b) ∧ ∀ j : Nat, 1 ≤ j → j ≤ k → 0 ≤ dev l (j : Int) → (m < dev l (j : Int) / ((j : Int) * (j : Int)) ∨ (m = dev l (j : Int) / ((j : Int) * (j : Int)) ∧ b ≤ (j : Int)))
theorem best (l : List Int) : ∀ k, Best l k (bl l k).1 (bl l k).2
  | 0 => ⟨by simp [bl], by simp [bl], fun _ => ⟨rfl, fun j h1 h2 => by omega⟩, fun h => absurd rfl h⟩
  | k + 1 => by
    have ih := best l k
    by_cases hc : 0 ≤ dev l ((k + 1 : Nat) : Int) ∧ ((bl l k).1 = 0 ∨ dev l ((k + 1 : Nat) : Int) / (((k + 1 : Nat) : Int) * ((k + 1 : Nat) : Int)) < (bl l k).2)
    · rw [bl_yes hc]
      refine ⟨by simp; omega, Int.le_refl _, fun h => by exfalso; simp at h; omega, fun _ => ⟨hc.1, rfl, fun j h1 h2 h3 => ?_⟩⟩
      rcases Nat.lt_or_ge k j with hj | hj
      · obtain rfl : j = k + 1 := by omega
        exact .inr ⟨rfl, Int.le_refl _⟩
      · left
        rcases hc.2 with h0 | h0
        · have := (ih.none_ h0).2 j h1 hj; omega
        · by_cases hb : (bl l k).1 = 0
          · have := (ih.none_ hb).2 j h1 hj; omega
          · rcases (ih.some_ hb).2.2 j h1 hj h3 with h4 | h4
            · exact Int.lt_trans h0 h4
            · rw [← h4.1]; exact h0
    · rw [bl_no hc]
      refine ⟨ih.lo, by have := ih.hi; push_cast; omega, fun h => ⟨(ih.none_ h).1, fun j h1 h2 => ?_⟩, fun h => ⟨(ih.some_ h).1, (ih.some_ h).2.1, fun j h1 h2 h3 => ?_⟩⟩
      · rcases Nat.lt_or_ge k j with hj | hj
        · obtain rfl : j = k + 1 := by omega
          rcases Int.lt_or_le (dev l ((k + 1 : Nat) : Int)) 0 with h3 | h3
          · exact h3
          · exact absurd ⟨h3, .inl h⟩ hc
        · exact (ih.none_ h).2 j h1 hj
      · rcases Nat.lt_or_ge k j with hj | hj
        · obtain rfl : j = k + 1 := by omega
          rcases Int.lt_or_le (dev l ((k + 1 : Nat) : Int) / (((k + 1 : Nat) : Int) * ((k + 1 : Nat) : Int))) (bl l k).2 with h4 | h4
          · exact absurd ⟨h3, .inr h4⟩ hc
          · have h5 := ih.hi
            rcases Int.lt_or_eq_of_le h4 with h6 | h6
            · exact .inl h6
            · exact .inr ⟨h6, by push_cast; omega⟩
        · exact (ih.some_ h).2.2 j h1 hj h3
theorem bl_in (l : List Int) (k : Nat) : 0 ≤ (bl l k).1 ∧ (bl l k).1 ≤ (k : Int) ∧ 0 ≤ (bl l k).2 ∧ (bl l k).2 ≤ 256000000000000 := by
  have h := best l k
  refine ⟨h.lo, h.hi, ?_⟩
  by_cases h0 : (bl l k).1 = 0
  · rw [(h.none_ h0).1]; omega
  · have h1 := h.some_ h0
    rw [h1.2.1]
    have h2 := dev_in l (bl l k).1
    have h3 : (1 : Int) ≤ (bl l k).1 := by have := h.lo; omega
    have h4 := Int.mul_le_mul h3 h3 (by omega) (by omega)
    exact div_in h1.1 (by omega) h2.2
theorem sq_nat {j : Nat} (h1 : 1 ≤ j) (h2 : j ≤ 17) : (1 : Int) ≤ (j : Int) * (j : Int) ∧ (j : Int) * (j : Int) ≤ 289 := by
  have a : (1 : Int) ≤ (j : Int) := by omega
  have b : (j : Int) ≤ 17 := by omega
  have c := Int.mul_le_mul a a (by omega) (by omega)
  have d := Int.mul_le_mul b b (by omega) (by omega)
  omega
theorem bl_take {l : List Int} {j : Nat} (h : 1 ≤ j) (h0 : 0 ≤ dev l (j : Int)) (h1 : (bl l (j - 1)).1 = 0 ∨ dev l (j : Int) / ((j : Int) * (j : Int)) < (bl l (j - 1)).2) : bl l j = ((j : Int), dev l (j : Int) / ((j : Int) * (j : Int))) := by
  obtain ⟨k, rfl⟩ : ∃ k, j = k + 1 := ⟨j - 1, by omega⟩
  exact bl_yes ⟨h0, h1⟩
theorem bl_keep {l : List Int} {j : Nat} (h : 1 ≤ j) (h1 : ¬ (0 ≤ dev l (j : Int) ∧ ((bl l (j - 1)).1 = 0 ∨ dev l (j : Int) / ((j : Int) * (j : Int)) < (bl l (j - 1)).2))) : bl l j = bl l (j - 1) := by
  obtain ⟨k, rfl⟩ : ∃ k, j = k + 1 := ⟨j - 1, by omega⟩
  exact bl_no h1
theorem bs_stop {l : List Int} {j : Nat} (h : 1 ≤ j) (h2 : j ≤ 16) (h0 : dev l (j : Int) < 0) : bs l = (bl l (j - 1)).1 := by
  obtain ⟨k, rfl⟩ : ∃ k, j = k + 1 := ⟨j - 1, by omega⟩
  have := bl_stop h0 (16 - k)
  rw [show k + (16 - k) = 16 by omega] at this
  unfold bs; rw [this]; rfl
/-- The first k values of a function. -/
def mk (f : Nat → Int) (k : Nat) : List Int := (List.range k).map f
theorem mk_len (f : Nat → Int) (k : Nat) : (mk f k).length = k := by simp [mk]
theorem mk_snoc (f : Nat → Int) (k : Nat) : mk f k ++ [f k] = mk f (k + 1) := by unfold mk; rw [List.range_succ, List.map_append]; rfl
theorem mk_g (f : Nat → Int) (k i : Nat) (h : i < k) : L.g (mk f k) i = f i := by
  unfold L.g mk
  rw [List.getD_eq_getElem?_getD, List.getElem?_map, List.getElem?_range h]; rfl
theorem mk_congr {f g : Nat → Int} {k : Nat} (h : ∀ i, i < k → f i = g i) : mk f k = mk g k := by
  unfold mk
  exact List.map_congr_left fun i hi => h i (List.mem_range.1 hi)
theorem vp_mk {f : Nat → Int} {n : Nat} (hn : n ≤ 16) (h : ∀ i, i < n → -1000000 ≤ f i ∧ f i ≤ 1000000) : vp (mk f n) = true :=
  vp_yes ⟨by rw [mk_len]; exact hn, fun i hi => by rw [mk_len] at hi; rw [mk_g f n i hi]; exact h i hi⟩
theorem sdr_mk {f : Nat → Int} {n s : Nat} (hn : n ≤ 16) (h : ∀ i, i < n → -1000000 ≤ f i ∧ f i ≤ 1000000) (h1 : 1 ≤ s) (h2 : s ≤ 16) : sdr (mk f n) (s : Int) = mk (fun i => f (i + 2 * s) - 2 * f (i + s) + f i) (n - 2 * s) := by
  rw [sdr_yes (dok_yes ⟨vp_mk hn h, by omega, by omega⟩), mk_len]
  show mk (sd (mk f n) s) (n - 2 * s) = _
  refine mk_congr fun i hi => ?_
  unfold sd
  rw [mk_g f n _ (by omega), mk_g f n _ (by omega), mk_g f n _ (by omega)]
theorem sds_mk (l : List Int) (s k : Nat) : sds l s k = mk (sd l s) k := rfl
/-- A line. -/
theorem line_zero {n s : Nat} (hn : n ≤ 16) (h1 : 1 ≤ s) (h2 : s ≤ 16) : (sdr (mk (fun i => 7 * (i : Int) - 30) n) (s : Int)).length = n - 2 * s ∧ ∀ i, L.g (sdr (mk (fun i => 7 * (i : Int) - 30) n) (s : Int)) i = 0 := by
  rw [sdr_mk hn (fun i hi => by omega) h1 h2]
  refine ⟨mk_len _ _, fun i => ?_⟩
  rcases Nat.lt_or_ge i (n - 2 * s) with h | h
  · rw [mk_g _ _ _ h]; push_cast; omega
  · unfold L.g; rw [List.getD_eq_getElem?_getD, List.getElem?_eq_none (by rw [mk_len]; exact h)]; rfl
/-- A list turned around. -/
theorem turn_sd {l : List Int} {n s q : Nat} (hv : vp l = true) (hl : l.length = n) (hn : n = q + 2 * s) (h1 : 1 ≤ s) (h2 : s ≤ 16) : (sdr (mk (fun i => L.g l (n - 1 - i)) n) (s : Int)).length = q ∧ ∀ i, i < q → L.g (sdr (mk (fun i => L.g l (n - 1 - i)) n) (s : Int)) i = L.g (sds l s q) (q - 1 - i) := by
  have h16 := (vp_of hv).1
  rw [sdr_mk (by omega) (fun i hi => vp_g hv _) h1 h2]
  refine ⟨by rw [mk_len]; omega, fun i hi => ?_⟩
  rw [mk_g _ _ _ (by omega), sds_g _ _ _ _ (by omega)]
  unfold sd
  rw [show n - 1 - (i + 2 * s) = q - 1 - i by omega, show n - 1 - (i + s) = q - 1 - i + s by omega, show n - 1 - i = q - 1 - i + 2 * s by omega]
  omega
/-- A list shifted. -/
theorem shift_sd {l : List Int} {n s : Nat} (hv : vp l = true) (hl : l.length = n) (h : ∀ i, i < n → L.g l i + 9 ≤ 1000000) (h1 : 1 ≤ s) (h2 : s ≤ 16) : sdr (mk (fun i => L.g l i + 9) n) (s : Int) = sdr l (s : Int) := by
  have h16 := (vp_of hv).1
  rw [sdr_mk (by omega) (fun i hi => by have := vp_g hv i; have := h i hi; omega) h1 h2, sdr_yes (dok_yes ⟨hv, by omega, by omega⟩), hl, sds_mk]
  refine mk_congr fun i hi => ?_
  unfold sd
  omega
theorem shift_dev {l : List Int} {n s : Nat} (hv : vp l = true) (hl : l.length = n) (h : ∀ i, i < n → L.g l i + 9 ≤ 1000000) (h1 : 1 ≤ s) (h2 : s ≤ 16) : dev (mk (fun i => L.g l i + 9) n) (s : Int) = dev l (s : Int) := by
  unfold dev; rw [shift_sd hv hl h h1 h2]
theorem sqs_zero {d : List Int} : ∀ k, (∀ i, i < k → L.g d i = 0) → sqs d k = 0
  | 0, _ => rfl
  | k + 1, h => by rw [sqs_succ, sqs_zero k (fun i hi => h i (by omega)), h k (by omega)]; rfl
theorem dv_zero {d : List Int} (h0 : 0 < d.length) (h : ∀ i, i < d.length → L.g d i = 0) : dv d = 0 := by
  rw [dv_yes h0, sqs_zero _ h]; exact Int.zero_ediv _
/-- What the deviation leaves. -/
theorem dv_rest {d : List Int} (h0 : 0 < d.length) : 0 ≤ sqs d d.length - 2 * (d.length : Int) * dv d ∧ sqs d d.length - 2 * (d.length : Int) * dv d < 2 * (d.length : Int) := by
  rw [dv_yes h0]
  have h1 := Int.mul_ediv_add_emod (sqs d d.length) (2 * (d.length : Int))
  have h2 := Int.emod_nonneg (sqs d d.length) (show (2 * (d.length : Int)) ≠ 0 by omega)
  have h3 := Int.emod_lt_of_pos (sqs d d.length) (show 0 < 2 * (d.length : Int) by omega)
  omega
end Go.Proofs.Ytijkglhgmojffaa.F
