/-
  Plain mathematics of holdover (chapter 9): valid states, the error at a time, levels, until when a clock holds, satellites seen again.
-/
namespace Go.Proofs.Ytinckfakmipmlaa
namespace H
set_option linter.unusedVariables false
def vs (e w s : Int) : Bool := decide ((0 ≤ e ∧ e ≤ 1000000) ∧ (0 ≤ w ∧ w ≤ 1000) ∧ (0 ≤ s ∧ s ≤ 3786479999))
theorem vs_of {e w s : Int} (h : vs e w s = true) : (0 ≤ e ∧ e ≤ 1000000) ∧ (0 ≤ w ∧ w ≤ 1000) ∧ (0 ≤ s ∧ s ≤ 3786479999) := of_decide_eq_true h
theorem vs_yes {e w s : Int} (h : (0 ≤ e ∧ e ≤ 1000000) ∧ (0 ≤ w ∧ w ≤ 1000) ∧ (0 ≤ s ∧ s ≤ 3786479999)) : vs e w s = true := decide_eq_true h
theorem vs_no {e w s : Int} (h : ¬ ((0 ≤ e ∧ e ≤ 1000000) ∧ (0 ≤ w ∧ w ≤ 1000) ∧ (0 ≤ s ∧ s ≤ 3786479999))) : vs e w s = false := decide_eq_false h
/-- The state is valid, and the time is told. -/
def ok (e w s t : Int) : Bool := decide (vs e w s = true ∧ s ≤ t ∧ t ≤ 3786479999)
theorem ok_of {e w s t : Int} (h : ok e w s t = true) : vs e w s = true ∧ s ≤ t ∧ t ≤ 3786479999 := of_decide_eq_true h
theorem ok_yes {e w s t : Int} (h : vs e w s = true ∧ s ≤ t ∧ t ≤ 3786479999) : ok e w s t = true := decide_eq_true h
theorem ok_no {e w s t : Int} (h : ¬ (vs e w s = true ∧ s ≤ t ∧ t ≤ 3786479999)) : ok e w s t = false := decide_eq_false h
/-- The error of a valid state. -/
def er (e w s t : Int) : Int := min (e + w * (t - s)) 1000000
def ea (e w s t : Int) : Int := if ok e w s t = true then er e w s t else -1
theorem ea_yes {e w s t : Int} (h : ok e w s t = true) : ea e w s t = er e w s t := if_pos h
theorem ea_no {e w s t : Int} (h : ok e w s t = false) : ea e w s t = -1 := if_neg (by simp [h])
theorem mul_in {w d : Int} (hw : 0 ≤ w ∧ w ≤ 1000) (hd : 0 ≤ d ∧ d ≤ 3786479999) : 0 ≤ w * d ∧ w * d ≤ 3786479999000 := by
  have h0 := Int.mul_nonneg hw.1 hd.1
  have h1 : w * d ≤ 1000 * d := Int.mul_le_mul_of_nonneg_right hw.2 hd.1
  omega
theorem er_bd {e w s t : Int} (h : ok e w s t = true) : e ≤ er e w s t ∧ 0 ≤ er e w s t ∧ er e w s t ≤ 1000000 := by
  obtain ⟨hv, h1, h2⟩ := ok_of h
  obtain ⟨he, hw, hs⟩ := vs_of hv
  have := mul_in hw (d := t - s) (by omega)
  unfold er; omega
theorem ea_bd {e w s t : Int} (h : ok e w s t = true) : e ≤ ea e w s t ∧ 0 ≤ ea e w s t ∧ ea e w s t ≤ 1000000 := by rw [ea_yes h]; exact er_bd h
theorem er_self {e w s : Int} (h : vs e w s = true) : er e w s s = e := by
  have := (vs_of h).1
  unfold er; simp; omega
theorem ok_self {e w s : Int} (h : vs e w s = true) : ok e w s s = true := ok_yes ⟨h, by omega, (vs_of h).2.2.2⟩
theorem ok_next {e w s t : Int} (h : ok e w s t = true) (ht : t ≠ 3786479999) : ok e w s (t + 1) = true := by
  obtain ⟨hv, h1, h2⟩ := ok_of h
  exact ok_yes ⟨hv, by omega, by omega⟩
theorem er_next {e w s t : Int} (h : ok e w s t = true) : er e w s t ≤ er e w s (t + 1) ∧ er e w s (t + 1) ≤ er e w s t + w := by
  obtain ⟨hv, h1, h2⟩ := ok_of h
  obtain ⟨he, hw, hs⟩ := vs_of hv
  have hm : w * (t + 1 - s) = w * (t - s) + w := by rw [show t + 1 - s = (t - s) + 1 by omega, Int.mul_add, Int.mul_one]
  unfold er; rw [hm]; omega
/-- The level of a state at a time. -/
def lv (e w s t : Int) : Int := if t - s ≤ 60 ∧ er e w s t ≤ 1000 then 2 else if er e w s t ≤ 100000 then 1 else 0
def la (e w s t : Int) : Int := if ok e w s t = true then lv e w s t else -1
theorem la_yes {e w s t : Int} (h : ok e w s t = true) : la e w s t = lv e w s t := if_pos h
theorem la_no {e w s t : Int} (h : ok e w s t = false) : la e w s t = -1 := if_neg (by simp [h])
theorem lv_bd (e w s t : Int) : 0 ≤ lv e w s t ∧ lv e w s t ≤ 2 := by unfold lv; repeat (first | omega | split)
theorem lv_two {e w s t : Int} : lv e w s t = 2 ↔ t - s ≤ 60 ∧ er e w s t ≤ 1000 := by
  unfold lv
  split
  · constructor <;> omega
  · split <;> constructor <;> omega
theorem lv_zero {e w s t : Int} : lv e w s t = 0 ↔ 100000 < er e w s t := by
  unfold lv
  split
  · constructor <;> omega
  · split <;> constructor <;> omega
theorem lv_next {e w s t : Int} (h : ok e w s t = true) : lv e w s (t + 1) ≤ lv e w s t := by
  have := er_next h
  unfold lv
  repeat (first | omega | split)
/-- Until when a state holds. -/
def hk (e w s : Int) : Bool := decide (vs e w s = true ∧ e ≤ 100000)
theorem hk_of {e w s : Int} (h : hk e w s = true) : vs e w s = true ∧ e ≤ 100000 := of_decide_eq_true h
theorem hk_yes {e w s : Int} (h : vs e w s = true ∧ e ≤ 100000) : hk e w s = true := decide_eq_true h
theorem hk_no {e w s : Int} (h : ¬ (vs e w s = true ∧ e ≤ 100000)) : hk e w s = false := decide_eq_false h
def hn (e w s : Int) : Int := if w = 0 then 3786479999 else min (s + (100000 - e) / w) 3786479999
def hu (e w s : Int) : Int := if hk e w s = true then hn e w s else -1
theorem hu_yes {e w s : Int} (h : hk e w s = true) : hu e w s = hn e w s := if_pos h
theorem hu_no {e w s : Int} (h : hk e w s = false) : hu e w s = -1 := if_neg (by simp [h])
theorem quo {e w : Int} (he : 0 ≤ e ∧ e ≤ 100000) (hw : 1 ≤ w) : 0 ≤ (100000 - e) / w ∧ (100000 - e) / w ≤ 100000 ∧ w * ((100000 - e) / w) ≤ 100000 - e ∧ 100000 - e < w * ((100000 - e) / w) + w := by
  have h1 := Int.mul_ediv_add_emod (100000 - e) w
  have h2 := Int.emod_nonneg (100000 - e) (show w ≠ 0 by omega)
  have h3 := Int.emod_lt_of_pos (100000 - e) (show 0 < w by omega)
  have h4 : 0 ≤ (100000 - e) / w := Int.ediv_nonneg (by omega) (by omega)
  have h5 : (100000 - e) / w ≤ 100000 - e := Int.ediv_le_self _ (by omega)
  omega
theorem hn_bd {e w s : Int} (h : hk e w s = true) : s ≤ hn e w s ∧ hn e w s ≤ 3786479999 := by
  obtain ⟨hv, h1⟩ := hk_of h
  obtain ⟨he, hw, hs⟩ := vs_of hv
  unfold hn
  split
  · omega
  · have := quo (e := e) (w := w) (by omega) (by omega)
    omega
theorem hn_ok {e w s : Int} (h : hk e w s = true) : ok e w s (hn e w s) = true := by
  have := hn_bd h
  exact ok_yes ⟨(hk_of h).1, by omega, by omega⟩
theorem hn_here {e w s : Int} (h : hk e w s = true) : 0 < lv e w s (hn e w s) := by
  obtain ⟨hv, h1⟩ := hk_of h
  obtain ⟨he, hw, hs⟩ := vs_of hv
  have hb := lv_bd e w s (hn e w s)
  suffices hne : lv e w s (hn e w s) ≠ 0 by omega
  rw [Ne, lv_zero]
  unfold er
  by_cases h0 : w = 0
  · subst h0; simp; omega
  · have hq := quo (e := e) (w := w) (by omega) (by omega)
    have hle : hn e w s - s ≤ (100000 - e) / w := by unfold hn; rw [if_neg h0]; omega
    have hm := Int.mul_le_mul_of_nonneg_left hle hw.1
    omega
theorem hn_next {e w s : Int} (h : hk e w s = true) (hne : hn e w s ≠ 3786479999) : lv e w s (hn e w s + 1) = 0 := by
  obtain ⟨hv, h1⟩ := hk_of h
  obtain ⟨he, hw, hs⟩ := vs_of hv
  rw [lv_zero]
  by_cases h0 : w = 0
  · exact absurd (show hn e w s = 3786479999 by unfold hn; rw [if_pos h0]) hne
  · have hq := quo (e := e) (w := w) (by omega) (by omega)
    have heq : hn e w s = s + (100000 - e) / w := by
      have : hn e w s = min (s + (100000 - e) / w) 3786479999 := by unfold hn; rw [if_neg h0]
      omega
    unfold er
    rw [heq, show s + (100000 - e) / w + 1 - s = (100000 - e) / w + 1 by omega, Int.mul_add, Int.mul_one]
    omega
theorem hn_none {e w s : Int} (h : vs e w s = true) : hk e w s = false ↔ lv e w s s = 0 := by
  rw [lv_zero, er_self h]
  have : hk e w s = false ↔ ¬ (vs e w s = true ∧ e ≤ 100000) := by unfold hk; simp
  rw [this]; simp [h]
theorem hn_less {e w s : Int} (h : hk e w s = true) (h0 : w ≠ 0) : hk e (w - 1) s = true ∧ hn e w s ≤ hn e (w - 1) s := by
  obtain ⟨hv, h1⟩ := hk_of h
  obtain ⟨he, hw, hs⟩ := vs_of hv
  refine ⟨hk_yes ⟨vs_yes ⟨he, by omega, hs⟩, h1⟩, ?_⟩
  by_cases h2 : w - 1 = 0
  · have := hn_bd h
    rw [show hn e (w - 1) s = 3786479999 by unfold hn; rw [if_pos h2]]
    omega
  · have a : hn e w s = min (s + (100000 - e) / w) 3786479999 := by unfold hn; rw [if_neg h0]
    have b : hn e (w - 1) s = min (s + (100000 - e) / (w - 1)) 3786479999 := by unfold hn; rw [if_neg h2]
    have hq := quo (e := e) (w := w) (by omega) (by omega)
    have hle : (100000 - e) / w ≤ (100000 - e) / (w - 1) := by
      rw [Int.le_ediv_iff_mul_le (by omega), Int.mul_comm, Int.sub_mul]
      omega
    omega
/-- Satellites are seen again. -/
def sk (e w s t x : Int) : Bool := decide (ok e w s t = true ∧ 0 ≤ x ∧ x ≤ 1000000)
theorem sk_of {e w s t x : Int} (h : sk e w s t x = true) : ok e w s t = true ∧ 0 ≤ x ∧ x ≤ 1000000 := of_decide_eq_true h
theorem sk_yes {e w s t x : Int} (h : ok e w s t = true ∧ 0 ≤ x ∧ x ≤ 1000000) : sk e w s t x = true := decide_eq_true h
theorem sk_no {e w s t x : Int} (h : ¬ (ok e w s t = true ∧ 0 ≤ x ∧ x ≤ 1000000)) : sk e w s t x = false := decide_eq_false h
def se (e w s t x : Int) : Int := if sk e w s t x = true then min x (er e w s t) else 0
def sw (e w s t x : Int) : Int := if sk e w s t x = true then w else 0
def ss (e w s t x : Int) : Int := if sk e w s t x = true then t else 0
theorem s_yes {e w s t x : Int} (h : sk e w s t x = true) : se e w s t x = min x (er e w s t) ∧ sw e w s t x = w ∧ ss e w s t x = t := ⟨if_pos h, if_pos h, if_pos h⟩
theorem s_no {e w s t x : Int} (h : sk e w s t x = false) : se e w s t x = 0 ∧ sw e w s t x = 0 ∧ ss e w s t x = 0 := ⟨if_neg (by simp [h]), if_neg (by simp [h]), if_neg (by simp [h])⟩
theorem s_valid {e w s t x : Int} (h : sk e w s t x = true) : vs (min x (er e w s t)) w t = true := by
  obtain ⟨ho, hx⟩ := sk_of h
  have hb := er_bd ho
  obtain ⟨hv, h1, h2⟩ := ok_of ho
  obtain ⟨he, hw, hs⟩ := vs_of hv
  exact vs_yes ⟨by omega, hw, by omega, h2⟩
theorem s_later {e w s t x u : Int} (h : sk e w s t x = true) (hu : t ≤ u) : er (min x (er e w s t)) w t u ≤ er e w s u := by
  obtain ⟨ho, hx⟩ := sk_of h
  obtain ⟨hv, h1, h2⟩ := ok_of ho
  obtain ⟨he, hw, hs⟩ := vs_of hv
  have hm : w * (u - s) = w * (u - t) + w * (t - s) := by rw [← Int.mul_add]; congr 1; omega
  unfold er
  rw [hm]
  omega
theorem s_self {e w s t x : Int} (h : sk e w s t x = true) : ok (min x (er e w s t)) w t t = true ∧ er (min x (er e w s t)) w t t = min x (er e w s t) := by
  have hv := s_valid h
  exact ⟨ok_self hv, er_self hv⟩
end H
end Go.Proofs.Ytinckfakmipmlaa
