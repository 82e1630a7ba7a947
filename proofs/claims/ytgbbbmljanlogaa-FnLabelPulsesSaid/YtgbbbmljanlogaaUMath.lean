/-
  The plain arithmetic of pulses (chapter 14): valid pulses, clean pulses. No program is read here.
-/
import Derived.Test.YtgbbbmljanlogaaLMath
namespace Go.Proofs.Ytgbbbmljanlogaa.U
set_option linter.unusedVariables false
/-- A number at a place is a reading, and greater than the one before it. -/
def okAt (l : List Int) (i : Nat) : Prop := (0 ≤ L.g l i ∧ L.g l i ≤ 100000000) ∧ (0 < i → L.g l (i - 1) < L.g l i)
def okTo (l : List Int) (k : Nat) : Prop := ∀ i, i < k → okAt l i
instance (l : List Int) (i : Nat) : Decidable (okAt l i) := by unfold okAt; infer_instance
instance (l : List Int) (k : Nat) : Decidable (okTo l k) := by unfold okTo; infer_instance
theorem okTo_zero (l : List Int) : okTo l 0 := fun i hi => absurd hi (by omega)
theorem okTo_succ {l : List Int} {k : Nat} (h : okTo l k) (h' : okAt l k) : okTo l (k + 1) := fun i hi => by
  rcases Nat.lt_or_ge i k with a | a
  · exact h i a
  · obtain rfl : i = k := by omega
    exact h'
theorem okTo_le {l : List Int} {k m : Nat} (h : okTo l k) (hm : m ≤ k) : okTo l m := fun i hi => h i (by omega)
def vp (l : List Int) : Bool := decide (l.length ≤ 16 ∧ okTo l l.length)
theorem vp_of {l : List Int} (h : vp l = true) : l.length ≤ 16 ∧ okTo l l.length := of_decide_eq_true h
theorem vp_yes {l : List Int} (h : l.length ≤ 16) (k : okTo l l.length) : vp l = true := decide_eq_true ⟨h, k⟩
theorem vp_long {l : List Int} (h : 16 < l.length) : vp l = false := decide_eq_false (fun k => by omega)
theorem vp_bad {l : List Int} (i : Nat) (hi : i < l.length) (h : ¬ okAt l i) : vp l = false := decide_eq_false (fun k => h (k.2 i hi))
theorem okTo_asc {l : List Int} {n : Nat} (h : okTo l n) : ∀ j i : Nat, i < j → j < n → L.g l i < L.g l j
  | 0, i, hi, _ => absurd hi (by omega)
  | j + 1, i, hi, hj => by
    have h1 := (h (j + 1) hj).2 (by omega)
    simp only [Nat.add_sub_cancel] at h1
    rcases Nat.lt_or_ge i j with a | a
    · have := okTo_asc h j i a (by omega); omega
    · obtain rfl : i = j := by omega
      exact h1
theorem asc {l : List Int} (h : vp l = true) {i j : Nat} (hi : i < j) (hj : j < l.length) : L.g l i < L.g l j := okTo_asc (vp_of h).2 j i hi hj
theorem rng {l : List Int} (h : vp l = true) {i : Nat} (hi : i < l.length) : 0 ≤ L.g l i ∧ L.g l i ≤ 100000000 := ((vp_of h).2 i hi).1
/-- A difference is near a second or more of them. -/
def near (d : Int) : Prop := 1000000 ≤ d + 2000 ∧ (d + 2000) % 1000000 ≤ 4000
instance (d : Int) : Decidable (near d) := by unfold near; infer_instance
def ad (t : List Int) (x : Int) : Prop := t = [] ∨ near (x - L.g t (t.length - 1))
instance (t : List Int) (x : Int) : Decidable (ad t x) := by unfold ad; infer_instance
/-- What is taken of the first k pulses. -/
def cls (l : List Int) : Nat → List Int
  | 0 => []
  | k + 1 => if ad (cls l k) (L.g l k) then cls l k ++ [L.g l k] else cls l k
theorem cls_yes {l : List Int} {k : Nat} (h : ad (cls l k) (L.g l k)) : cls l (k + 1) = cls l k ++ [L.g l k] := if_pos h
theorem cls_no {l : List Int} {k : Nat} (h : ¬ ad (cls l k) (L.g l k)) : cls l (k + 1) = cls l k := if_neg h
theorem cls_len (l : List Int) : ∀ k, (cls l k).length ≤ k
  | 0 => Nat.le_refl _
  | k + 1 => by
    have := cls_len l k
    by_cases h : ad (cls l k) (L.g l k)
    · rw [cls_yes h]; simp; omega
    · rw [cls_no h]; omega
def cp (l : List Int) : List Int := if vp l = true then cls l l.length else []
theorem cp_yes {l : List Int} (h : vp l = true) : cp l = cls l l.length := if_pos h
theorem cp_no {l : List Int} (h : vp l = false) : cp l = [] := if_neg (by rw [h]; decide)
theorem cp_len (l : List Int) : (cp l).length ≤ l.length ∧ (cp l).length ≤ 16 := by
  rcases h : vp l with _ | _
  · rw [cp_no h]; simp
  · rw [cp_yes h]; have := cls_len l l.length; have := (vp_of h).1; omega
theorem g_snoc_lt (l : List Int) (x : Int) (i : Nat) (h : i < l.length) : L.g (l ++ [x]) i = L.g l i := by
  unfold L.g; rw [List.getD_eq_getElem?_getD, List.getD_eq_getElem?_getD, List.getElem?_append_left h]
theorem g_snoc_eq (l : List Int) (x : Int) : L.g (l ++ [x]) l.length = x := by
  unfold L.g; rw [List.getD_eq_getElem?_getD, List.getElem?_append_right (Nat.le_refl _)]; simp
/-- What is taken: not empty, from the first pulse on, each near the one before, and among the pulses. -/
structure Cl (l : List Int) (k : Nat) (c : List Int) : Prop where
  len : c.length ≤ k
  pos : 0 < k → 0 < c.length ∧ L.g c 0 = L.g l 0
  nr : ∀ i, 0 < i → i < c.length → near (L.g c i - L.g c (i - 1))
  src : ∀ i, i < c.length → ∃ j, j < k ∧ L.g c i = L.g l j
theorem cls_cl (l : List Int) : ∀ k, Cl l k (cls l k)
  | 0 => ⟨Nat.le_refl _, fun h => absurd h (by omega), fun i _ h => absurd h (by simp [cls]), fun i h => absurd h (by simp [cls])⟩
  | k + 1 => by
    have ih := cls_cl l k
    by_cases h : ad (cls l k) (L.g l k)
    · rw [cls_yes h]
      have hl : (cls l k ++ [L.g l k]).length = (cls l k).length + 1 := by simp
      refine ⟨by have := ih.len; omega, fun _ => ?_, fun i h0 hi => ?_, fun i hi => ?_⟩
      · refine ⟨by omega, ?_⟩
        rcases Nat.eq_zero_or_pos k with hk | hk
        · subst hk; rfl
        · rw [g_snoc_lt _ _ _ (ih.pos hk).1]; exact (ih.pos hk).2
      · rcases Nat.lt_or_ge i (cls l k).length with a | a
        · rw [g_snoc_lt _ _ _ a, g_snoc_lt _ _ _ (by omega)]; exact ih.nr i h0 a
        · obtain rfl : i = (cls l k).length := by omega
          rw [g_snoc_eq, g_snoc_lt _ _ _ (by omega)]
          rcases h with h | h
          · rw [h] at h0; simp at h0
          · exact h
      · rcases Nat.lt_or_ge i (cls l k).length with a | a
        · obtain ⟨j, hj, e⟩ := ih.src i a
          exact ⟨j, by omega, by rw [g_snoc_lt _ _ _ a]; exact e⟩
        · obtain rfl : i = (cls l k).length := by omega
          exact ⟨k, by omega, g_snoc_eq _ _⟩
    · rw [cls_no h]
      refine ⟨by have := ih.len; omega, fun _ => ?_, ih.nr, fun i hi => by obtain ⟨j, hj, e⟩ := ih.src i hi; exact ⟨j, by omega, e⟩⟩
      rcases Nat.eq_zero_or_pos k with hk | hk
      · subst hk; exact absurd (Or.inl rfl) h
      · exact ih.pos hk
theorem cp_cl {l : List Int} (h : vp l = true) : Cl l l.length (cp l) := by rw [cp_yes h]; exact cls_cl _ _
theorem near_pos {d : Int} (h : near d) : 998000 ≤ d := by have := h.1; omega
/-- What is taken of valid pulses is valid. -/
theorem cp_vp {l : List Int} (h : vp l = true) : vp (cp l) = true := by
  have c := cp_cl h
  refine vp_yes (cp_len l).2 (fun i hi => ⟨?_, fun h0 => ?_⟩)
  · obtain ⟨j, hj, e⟩ := c.src i hi
    rw [e]; exact rng h hj
  · have := near_pos (c.nr i h0 hi); omega
theorem take_snoc (l : List Int) (k : Nat) (h : k < l.length) : l.take (k + 1) = l.take k ++ [L.g l k] := by
  rw [List.take_add_one, L.g_get l k h]; simp
theorem g_take {l : List Int} {i k : Nat} (h : i < k) : L.g (l.take k) i = L.g l i := by
  unfold L.g; rw [List.getD_eq_getElem?_getD, List.getD_eq_getElem?_getD, List.getElem?_take_of_lt h]
theorem cls_nr {c : List Int} (h : ∀ i, 0 < i → i < c.length → near (L.g c i - L.g c (i - 1))) : ∀ k, k ≤ c.length → cls c k = c.take k
  | 0, _ => rfl
  | k + 1, hk => by
    have ih := cls_nr h k (by omega)
    have hl : (c.take k).length = k := by rw [List.length_take]; omega
    have : ad (cls c k) (L.g c k) := by
      rw [ih]
      rcases Nat.eq_zero_or_pos k with h0 | h0
      · subst h0; exact .inl rfl
      · right; rw [hl, g_take (by omega)]; exact h k h0 (by omega)
    rw [cls_yes this, ih, take_snoc _ _ (by omega)]
/-- Clean is clean. -/
theorem cp_cp (l : List Int) : cp (cp l) = cp l := by
  rcases h : vp l with _ | _
  · rw [cp_no h]; rfl
  · rw [cp_yes (cp_vp h), cls_nr (cp_cl h).nr _ (Nat.le_refl _), List.take_length]
/-- All later by c. -/
def up (c : Int) (l : List Int) : List Int := l.map (· + c)
theorem up_len (c : Int) (l : List Int) : (up c l).length = l.length := by simp [up]
theorem up_g (c : Int) (l : List Int) (i : Nat) (h : i < l.length) : L.g (up c l) i = L.g l i + c := by
  unfold L.g up
  rw [List.getD_eq_getElem?_getD, List.getD_eq_getElem?_getD, List.getElem?_map, List.getElem?_eq_getElem h]; rfl
theorem up_snoc (c : Int) (l : List Int) (x : Int) : up c (l ++ [x]) = up c l ++ [x + c] := by simp [up]
theorem cls_up (c : Int) (l : List Int) : ∀ k, k ≤ l.length → cls (up c l) k = up c (cls l k)
  | 0, _ => rfl
  | k + 1, hk => by
    have ih := cls_up c l k (by omega)
    have hn : ad (cls (up c l) k) (L.g (up c l) k) ↔ ad (cls l k) (L.g l k) := by
      rw [ih, up_g _ _ _ (by omega)]
      unfold ad
      rcases Nat.eq_zero_or_pos (cls l k).length with h0 | h0
      · have : cls l k = [] := List.length_eq_zero_iff.1 h0
        rw [this]; simp [up]
      · rw [up_len, up_g _ _ _ (by omega)]
        have e : L.g l k + c - (L.g (cls l k) ((cls l k).length - 1) + c) = L.g l k - L.g (cls l k) ((cls l k).length - 1) := by omega
        rw [e]
        have n1 : up c (cls l k) ≠ [] := fun q => by have := congrArg List.length q; rw [up_len] at this; simp at this; simp [this] at h0
        have n2 : cls l k ≠ [] := fun q => by rw [q] at h0; simp at h0
        simp [n1, n2]
    by_cases h : ad (cls l k) (L.g l k)
    · rw [cls_yes h, cls_yes (hn.2 h), ih, up_g _ _ _ (by omega), up_snoc]
    · rw [cls_no h, cls_no (fun q => h (hn.1 q)), ih]
theorem vp_up {c : Int} {l : List Int} (h : vp l = true) (hc : 0 ≤ c) (hlast : 0 < l.length → L.g l (l.length - 1) + c ≤ 100000000) : vp (up c l) = true := by
  refine vp_yes (by rw [up_len]; exact (vp_of h).1) (fun i hi => ?_)
  rw [up_len] at hi
  have r := rng h hi
  have hl := hlast (by omega)
  have ha : L.g l i ≤ L.g l (l.length - 1) := by
    rcases Nat.lt_or_ge i (l.length - 1) with a | a
    · exact Int.le_of_lt (asc h a (by omega))
    · obtain rfl : i = l.length - 1 := by omega
      exact Int.le_refl _
  refine ⟨by rw [up_g _ _ _ hi]; omega, fun h0 => ?_⟩
  rw [up_g _ _ _ hi, up_g _ _ _ (by omega)]
  have := ((vp_of h).2 i hi).2 h0
  omega
theorem cp_up {c : Int} {l : List Int} (h : vp l = true) (hc : 0 ≤ c) (hlast : 0 < l.length → L.g l (l.length - 1) + c ≤ 100000000) : cp (up c l) = up c (cp l) := by
  rw [cp_yes (vp_up h hc hlast), cp_yes h, up_len, cls_up _ _ _ (Nat.le_refl _)]
/-- One pulse left out. -/
def cut (l : List Int) (k : Nat) : List Int := l.take k ++ l.drop (k + 1)
theorem cut_len {l : List Int} {k : Nat} (h : k < l.length) : (cut l k).length = l.length - 1 := by unfold cut; simp; omega
theorem cut_g {l : List Int} {k : Nat} (h : k < l.length) (i : Nat) : L.g (cut l k) i = if i < k then L.g l i else L.g l (i + 1) := by
  unfold cut L.g
  rw [List.getD_eq_getElem?_getD, List.getD_eq_getElem?_getD, List.getD_eq_getElem?_getD]
  split
  · rw [List.getElem?_append_left (by rw [List.length_take]; omega), List.getElem?_take_of_lt (by omega)]
  · rw [List.getElem?_append_right (by rw [List.length_take]; omega), List.getElem?_drop, List.length_take, Nat.min_eq_left (by omega)]
    congr 2; omega
theorem vp_cut {l : List Int} {k : Nat} (h : vp l = true) (hk : k < l.length) : vp (cut l k) = true := by
  have hl := cut_len hk
  refine vp_yes (by have := (vp_of h).1; omega) (fun i hi => ?_)
  rw [hl] at hi
  refine ⟨?_, fun h0 => ?_⟩
  · rw [cut_g hk]; split
    · exact rng h (by omega)
    · exact rng h (by omega)
  · rw [cut_g hk, cut_g hk]
    split
    · split
      · exact asc h (by omega) (by omega)
      · exact asc h (by omega) (by omega)
    · split
      · omega
      · exact asc h (by omega) (by omega)
end Go.Proofs.Ytgbbbmljanlogaa.U
