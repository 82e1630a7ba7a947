/-
  The plain arithmetic of votes, for the laws: parts of a list, a list with one more, a list turned around, a list that is shifted. No program is read here.
-/
import Derived.Test.YtgbbbmljanlogaaVMath
namespace Go.Proofs.Ytgbbbmljanlogaa.V

theorem lo_take {l : List (Int × Int)} {k i : Nat} (h : i < k) : lo (l.take k) i = lo l i ∧ hi (l.take k) i = hi l i := by
  unfold lo hi; rw [List.getD_eq_getElem?_getD, List.getD_eq_getElem?_getD, List.getElem?_take_of_lt h]; exact ⟨rfl, rfl⟩
theorem lo_drop (l : List (Int × Int)) (k i : Nat) : lo (l.drop k) i = lo l (k + i) ∧ hi (l.drop k) i = hi l (k + i) := by
  unfold lo hi; rw [List.getD_eq_getElem?_getD, List.getD_eq_getElem?_getD, List.getElem?_drop]; exact ⟨rfl, rfl⟩
/-- The first k, and all but the first k. (By names of their own: a walk respells 'l.drop 1'.) -/
def tk (l : List (Int × Int)) (k : Nat) : List (Int × Int) := l.take k
def dr (l : List (Int × Int)) (k : Nat) : List (Int × Int) := l.drop k
theorem vs_take {l : List (Int × Int)} (h : vs l = true) {k : Nat} (h1 : 1 ≤ k) (h2 : k ≤ l.length) : vs (tk l k) = true := by
  obtain ⟨⟨_, b⟩, ok⟩ := vs_of h
  show vs (l.take k) = true
  have e : (l.take k).length = k := by rw [List.length_take]; omega
  refine vs_yes (by omega) (by omega) (fun i hi' => ?_)
  rw [e] at hi'
  rw [(lo_take hi').1, (lo_take hi').2]; exact ok i (by omega)
theorem vs_drop {l : List (Int × Int)} (h : vs l = true) {k : Nat} (h2 : k < l.length) : vs (dr l k) = true := by
  obtain ⟨⟨_, b⟩, ok⟩ := vs_of h
  show vs (l.drop k) = true
  have e : (l.drop k).length = l.length - k := List.length_drop
  refine vs_yes (by omega) (by omega) (fun i hi' => ?_)
  rw [(lo_drop l k i).1, (lo_drop l k i).2]; exact ok (k + i) (by omega)
theorem votesTo_take {l : List (Int × Int)} (t : Int) (k : Nat) : ∀ m, m ≤ k → votesTo (l.take k) t m = votesTo l t m
  | 0, _ => rfl
  | m + 1, h => by
    unfold votesTo
    rw [votesTo_take t k m (by omega)]
    have : has (l.take k) t m ↔ has l t m := by unfold has; rw [(lo_take (l := l) h).1, (lo_take (l := l) h).2]
    simp only [this]
theorem votes_take {l : List (Int × Int)} (t : Int) {k : Nat} (h : k ≤ l.length) : votes (l.take k) t = votesTo l t k := by
  unfold votes; rw [List.length_take, Nat.min_eq_left h]; exact votesTo_take t k k (Nat.le_refl _)
theorem votesTo_drop {l : List (Int × Int)} (t : Int) (k : Nat) : ∀ m, votesTo l t k + votesTo (l.drop k) t m = votesTo l t (k + m)
  | 0 => rfl
  | m + 1 => by
    have ih := votesTo_drop (l := l) t k m
    have e : votesTo (l.drop k) t (m + 1) = votesTo (l.drop k) t m + (if has (l.drop k) t m then 1 else 0) := rfl
    have e2 : votesTo l t (k + (m + 1)) = votesTo l t (k + m) + (if has l t (k + m) then 1 else 0) := rfl
    have : has (l.drop k) t m ↔ has l t (k + m) := by unfold has; rw [(lo_drop l k m).1, (lo_drop l k m).2]
    rw [e, e2]; simp only [this]; omega
theorem votes_parts {l : List (Int × Int)} (t : Int) (h : 1 ≤ l.length) : votes (tk l 1) t + votes (dr l 1) t = votes l t := by
  show votes (l.take 1) t + votes (l.drop 1) t = _
  rw [votes_take t h]
  unfold votes
  rw [votesTo_drop t 1, List.length_drop]
  congr 1; omega
theorem votes_in {l : List (Int × Int)} {t : Int} {i : Nat} (hi' : i < l.length) (h : has l t i) : 1 ≤ votes l t := by
  rcases Nat.eq_zero_or_pos (votes l t) with a | a
  · exact absurd h ((votesTo_pos l.length).1 a i hi')
  · exact a
theorem has_hi {l : List (Int × Int)} (h : vs l = true) {i : Nat} (hi' : i < l.length) : has l (hi l i) i := ⟨((vs_of h).2 i hi').2.1, Int.le_refl _⟩
theorem votes_far {l : List (Int × Int)} (h : vs l = true) {t : Int} (ht : 1000000 < t) : votes l t = 0 :=
  (votesTo_pos l.length).2 (fun i hi' a => by have := ((vs_of h).2 i hi').2.2; have := a.2; omega)
/-- The votes for the beginnings, added up. -/
def sumTo (l : List (Int × Int)) : Nat → Int
  | 0 => 0
  | k + 1 => sumTo l k + votes l (lo l k)
theorem sumTo_ge {l : List (Int × Int)} (h : vs l = true) : ∀ k, k ≤ l.length → (k : Int) ≤ sumTo l k ∧ sumTo l k ≤ 7 * k
  | 0, _ => by simp [sumTo]
  | k + 1, hk => by
    have ih := sumTo_ge h k (by omega)
    have h1 := votes_in (t := lo l k) (show k < l.length by omega) (has_lo h (by omega))
    have h2 := votes_le l (lo l k)
    have h3 := (vs_of h).1
    show ((k + 1 : Nat) : Int) ≤ sumTo l k + votes l (lo l k) ∧ sumTo l k + votes l (lo l k) ≤ 7 * ((k + 1 : Nat) : Int)
    omega
theorem most_has {l : List (Int × Int)} (h : vs l = true) : ∃ i, i < l.length ∧ votes l (lo l i) = most l := mostTo_at (l := l) l.length (most_pos h)
/-- One more. -/
theorem snoc_len (l : List (Int × Int)) (p : Int × Int) : (l ++ [p]).length = l.length + 1 := by simp
theorem snoc_lt {l : List (Int × Int)} {p : Int × Int} {i : Nat} (h : i < l.length) : lo (l ++ [p]) i = lo l i ∧ hi (l ++ [p]) i = hi l i := by
  unfold lo hi; rw [List.getD_eq_getElem?_getD, List.getD_eq_getElem?_getD, List.getElem?_append_left h]; exact ⟨rfl, rfl⟩
theorem snoc_at (l : List (Int × Int)) (p : Int × Int) : lo (l ++ [p]) l.length = p.1 ∧ hi (l ++ [p]) l.length = p.2 := by
  unfold lo hi; rw [List.getD_eq_getElem?_getD, List.getElem?_append_right (Nat.le_refl _)]; simp
theorem vs_snoc {l : List (Int × Int)} (h : vs l = true) {p : Int × Int} (hl : l.length < 7) (hp : okN p.1 p.2) : vs (l ++ [p]) = true := by
  have := vs_of h
  refine vs_yes (by rw [snoc_len]; omega) (by rw [snoc_len]; omega) (fun i hi' => ?_)
  rw [snoc_len] at hi'
  rcases Nat.lt_or_ge i l.length with a | a
  · rw [(snoc_lt a).1, (snoc_lt a).2]; exact this.2 i a
  · obtain rfl : i = l.length := by omega
    rw [(snoc_at l p).1, (snoc_at l p).2]; exact hp
theorem votes_snoc (l : List (Int × Int)) (p : Int × Int) (t : Int) : votes (l ++ [p]) t = votes l t + (if p.1 ≤ t ∧ t ≤ p.2 then 1 else 0) := by
  have e : votes (l ++ [p]) t = votesTo (l ++ [p]) t l.length + (if has (l ++ [p]) t l.length then 1 else 0) := by unfold votes; rw [snoc_len]; rfl
  have e2 : votesTo (l ++ [p]) t l.length = votes l t := by
    have := votesTo_take (l := l ++ [p]) t l.length l.length (Nat.le_refl _)
    rw [List.take_left] at this
    exact this.symm
  have : has (l ++ [p]) t l.length ↔ (p.1 ≤ t ∧ t ≤ p.2) := by unfold has; rw [(snoc_at l p).1, (snoc_at l p).2]
  rw [e, e2]; simp only [this]
theorem most_snoc {l : List (Int × Int)} (h : vs l = true) {p : Int × Int} (hp : vs (l ++ [p]) = true) : most (l ++ [p]) = most l ∨ most (l ++ [p]) = most l + 1 := by
  obtain ⟨i, i1, i2⟩ := most_has h
  obtain ⟨j, j1, j2⟩ := most_has hp
  have a := most_ge (l ++ [p]) (lo l i)
  rw [votes_snoc] at a
  have b := most_ge l (lo (l ++ [p]) j)
  rw [votes_snoc] at j2
  split at a <;> split at j2 <;> omega
/-- A source more that says what is agreed on. -/
theorem agr_snoc {l : List (Int × Int)} (h : vs l = true) (hl : l.length < 7) : low (l ++ [(low l, high l)]) = low l ∧ high (l ++ [(low l, high l)]) = high l ∧ most (l ++ [(low l, high l)]) = most l + 1 := by
  have A := agr h
  have hle := A.le
  have bd := agr_bd h
  have hv2 : vs (l ++ [(low l, high l)]) = true := vs_snoc h hl ⟨by simp only; omega, by simp only; omega, by simp only; omega⟩
  have hm : most (l ++ [(low l, high l)]) = most l + 1 := by
    have a := most_ge (l ++ [(low l, high l)]) (low l)
    rw [votes_snoc, if_pos ⟨Int.le_refl _, hle⟩, A.at_] at a
    rcases most_snoc h hv2 with e | e <;> omega
  have B : Agr (l ++ [(low l, high l)]) (low l) (high l) := by
    refine ⟨by rw [votes_snoc, if_pos ⟨Int.le_refl _, hle⟩, A.at_, hm], fun n hn => ?_, fun i hi' hh => ?_, ?_⟩
    · rw [votes_snoc, if_neg (by simp only; omega), hm]
      have := A.least n hn; omega
    · rw [snoc_len] at hi'
      rcases Nat.lt_or_ge i l.length with c | c
      · unfold has at hh
        rw [(snoc_lt c).1, (snoc_lt c).2] at hh
        rw [(snoc_lt c).2]
        exact A.top i c hh
      · obtain rfl : i = l.length := by omega
        rw [(snoc_at l _).2]; exact Int.le_refl _
    · refine ⟨l.length, by rw [snoc_len]; omega, ?_, (snoc_at l _).2⟩
      unfold has
      rw [(snoc_at l _).1, (snoc_at l _).2]; exact ⟨Int.le_refl _, hle⟩
  have := (agr hv2).same B
  exact ⟨this.1, this.2, hm⟩
/-- The order does not matter. -/
theorem mem_has (l : List (Int × Int)) (t : Int) (x : Int × Int) (i : Nat) (h : l[i]? = some x) : (has l t i ↔ x.1 ≤ t ∧ t ≤ x.2) ∧ hi l i = x.2 ∧ lo l i = x.1 := by
  have e : l.getD i (0, 0) = x := by rw [List.getD_eq_getElem?_getD, h]; rfl
  unfold has lo hi; rw [e]; exact ⟨Iff.rfl, rfl, rfl⟩
theorem votes_cons (p : Int × Int) (l : List (Int × Int)) (t : Int) : votes (p :: l) t = (if p.1 ≤ t ∧ t ≤ p.2 then 1 else 0) + votes l t := by
  have := votesTo_drop (l := p :: l) t 1 l.length
  have e : votesTo (p :: l) t 1 = (if p.1 ≤ t ∧ t ≤ p.2 then 1 else 0) := by
    show 0 + (if has (p :: l) t 0 then 1 else 0) = _
    have : has (p :: l) t 0 ↔ (p.1 ≤ t ∧ t ≤ p.2) := Iff.rfl
    simp only [this]; omega
  unfold votes
  rw [List.length_cons, Nat.add_comm l.length 1, ← this, e]; rfl
theorem votes_perm {l m : List (Int × Int)} (h : l.Perm m) (t : Int) : votes l t = votes m t := by
  induction h with
  | nil => rfl
  | cons x _ ih => rw [votes_cons, votes_cons, ih]
  | swap x y l => rw [votes_cons, votes_cons, votes_cons, votes_cons]; omega
  | trans _ _ a b => exact a.trans b
theorem okTo_mem {l : List (Int × Int)} : okTo l l.length ↔ ∀ x, x ∈ l → okN x.1 x.2 := by
  constructor
  · intro h x hx
    obtain ⟨i, hi', e⟩ := List.getElem_of_mem hx
    have := h i hi'
    have e2 := mem_has l 0 x i (by rw [List.getElem?_eq_getElem hi', e])
    rw [e2.2.1, e2.2.2] at this
    exact this
  · intro h i hi'
    have := h l[i] (List.getElem_mem hi')
    have e2 := mem_has l 0 l[i] i (List.getElem?_eq_getElem hi')
    rw [e2.2.1, e2.2.2]; exact this
theorem vs_perm {l m : List (Int × Int)} (h : l.Perm m) : vs l = vs m := by
  unfold vs
  rw [decide_eq_decide, h.length_eq, okTo_mem (l := m), ← h.length_eq, okTo_mem]
  constructor
  · rintro ⟨a, b⟩; exact ⟨a, fun x hx => b x (h.mem_iff.2 hx)⟩
  · rintro ⟨a, b⟩; exact ⟨a, fun x hx => b x (h.mem_iff.1 hx)⟩
theorem agr_perm {l m : List (Int × Int)} (h : l.Perm m) (hv : vs l = true) : low m = low l ∧ high m = high l ∧ most m = most l := by
  have hv2 : vs m = true := by rw [← vs_perm h]; exact hv
  have hm : most m = most l := by
    obtain ⟨i, _, i2⟩ := most_has hv
    obtain ⟨j, _, j2⟩ := most_has hv2
    have a := most_ge m (lo l i)
    have b := most_ge l (lo m j)
    rw [← votes_perm h] at a j2
    omega
  have A := agr hv
  have B : Agr m (low l) (high l) := by
    refine ⟨by rw [← votes_perm h, A.at_, hm], fun n hn => by rw [← votes_perm h, hm]; exact A.least n hn, fun i hi' hh => ?_, ?_⟩
    · obtain ⟨j, hj, e⟩ := List.getElem_of_mem (h.mem_iff.2 (List.getElem_mem hi'))
      have e1 := mem_has m (low l) m[i] i (List.getElem?_eq_getElem hi')
      have e2 := mem_has l (low l) m[i] j (by rw [List.getElem?_eq_getElem hj, e])
      rw [e1.2.1, ← e2.2.1]
      exact A.top j hj (e2.1.2 (e1.1.1 hh))
    · obtain ⟨i, hi', hh, he⟩ := A.end_
      obtain ⟨j, hj, e⟩ := List.getElem_of_mem (h.mem_iff.1 (List.getElem_mem hi'))
      have e1 := mem_has l (low l) l[i] i (List.getElem?_eq_getElem hi')
      have e2 := mem_has m (low l) l[i] j (by rw [List.getElem?_eq_getElem hj, e])
      exact ⟨j, hj, e2.1.2 (e1.1.1 hh), by rw [e2.2.1, ← e1.2.1, he]⟩
  have := (agr hv2).same B
  exact ⟨this.1, this.2, hm⟩
theorem ag_perm {l m : List (Int × Int)} (h : l.Perm m) : agB m = agB l ∧ rlo m = rlo l ∧ rhi m = rhi l := by
  cases hv : vs l
  · have hv2 : vs m = false := by rw [← vs_perm h]; exact hv
    rw [agB_no1 hv, agB_no1 hv2, (r_no (agB_no1 hv)).1, (r_no (agB_no1 hv)).2, (r_no (agB_no1 hv2)).1, (r_no (agB_no1 hv2)).2]
    exact ⟨rfl, rfl, rfl⟩
  · have hv2 : vs m = true := by rw [← vs_perm h]; exact hv
    obtain ⟨e1, e2, e3⟩ := agr_perm h hv
    have e4 := h.length_eq
    have e : agB m = agB l := by unfold agB; rw [hv, hv2, e3, e4]
    refine ⟨e, ?_, ?_⟩
    · unfold rlo; rw [e, e1]
    · unfold rhi; rw [e, e2]
/-- Spans that are shifted. -/
def sh (l : List (Int × Int)) : List (Int × Int) := l.map fun p => (p.1 + 4, p.2 + 4)
theorem sh_len (l : List (Int × Int)) : (sh l).length = l.length := by simp [sh]
theorem sh_at (l : List (Int × Int)) (i : Nat) (h : i < l.length) : lo (sh l) i = lo l i + 4 ∧ hi (sh l) i = hi l i + 4 := by
  have e := get l i h
  unfold lo hi sh
  rw [List.getD_eq_getElem?_getD, List.getElem?_map, e]; exact ⟨rfl, rfl⟩
theorem sh_take (l : List (Int × Int)) (k : Nat) (h : k < l.length) : sh (l.take (k + 1)) = sh (l.take k) ++ [(lo l k + 4, hi l k + 4)] := by
  unfold sh
  rw [List.take_succ_eq_append_getElem h, List.map_append]
  have := get l k h
  rw [List.getElem?_eq_getElem h] at this
  injection this with this
  rw [this]; rfl
theorem sh_votes (l : List (Int × Int)) (t : Int) : votes (sh l) t = votes l (t - 4) := by
  unfold votes
  rw [sh_len]
  have : ∀ k, k ≤ l.length → votesTo (sh l) t k = votesTo l (t - 4) k := by
    intro k
    induction k with
    | zero => intro _; rfl
    | succ k ih =>
      intro hk
      unfold votesTo
      rw [ih (by omega)]
      have : has (sh l) t k ↔ has l (t - 4) k := by unfold has; rw [(sh_at l k (by omega)).1, (sh_at l k (by omega)).2]; omega
      simp only [this]
  exact this _ (Nat.le_refl _)
theorem sh_mid {l : List (Int × Int)} (h : agB l = true) (hh : ∀ i, i < l.length → hi l i + 4 ≤ 1000000) : agB (sh l) = true ∧ mid (sh l) = mid l + 4 := by
  obtain ⟨hv, hm⟩ := agB_of h
  have ok := vs_of hv
  have hv2 : vs (sh l) = true := by
    refine vs_yes (by rw [sh_len]; omega) (by rw [sh_len]; omega) (fun i hi' => ?_)
    rw [sh_len] at hi'
    rw [(sh_at l i hi').1, (sh_at l i hi').2]
    have := ok.2 i hi'
    have := hh i hi'
    unfold okN at *
    omega
  have hmo : most (sh l) = most l := by
    obtain ⟨i, _, i2⟩ := most_has hv
    obtain ⟨j, _, j2⟩ := most_has hv2
    have a := most_ge (sh l) (lo l i + 4)
    have b := most_ge l (lo (sh l) j - 4)
    rw [sh_votes, show lo l i + 4 - 4 = lo l i by omega] at a
    rw [sh_votes] at j2
    omega
  have A := agr hv
  have B : Agr (sh l) (low l + 4) (high l + 4) := by
    refine ⟨by rw [sh_votes, show low l + 4 - 4 = low l by omega, A.at_, hmo], fun n hn => by rw [sh_votes, hmo]; exact A.least _ (by omega), fun i hi' hx => ?_, ?_⟩
    · rw [sh_len] at hi'
      unfold has at hx
      rw [(sh_at l i hi').1, (sh_at l i hi').2] at hx
      rw [(sh_at l i hi').2]
      have := A.top i hi' ⟨by omega, by omega⟩
      omega
    · obtain ⟨i, hi', hx, he⟩ := A.end_
      refine ⟨i, by rw [sh_len]; exact hi', ?_, by rw [(sh_at l i hi').2]; omega⟩
      unfold has at hx ⊢
      rw [(sh_at l i hi').1, (sh_at l i hi').2]
      omega
  obtain ⟨e1, e2⟩ := (agr hv2).same B
  have e3 : agB (sh l) = true := agB_yes hv2 (by rw [sh_len, hmo]; exact hm)
  refine ⟨e3, ?_⟩
  rw [mid_yes e3, mid_yes h, e1, e2]; omega
end Go.Proofs.Ytgbbbmljanlogaa.V
