/-
  The plain arithmetic of votes: valid spans, how many have a number, the most votes, the span that is agreed on. No program is read here.
-/
namespace Go.Proofs.Ytgbbbmljanlogaa.V

def lo (l : List (Int × Int)) (i : Nat) : Int := (l.getD i (0, 0)).1
def hi (l : List (Int × Int)) (i : Nat) : Int := (l.getD i (0, 0)).2
theorem get (l : List (Int × Int)) (i : Nat) (h : i < l.length) : l[i]? = some (lo l i, hi l i) := by
  unfold lo hi; rw [List.getD_eq_getElem?_getD, List.getElem?_eq_getElem h]; rfl
def okN (a b : Int) : Prop := (-1000000 ≤ a ∧ a ≤ 1000000) ∧ a ≤ b ∧ b ≤ 1000000
instance (a b : Int) : Decidable (okN a b) := by unfold okN; infer_instance
def okTo (l : List (Int × Int)) (k : Nat) : Prop := ∀ i, i < k → okN (lo l i) (hi l i)
instance (l : List (Int × Int)) (k : Nat) : Decidable (okTo l k) := by unfold okTo; infer_instance
def vs (l : List (Int × Int)) : Bool := decide ((1 ≤ l.length ∧ l.length ≤ 7) ∧ okTo l l.length)
theorem vs_yes {l : List (Int × Int)} (h : 1 ≤ l.length) (h' : l.length ≤ 7) (k : okTo l l.length) : vs l = true := decide_eq_true ⟨⟨h, h'⟩, k⟩
theorem vs_long {l : List (Int × Int)} (h : ¬ (1 ≤ l.length ∧ l.length ≤ 7)) : vs l = false := decide_eq_false (fun k => h k.1)
theorem vs_bad {l : List (Int × Int)} (i : Nat) (hi' : i < l.length) (h : ¬ okN (lo l i) (hi l i)) : vs l = false := decide_eq_false (fun k => h (k.2 i hi'))
theorem vs_of {l : List (Int × Int)} (h : vs l = true) : (1 ≤ l.length ∧ l.length ≤ 7) ∧ okTo l l.length := of_decide_eq_true h
theorem okTo_succ {l : List (Int × Int)} {k : Nat} (h : okTo l k) (h' : okN (lo l k) (hi l k)) : okTo l (k + 1) := fun i hi' => by
  rcases Nat.lt_or_ge i k with a | a
  · exact h i a
  · obtain rfl : i = k := by omega
    exact h'
/-- Does the span at a place have a number? -/
def has (l : List (Int × Int)) (n : Int) (i : Nat) : Prop := lo l i ≤ n ∧ n ≤ hi l i
instance (l : List (Int × Int)) (n : Int) (i : Nat) : Decidable (has l n i) := by unfold has; infer_instance
def votesTo (l : List (Int × Int)) (n : Int) : Nat → Nat
  | 0 => 0
  | k + 1 => votesTo l n k + (if has l n k then 1 else 0)
def votes (l : List (Int × Int)) (n : Int) : Nat := votesTo l n l.length
theorem votesTo_le (l : List (Int × Int)) (n : Int) : ∀ k, votesTo l n k ≤ k
  | 0 => Nat.le_refl _
  | k + 1 => by have := votesTo_le l n k; unfold votesTo; split <;> omega
theorem votes_le (l : List (Int × Int)) (n : Int) : votes l n ≤ l.length := votesTo_le _ _ _
theorem votesTo_mono {l : List (Int × Int)} {n m : Int} : ∀ k, (∀ i, i < k → has l n i → has l m i) → votesTo l n k ≤ votesTo l m k
  | 0, _ => Nat.le_refl _
  | k + 1, h => by
    have := votesTo_mono k (fun i hi' => h i (by omega))
    have hk := h k (by omega)
    unfold votesTo
    by_cases a : has l n k
    · rw [if_pos a, if_pos (hk a)]; omega
    · rw [if_neg a]; split <;> omega
theorem votesTo_pos {l : List (Int × Int)} {n : Int} : ∀ k, (votesTo l n k = 0 ↔ ∀ i, i < k → ¬ has l n i)
  | 0 => ⟨fun _ i h => by omega, fun _ => rfl⟩
  | k + 1 => by
    have ih := votesTo_pos (l := l) (n := n) k
    unfold votesTo
    constructor
    · intro h i hi' a
      by_cases b : has l n k
      · rw [if_pos b] at h; omega
      · rw [if_neg b] at h
        rcases Nat.lt_or_ge i k with c | c
        · exact ih.1 (by omega) i c a
        · obtain rfl : i = k := by omega
          exact b a
    · intro h
      rw [if_neg (h k (by omega)), ih.2 (fun i hi' => h i (by omega))]
/-- Of the spans that have a number one begins last. -/
theorem last_begin {l : List (Int × Int)} {n : Int} : ∀ k, (∃ i, i < k ∧ has l n i) → ∃ i, i < k ∧ has l n i ∧ ∀ j, j < k → has l n j → lo l j ≤ lo l i
  | 0, ⟨i, h, _⟩ => by omega
  | k + 1, h => by
    by_cases a : ∃ i, i < k ∧ has l n i
    · obtain ⟨i, h1, h2, h3⟩ := last_begin k a
      by_cases b : has l n k ∧ lo l i < lo l k
      · refine ⟨k, by omega, b.1, fun j hj hh => ?_⟩
        rcases Nat.lt_or_ge j k with c | c
        · have := h3 j c hh; omega
        · obtain rfl : j = k := by omega
          exact Int.le_refl _
      · refine ⟨i, by omega, h2, fun j hj hh => ?_⟩
        rcases Nat.lt_or_ge j k with c | c
        · exact h3 j c hh
        · obtain rfl : j = k := by omega
          by_cases d : lo l i < lo l j
          · exact absurd ⟨hh, d⟩ b
          · omega
    · obtain ⟨i, h1, h2⟩ := h
      obtain rfl : i = k := by
        rcases Nat.lt_or_ge i k with c | c
        · exact absurd ⟨i, c, h2⟩ a
        · omega
      refine ⟨i, by omega, h2, fun j hj hh => ?_⟩
      rcases Nat.lt_or_ge j i with c | c
      · exact absurd ⟨j, c, hh⟩ a
      · obtain rfl : j = i := by omega
        exact Int.le_refl _
/-- A number has no more votes than some beginning that is not greater. -/
theorem votes_begin {l : List (Int × Int)} {n : Int} (h : 0 < votes l n) : ∃ i, i < l.length ∧ has l n i ∧ votes l n ≤ votes l (lo l i) := by
  have : ∃ i, i < l.length ∧ has l n i := by
    rcases Classical.em (∃ i, i < l.length ∧ has l n i) with a | a
    · exact a
    · have := (votesTo_pos (l := l) (n := n) l.length).2 (fun i hi' b => a ⟨i, hi', b⟩)
      unfold votes at h; omega
  obtain ⟨i, h1, h2, h3⟩ := last_begin l.length this
  exact ⟨i, h1, h2, votesTo_mono _ (fun j hj hh => ⟨h3 j hj hh, by have := h2.1; have := hh.2; omega⟩)⟩
/-- The most votes for the first k beginnings. -/
def mostTo (l : List (Int × Int)) : Nat → Nat
  | 0 => 0
  | k + 1 => max (mostTo l k) (votes l (lo l k))
def most (l : List (Int × Int)) : Nat := mostTo l l.length
theorem mostTo_ge {l : List (Int × Int)} : ∀ k i, i < k → votes l (lo l i) ≤ mostTo l k
  | 0, i, h => by omega
  | k + 1, i, h => by
    unfold mostTo
    rcases Nat.lt_or_ge i k with a | a
    · have := mostTo_ge (l := l) k i a; omega
    · obtain rfl : i = k := by omega
      omega
theorem mostTo_at {l : List (Int × Int)} : ∀ k, 0 < mostTo l k → ∃ i, i < k ∧ votes l (lo l i) = mostTo l k
  | 0, h => by unfold mostTo at h; omega
  | k + 1, h => by
    unfold mostTo at h ⊢
    by_cases a : mostTo l k ≤ votes l (lo l k)
    · exact ⟨k, by omega, by omega⟩
    · obtain ⟨i, h1, h2⟩ := mostTo_at (l := l) k (by omega)
      exact ⟨i, by omega, by omega⟩
theorem mostTo_le {l : List (Int × Int)} : ∀ k, mostTo l k ≤ l.length
  | 0 => by unfold mostTo; omega
  | k + 1 => by unfold mostTo; have := mostTo_le (l := l) k; have := votes_le l (lo l k); omega
theorem most_ge (l : List (Int × Int)) (n : Int) : votes l n ≤ most l := by
  rcases Nat.eq_zero_or_pos (votes l n) with a | a
  · omega
  · obtain ⟨i, h1, _, h3⟩ := votes_begin a
    exact Nat.le_trans h3 (mostTo_ge _ i h1)
theorem most_le (l : List (Int × Int)) : most l ≤ l.length := mostTo_le _
theorem has_lo {l : List (Int × Int)} (h : vs l = true) {i : Nat} (hi' : i < l.length) : has l (lo l i) i := by
  have := (vs_of h).2 i hi'; unfold okN at this; exact ⟨Int.le_refl _, this.2.1⟩
theorem votes_pos {l : List (Int × Int)} {n : Int} {i : Nat} (hi' : i < l.length) (h : has l n i) : 0 < votes l n := by
  rcases Nat.eq_zero_or_pos (votes l n) with a | a
  · exact absurd h ((votesTo_pos _).1 a i hi')
  · exact a
theorem most_pos {l : List (Int × Int)} (h : vs l = true) : 0 < most l := by
  have h0 := (vs_of h).1
  have := mostTo_ge (l := l) l.length 0 (by omega)
  have := votes_pos (by omega) (has_lo h (show 0 < l.length by omega))
  unfold most; omega
/-- The least beginning with the most votes among the first k. -/
def lowTo (l : List (Int × Int)) : Nat → Int
  | 0 => 1000000
  | k + 1 => if votes l (lo l k) = most l then min (lowTo l k) (lo l k) else lowTo l k
def low (l : List (Int × Int)) : Int := lowTo l l.length
def highTo (l : List (Int × Int)) (n : Int) : Nat → Int
  | 0 => 1000000
  | k + 1 => if has l n k then min (highTo l n k) (hi l k) else highTo l n k
def high (l : List (Int × Int)) : Int := highTo l (low l) l.length
theorem lowTo_le {l : List (Int × Int)} : ∀ k i, i < k → votes l (lo l i) = most l → lowTo l k ≤ lo l i
  | 0, i, h, _ => by omega
  | k + 1, i, h, e => by
    unfold lowTo
    rcases Nat.lt_or_ge i k with a | a
    · have := lowTo_le k i a e; split <;> omega
    · obtain rfl : i = k := by omega
      rw [if_pos e]; omega
theorem lowTo_at {l : List (Int × Int)} (ok : okTo l l.length) : ∀ k, k ≤ l.length → (∃ i, i < k ∧ votes l (lo l i) = most l) → ∃ i, i < k ∧ votes l (lo l i) = most l ∧ lo l i = lowTo l k
  | 0, _, ⟨i, h, _⟩ => by omega
  | k + 1, hk, h => by
    unfold lowTo
    by_cases a : votes l (lo l k) = most l
    · rw [if_pos a]
      by_cases b : lo l k ≤ lowTo l k
      · exact ⟨k, by omega, a, by omega⟩
      · have hx : ∃ i, i < k ∧ votes l (lo l i) = most l := by
          rcases Classical.em (∃ i, i < k ∧ votes l (lo l i) = most l) with c | c
          · exact c
          · exfalso
            have : ∀ m, m ≤ k → lowTo l m = 1000000 := by
              intro m
              induction m with
              | zero => exact fun _ => rfl
              | succ m ih => intro hm; unfold lowTo; rw [if_neg (fun e => c ⟨m, by omega, e⟩)]; exact ih (by omega)
            have := this k (Nat.le_refl _)
            have := (ok k (by omega)).1
            omega
        obtain ⟨i, h1, h2, h3⟩ := lowTo_at ok k (by omega) hx
        exact ⟨i, by omega, h2, by omega⟩
    · rw [if_neg a]
      obtain ⟨i, h1, h2⟩ := h
      obtain ⟨j, h3, h4, h5⟩ := lowTo_at ok k (by omega) ⟨i, by
        rcases Nat.lt_or_ge i k with c | c
        · exact c
        · obtain rfl : i = k := by omega
          exact absurd h2 a, h2⟩
      exact ⟨j, by omega, h4, h5⟩
/-- What is agreed on: the least number with the most votes; and as far as all that have it go. -/
structure Agr (l : List (Int × Int)) (a b : Int) : Prop where
  at_ : votes l a = most l
  least : ∀ n, n < a → votes l n < most l
  top : ∀ i, i < l.length → has l a i → b ≤ hi l i
  end_ : ∃ i, i < l.length ∧ has l a i ∧ hi l i = b
theorem Agr.same {l : List (Int × Int)} {a b c d : Int} (h : Agr l a b) (k : Agr l c d) : a = c ∧ b = d := by
  have e : a = c := by
    rcases Int.lt_trichotomy a c with x | x | x
    · have := k.least a x; have := h.at_; omega
    · exact x
    · have := h.least c x; have := k.at_; omega
  subst e
  refine ⟨rfl, ?_⟩
  obtain ⟨i, h1, h2, h3⟩ := h.end_
  obtain ⟨j, k1, k2, k3⟩ := k.end_
  have := h.top j k1 k2
  have := k.top i h1 h2
  omega
theorem highTo_le {l : List (Int × Int)} {n : Int} : ∀ k i, i < k → has l n i → highTo l n k ≤ hi l i
  | 0, i, h, _ => by omega
  | k + 1, i, h, e => by
    unfold highTo
    rcases Nat.lt_or_ge i k with a | a
    · have := highTo_le k i a e; split <;> omega
    · obtain rfl : i = k := by omega
      rw [if_pos e]; omega
theorem highTo_at {l : List (Int × Int)} {n : Int} (ok : okTo l l.length) : ∀ k, k ≤ l.length → (∃ i, i < k ∧ has l n i) → ∃ i, i < k ∧ has l n i ∧ hi l i = highTo l n k
  | 0, _, ⟨i, h, _⟩ => by omega
  | k + 1, hk, h => by
    unfold highTo
    by_cases a : has l n k
    · rw [if_pos a]
      by_cases b : hi l k ≤ highTo l n k
      · exact ⟨k, by omega, a, by omega⟩
      · have hx : ∃ i, i < k ∧ has l n i := by
          rcases Classical.em (∃ i, i < k ∧ has l n i) with c | c
          · exact c
          · exfalso
            have : ∀ m, m ≤ k → highTo l n m = 1000000 := by
              intro m
              induction m with
              | zero => exact fun _ => rfl
              | succ m ih => intro hm; unfold highTo; rw [if_neg (fun e => c ⟨m, by omega, e⟩)]; exact ih (by omega)
            have := this k (Nat.le_refl _)
            have := (ok k (by omega)).2.2
            omega
        obtain ⟨i, h1, h2, h3⟩ := highTo_at ok k (by omega) hx
        exact ⟨i, by omega, h2, by omega⟩
    · rw [if_neg a]
      obtain ⟨i, h1, h2⟩ := h
      obtain ⟨j, h3, h4, h5⟩ := highTo_at (n := n) ok k (by omega) ⟨i, by
        rcases Nat.lt_or_ge i k with c | c
        · exact c
        · obtain rfl : i = k := by omega
          exact absurd h2 a, h2⟩
      exact ⟨j, by omega, h4, h5⟩
theorem agr {l : List (Int × Int)} (h : vs l = true) : Agr l (low l) (high l) := by
  have ok := (vs_of h).2
  have hp := most_pos h
  obtain ⟨i, h1, h2⟩ := mostTo_at (l := l) l.length hp
  obtain ⟨j, j1, j2, j3⟩ := lowTo_at ok l.length (Nat.le_refl _) ⟨i, h1, h2⟩
  have hlow : lo l j = low l := j3
  refine ⟨by rw [← hlow]; exact j2, fun n hn => ?_, fun i hi' hh => highTo_le _ i hi' hh, ?_⟩
  · rcases Nat.lt_or_ge (votes l n) (most l) with a | a
    · exact a
    · exfalso
      obtain ⟨m, m1, m2, m3⟩ := votes_begin (l := l) (n := n) (by omega)
      have := most_ge l (lo l m)
      have := lowTo_le (l := l) l.length m m1 (by omega)
      have := m2.1
      unfold low at hn; omega
  · have hj : has l (low l) j := by rw [← hlow]; exact has_lo h j1
    obtain ⟨i, a, b, c⟩ := highTo_at ok l.length (Nat.le_refl _) ⟨j, j1, hj⟩
    exact ⟨i, a, b, c⟩
theorem Agr.le {l : List (Int × Int)} {a b : Int} (h : Agr l a b) : a ≤ b := by
  obtain ⟨i, _, h2, h3⟩ := h.end_
  have := h2.2; omega
/-- What AgreedSpan tells. -/
def agB (l : List (Int × Int)) : Bool := vs l && decide (l.length < 2 * most l)
theorem agB_of {l : List (Int × Int)} (h : agB l = true) : vs l = true ∧ l.length < 2 * most l := by
  unfold agB at h; rw [Bool.and_eq_true] at h; exact ⟨h.1, of_decide_eq_true h.2⟩
def rlo (l : List (Int × Int)) : Int := if agB l = true then low l else 0
def rhi (l : List (Int × Int)) : Int := if agB l = true then high l else 0
theorem agB_yes {l : List (Int × Int)} (h : vs l = true) (k : l.length < 2 * most l) : agB l = true := by unfold agB; rw [h, decide_eq_true k]; rfl
theorem agB_no1 {l : List (Int × Int)} (h : vs l = false) : agB l = false := by unfold agB; rw [h]; rfl
theorem agB_no2 {l : List (Int × Int)} (k : ¬ l.length < 2 * most l) : agB l = false := by unfold agB; rw [decide_eq_false k, Bool.and_false]
theorem r_yes {l : List (Int × Int)} (h : agB l = true) : rlo l = low l ∧ rhi l = high l := ⟨if_pos h, if_pos h⟩
theorem r_no {l : List (Int × Int)} (h : agB l = false) : rlo l = 0 ∧ rhi l = 0 := ⟨if_neg (by rw [h]; decide), if_neg (by rw [h]; decide)⟩
theorem agr_bd {l : List (Int × Int)} (h : vs l = true) : -1000000 ≤ low l ∧ low l ≤ high l ∧ high l ≤ 1000000 := by
  have A := agr h
  have ok := (vs_of h).2
  obtain ⟨i, h1, h2, h3⟩ := A.end_
  have := (ok i h1)
  unfold okN at this
  have := A.le
  refine ⟨?_, this, by omega⟩
  have hp := most_pos h
  have := A.at_
  obtain ⟨j, j1, j2, _⟩ := votes_begin (l := l) (n := low l) (by omega)
  have := (ok j j1).1
  have := j2.1
  omega
theorem r_bd (l : List (Int × Int)) : -1000000 ≤ rlo l ∧ rlo l ≤ rhi l ∧ rhi l ≤ 1000000 := by
  cases h : agB l
  · rw [(r_no h).1, (r_no h).2]; omega
  · rw [(r_yes h).1, (r_yes h).2]; exact agr_bd (agB_of h).1
def vf (l : List (Int × Int)) (t : Int) : Int := if vs l = true then (votes l t : Int) else -1
def mv (l : List (Int × Int)) : Int := if vs l = true then (most l : Int) else -1
def mid (l : List (Int × Int)) : Int := if agB l = true then low l + (high l - low l) / 2 else 0
theorem vf_yes {l : List (Int × Int)} {t : Int} (h : vs l = true) : vf l t = votes l t := if_pos h
theorem vf_no {l : List (Int × Int)} {t : Int} (h : vs l = false) : vf l t = -1 := if_neg (by rw [h]; decide)
theorem mv_yes {l : List (Int × Int)} (h : vs l = true) : mv l = most l := if_pos h
theorem mv_no {l : List (Int × Int)} (h : vs l = false) : mv l = -1 := if_neg (by rw [h]; decide)
theorem mid_yes {l : List (Int × Int)} (h : agB l = true) : mid l = low l + (high l - low l) / 2 := if_pos h
theorem mid_no {l : List (Int × Int)} (h : agB l = false) : mid l = 0 := if_neg (by rw [h]; decide)
/-- The sources whose spans do not have the least agreed number, among the first k. -/
def flsTo (l : List (Int × Int)) : Nat → List Int
  | 0 => []
  | k + 1 => if has l (low l) k then flsTo l k else flsTo l k ++ [(k : Int)]
def fls (l : List (Int × Int)) : List Int := if agB l = true then flsTo l l.length else []
theorem fls_yes {l : List (Int × Int)} (h : agB l = true) : fls l = flsTo l l.length := if_pos h
theorem fls_no {l : List (Int × Int)} (h : agB l = false) : fls l = [] := if_neg (by rw [h]; decide)
theorem flsTo_in {l : List (Int × Int)} {k : Nat} (h : has l (low l) k) : flsTo l (k + 1) = flsTo l k := if_pos h
theorem flsTo_out {l : List (Int × Int)} {k : Nat} (h : ¬ has l (low l) k) : flsTo l (k + 1) = flsTo l k ++ [(k : Int)] := if_neg h
theorem flsTo_len (l : List (Int × Int)) : ∀ k, (flsTo l k).length + votesTo l (low l) k = k
  | 0 => rfl
  | k + 1 => by
    have ih := flsTo_len l k
    by_cases h : has l (low l) k
    · rw [flsTo_in h]; unfold votesTo; rw [if_pos h]; omega
    · rw [flsTo_out h]; unfold votesTo; rw [if_neg h]; simp; omega
theorem flsTo_mem (l : List (Int × Int)) : ∀ k (x : Int), x ∈ flsTo l k ↔ ∃ i : Nat, i < k ∧ x = i ∧ ¬ has l (low l) i
  | 0, x => by simp [flsTo]
  | k + 1, x => by
    have ih := flsTo_mem l k x
    by_cases h : has l (low l) k
    · rw [flsTo_in h, ih]
      constructor
      · rintro ⟨i, a, b, c⟩; exact ⟨i, by omega, b, c⟩
      · rintro ⟨i, a, b, c⟩
        refine ⟨i, ?_, b, c⟩
        rcases Nat.lt_or_ge i k with d | d
        · exact d
        · obtain rfl : i = k := by omega
          exact absurd h c
    · rw [flsTo_out h, List.mem_append, ih]
      constructor
      · rintro (⟨i, a, b, c⟩ | hx)
        · exact ⟨i, by omega, b, c⟩
        · simp at hx; exact ⟨k, by omega, hx, h⟩
      · rintro ⟨i, a, b, c⟩
        rcases Nat.lt_or_ge i k with d | d
        · exact .inl ⟨i, d, b, c⟩
        · obtain rfl : i = k := by omega
          exact .inr (by simp [b])
/-- Every number of the span that is agreed on has the most votes. -/
theorem Agr.all {l : List (Int × Int)} {a b n : Int} (h : Agr l a b) (h1 : a ≤ n) (h2 : n ≤ b) : votes l n = most l := by
  have := most_ge l n
  have : votes l a ≤ votes l n := votesTo_mono _ (fun i hi' hh => ⟨by have := hh.1; omega, by have := h.top i hi' hh; omega⟩)
  have := h.at_
  omega
end Go.Proofs.Ytgbbbmljanlogaa.V
