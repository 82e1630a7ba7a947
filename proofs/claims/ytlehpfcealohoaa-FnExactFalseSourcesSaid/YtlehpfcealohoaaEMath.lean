/-
  The plain arithmetic of a sweep over the ends of spans: each span gives its beginning with 1 and the number behind its end with -1; in ascending order, at one number ends first, the sums are the votes. No program is read here.
-/
import Derived.Test.YtlehpfcealohoaaVMath
namespace Go.Proofs.Ytlehpfcealohoaa.V

def ends : List (Int × Int) → List (Int × Int)
  | [] => []
  | p :: l => (p.1, 1) :: (p.2 + 1, -1) :: ends l
theorem ends_len : ∀ l, (ends l).length = 2 * l.length
  | [] => rfl
  | p :: l => by have := ends_len l; simp [ends]; omega
theorem ends_append : ∀ l l', ends (l ++ l') = ends l ++ ends l'
  | [], l' => rfl
  | p :: l, l' => by simp [ends, ends_append l l']
theorem take_snoc' (l : List (Int × Int)) (k : Nat) (h : k < l.length) : l.take (k + 1) = l.take k ++ [(lo l k, hi l k)] := by
  rw [List.take_succ_eq_append_getElem h]
  have := get l k h
  rw [List.getElem?_eq_getElem h] at this
  injection this with this
  rw [this]
theorem ends_take (l : List (Int × Int)) (k : Nat) (h : k < l.length) : ends (l.take (k + 1)) = ends (l.take k) ++ [(lo l k, 1), (hi l k + 1, -1)] := by
  rw [take_snoc' l k h, ends_append]; rfl
theorem mem_ends : ∀ (l : List (Int × Int)) (p : Int × Int), p ∈ ends l ↔ ∃ i, i < l.length ∧ (p = (lo l i, 1) ∨ p = (hi l i + 1, -1))
  | [], p => by simp [ends]
  | q :: l, p => by
    have ih := mem_ends l p
    simp only [ends, List.mem_cons, ih]
    constructor
    · rintro (h | h | ⟨i, h1, h2⟩)
      · exact ⟨0, by simp, .inl h⟩
      · exact ⟨0, by simp, .inr h⟩
      · exact ⟨i + 1, by simpa using h1, h2⟩
    · rintro ⟨i, h1, h2⟩
      cases i with
      | zero => rcases h2 with h2 | h2
                · exact .inl h2
                · exact .inr (.inl h2)
      | succ i => exact .inr (.inr ⟨i, by simpa using h1, h2⟩)
/-- The sum of the changes up to a number. -/
def upto (E : List (Int × Int)) (t : Int) : Int := (E.map fun p => if p.1 ≤ t then p.2 else 0).sum
theorem upto_append (E F : List (Int × Int)) (t : Int) : upto (E ++ F) t = upto E t + upto F t := by simp [upto]
theorem upto_perm {E F : List (Int × Int)} (h : E.Perm F) (t : Int) : upto E t = upto F t := by
  induction h with
  | nil => rfl
  | cons x _ ih => simp only [upto, List.map_cons, List.sum_cons] at ih ⊢; omega
  | swap x y l => simp only [upto, List.map_cons, List.sum_cons]; omega
  | trans _ _ a b => exact a.trans b
theorem votesTo_upto {l : List (Int × Int)} (t : Int) : ∀ k, k ≤ l.length → okTo l k → (votesTo l t k : Int) = upto (ends (l.take k)) t
  | 0, _, _ => by simp [votesTo, upto, ends]
  | k + 1, h, ok => by
    have ih := votesTo_upto (l := l) t k (by omega) (fun i hi' => ok i (by omega))
    have hk := (ok k (by omega)).2.1
    rw [ends_take l k (by omega), upto_append, ← ih]
    have e : upto [(lo l k, 1), (hi l k + 1, -1)] t = (if lo l k ≤ t then 1 else 0) + (if hi l k + 1 ≤ t then -1 else 0) := by simp [upto]
    have e2 : (votesTo l t (k + 1) : Int) = votesTo l t k + (if has l t k then 1 else 0) := by
      show ((votesTo l t k + (if has l t k then 1 else 0) : Nat) : Int) = _
      split <;> simp
    rw [e, e2]
    by_cases a : lo l k ≤ t <;> by_cases b : hi l k + 1 ≤ t
    · rw [if_neg (fun h : has l t k => by have := h.2; omega), if_pos a, if_pos b]; omega
    · rw [if_pos (show has l t k from ⟨a, by omega⟩), if_pos a, if_neg b]; omega
    · omega
    · rw [if_neg (fun h : has l t k => a h.1), if_neg a, if_neg b]; omega
theorem votes_upto {l : List (Int × Int)} (t : Int) (ok : okTo l l.length) : (votes l t : Int) = upto (ends l) t := by
  unfold votes; rw [votesTo_upto t l.length (Nat.le_refl _) ok, List.take_length]
/-- The sum of the first changes. -/
def S (E : List (Int × Int)) : Nat → Int
  | 0 => 0
  | k + 1 => S E k + hi E k
def uT (E : List (Int × Int)) (t : Int) : Nat → Int
  | 0 => 0
  | k + 1 => uT E t k + (if lo E k ≤ t then hi E k else 0)
theorem uT_upto {E : List (Int × Int)} (t : Int) : ∀ k, k ≤ E.length → uT E t k = upto (E.take k) t
  | 0, _ => by simp [uT, upto]
  | k + 1, h => by
    rw [take_snoc' E k (by omega), upto_append, ← uT_upto t k (by omega)]
    simp [uT, upto]
theorem uT_all {E : List (Int × Int)} (t : Int) : uT E t E.length = upto E t := by rw [uT_upto t _ (Nat.le_refl _), List.take_length]
/-- In ascending order, at one number ends first. -/
def Asc (E : List (Int × Int)) : Prop := ∀ i j, i < j → j < E.length → lo E i < lo E j ∨ (lo E i = lo E j ∧ hi E i ≤ hi E j)
theorem split {E : List (Int × Int)} (h : Asc E) (t : Int) : ∀ k, k ≤ E.length → ∃ m, m ≤ k ∧ uT E t k = S E m ∧ (∀ i, i < m → lo E i ≤ t) ∧ (∀ i, m ≤ i → i < k → t < lo E i)
  | 0, _ => ⟨0, by omega, rfl, fun i hi' => by omega, fun i _ hi' => by omega⟩
  | k + 1, hk => by
    obtain ⟨m, h1, h2, h3, h4⟩ := split h t k (by omega)
    by_cases a : lo E k ≤ t
    · have hm : m = k := by
        rcases Nat.lt_or_ge m k with b | b
        · have := h4 m (Nat.le_refl _) b
          have := h m k b (by omega)
          omega
        · omega
      subst hm
      refine ⟨m + 1, by omega, ?_, fun i hi' => ?_, fun i _ hi' => by omega⟩
      · show uT E t m + _ = S E m + _
        rw [if_pos a, h2]
      · rcases Nat.lt_or_ge i m with b | b
        · exact h3 i b
        · obtain rfl : i = m := by omega
          exact a
    · refine ⟨m, by omega, ?_, h3, fun i hi' hi2 => ?_⟩
      · show uT E t k + _ = _
        rw [if_neg a, h2]; omega
      · rcases Nat.lt_or_ge i k with b | b
        · exact h4 i hi' b
        · obtain rfl : i = k := by omega
          omega
structure Ends (l E : List (Int × Int)) : Prop where
  perm : E.Perm (ends l)
  asc : Asc E
theorem Ends.len {l E : List (Int × Int)} (h : Ends l E) : E.length = 2 * l.length := by rw [h.perm.length_eq, ends_len]
theorem Ends.mem {l E : List (Int × Int)} (h : Ends l E) (k : Nat) (hk : k < E.length) : ∃ i, i < l.length ∧ ((lo E k = lo l i ∧ hi E k = 1) ∨ (lo E k = hi l i + 1 ∧ hi E k = -1)) := by
  have hg := get E k hk
  rw [List.getElem?_eq_getElem hk] at hg
  injection hg with hg
  have : (lo E k, hi E k) ∈ ends l := h.perm.mem_iff.1 (by rw [← hg]; exact List.getElem_mem hk)
  obtain ⟨i, h1, h2⟩ := (mem_ends l _).1 this
  refine ⟨i, h1, ?_⟩
  rcases h2 with h2 | h2
  · injection h2 with a b; exact .inl ⟨a, b⟩
  · injection h2 with a b; exact .inr ⟨a, b⟩
theorem Ends.at_ {l E : List (Int × Int)} (h : Ends l E) {p : Int × Int} (hp : p ∈ ends l) : ∃ k, k < E.length ∧ lo E k = p.1 ∧ hi E k = p.2 := by
  obtain ⟨k, hk, e⟩ := List.getElem_of_mem (h.perm.mem_iff.2 hp)
  have hg := get E k hk
  rw [List.getElem?_eq_getElem hk, e] at hg
  injection hg with hg
  exact ⟨k, hk, by rw [hg], by rw [hg]⟩
theorem Ends.bd {l E : List (Int × Int)} (h : Ends l E) (ok : okTo l l.length) (k : Nat) (hk : k < E.length) : (-1000000 ≤ lo E k ∧ lo E k ≤ 1000001) ∧ (hi E k = 1 ∨ hi E k = -1) := by
  obtain ⟨i, h1, h2⟩ := h.mem k hk
  have := ok i h1
  unfold okN at this
  rcases h2 with ⟨a, b⟩ | ⟨a, b⟩
  · exact ⟨by omega, .inl b⟩
  · exact ⟨by omega, .inr b⟩
theorem Ends.votes {l E : List (Int × Int)} (h : Ends l E) (ok : okTo l l.length) (t : Int) : ∃ m, m ≤ E.length ∧ (votes l t : Int) = S E m ∧ (∀ i, i < m → lo E i ≤ t) ∧ (∀ i, m ≤ i → i < E.length → t < lo E i) := by
  obtain ⟨m, h1, h2, h3, h4⟩ := split h.asc t E.length (Nat.le_refl _)
  exact ⟨m, h1, by rw [votes_upto t ok, ← upto_perm h.perm, ← uT_all, h2], h3, h4⟩
theorem Ends.sum_bd {l E : List (Int × Int)} (h : Ends l E) (ok : okTo l l.length) : ∀ k : Nat, k ≤ E.length → -(k : Int) ≤ S E k ∧ S E k ≤ k
  | 0, _ => by simp [S]
  | k + 1, hk => by
    have := h.sum_bd ok k (by omega)
    have := (h.bd ok k (by omega)).2
    show -((k + 1 : Nat) : Int) ≤ S E k + hi E k ∧ S E k + hi E k ≤ ((k + 1 : Nat) : Int)
    omega
theorem Ends.total {l E : List (Int × Int)} (h : Ends l E) (ok : okTo l l.length) : S E E.length = 0 := by
  obtain ⟨m, h1, h2, h3, h4⟩ := h.votes ok 1000001
  have hm : m = E.length := by
    rcases Nat.lt_or_ge m E.length with b | b
    · have := h4 m (Nat.le_refl _) b
      have := (h.bd ok m b).1
      omega
    · omega
  subst hm
  have : V.votes l 1000001 = 0 := (votesTo_pos l.length).2 (fun i hi' a => by have := (ok i hi').2.2; have := a.2; omega)
  omega
/-- A sum of first changes is no more than the votes for some number. -/
theorem Ends.up {l E : List (Int × Int)} (h : Ends l E) (ok : okTo l l.length) (k : Nat) (hk : k < E.length) (h1 : hi E k = 1) : S E (k + 1) ≤ V.votes l (lo E k) := by
  obtain ⟨m, m1, m2, m3, m4⟩ := h.votes ok (lo E k)
  have hkm : k + 1 ≤ m := by
    rcases Nat.lt_or_ge k m with b | b
    · exact b
    · have := m4 k b hk; omega
  rw [m2]
  have : ∀ d, k + 1 + d ≤ m → S E (k + 1) ≤ S E (k + 1 + d) := by
    intro d
    induction d with
    | zero => intro _; exact Int.le_refl _
    | succ d ih =>
      intro hd
      have i1 := ih (by omega)
      have i2 := h.asc k (k + 1 + d) (by omega) (by omega)
      have i3 := m3 (k + 1 + d) (by omega)
      show _ ≤ S E (k + 1 + d) + hi E (k + 1 + d)
      omega
  have := this (m - (k + 1)) (by omega)
  rwa [show k + 1 + (m - (k + 1)) = m by omega] at this
/-- What is known behind the first k ends. -/
structure Swept (E : List (Int × Int)) (k : Nat) (m a b : Int) : Prop where
  le : ∀ j, j ≤ k → S E j ≤ m
  at_ : (m = 0 ∧ a = 0 ∧ b = 0) ∨ (0 < m ∧ ∃ j, j < k ∧ S E (j + 1) = m ∧ (∀ i, i ≤ j → S E i < m) ∧ a = lo E j ∧ b = lo E (j + 1) - 1)
theorem swept_0 (E : List (Int × Int)) : Swept E 0 0 0 0 := ⟨fun j hj => by obtain rfl : j = 0 := by omega
                                                                            exact Int.le_refl _, .inl ⟨rfl, rfl, rfl⟩⟩
theorem Swept.nn {E : List (Int × Int)} {k : Nat} {m a b : Int} (h : Swept E k m a b) : 0 ≤ m := h.le 0 (Nat.zero_le _)
theorem Swept.new {E : List (Int × Int)} {k : Nat} {m a b : Int} (h : Swept E k m a b) (hm : m < S E k + hi E k) : Swept E (k + 1) (S E k + hi E k) (lo E k) (lo E (k + 1) - 1) := by
  refine ⟨fun j hj => ?_, .inr ⟨by have := h.nn; omega, k, by omega, rfl, fun i hi' => by have := h.le i hi'; omega, rfl, rfl⟩⟩
  rcases Nat.lt_or_ge k j with c | c
  · obtain rfl : j = k + 1 := by omega
    exact Int.le_refl _
  · have := h.le j c; omega
theorem Swept.old {E : List (Int × Int)} {k : Nat} {m a b : Int} (h : Swept E k m a b) (hm : ¬ m < S E k + hi E k) : Swept E (k + 1) m a b := by
  refine ⟨fun j hj => ?_, ?_⟩
  · rcases Nat.lt_or_ge k j with c | c
    · obtain rfl : j = k + 1 := by omega
      show S E k + hi E k ≤ m
      omega
    · exact h.le j c
  · rcases h.at_ with h | ⟨h0, j, h1, h2⟩
    · exact .inl h
    · exact .inr ⟨h0, j, by omega, h2⟩
/-- Behind a new greatest sum another end follows. -/
theorem Ends.more {l E : List (Int × Int)} (h : Ends l E) (ok : okTo l l.length) {k : Nat} (hk : k < E.length) (hp : 0 < S E k + hi E k) : k + 1 < E.length := by
  rcases Nat.lt_or_ge (k + 1) E.length with c | c
  · exact c
  · have e : k + 1 = E.length := by omega
    have := h.total ok
    rw [← e] at this
    have e2 : S E (k + 1) = S E k + hi E k := rfl
    omega
theorem Swept.done {l E : List (Int × Int)} {m a b : Int} (hv : vs l = true) (h : Ends l E) (s : Swept E E.length m a b) : m = most l ∧ a = low l ∧ b = high l := by
  have ok := (vs_of hv).2
  have hp := most_pos hv
  obtain ⟨i0, _, e0⟩ := mostTo_at (l := l) l.length hp
  have hge : (most l : Int) ≤ m := by
    obtain ⟨k, k1, k2, _⟩ := h.votes ok (lo l i0)
    have := s.le k k1
    have e0' : V.votes l (lo l i0) = most l := e0
    omega
  rcases s.at_ with ⟨h0, _⟩ | ⟨hpos, j, h1, h2, h3, h4, h5⟩
  · omega
  have hj1 := h3 j (Nat.le_refl _)
  have e1 : S E (j + 1) = S E j + hi E j := rfl
  have hb := h.bd ok j h1
  have hup : hi E j = 1 := by omega
  have hle := h.up ok j h1 hup
  have hmo := most_ge l (lo E j)
  have hm : m = most l := by omega
  refine ⟨hm, ?_⟩
  have hmore := h.more ok h1 (by omega)
  have hn := s.le (j + 1 + 1) (by omega)
  have e2 : S E (j + 1 + 1) = S E (j + 1) + hi E (j + 1) := rfl
  have hb2 := h.bd ok (j + 1) hmore
  have hdn : hi E (j + 1) = -1 := by omega
  have hasc := h.asc j (j + 1) (by omega) hmore
  obtain ⟨i, i1, i2⟩ := h.mem (j + 1) hmore
  have i3 : lo E (j + 1) = hi l i + 1 := by rcases i2 with ⟨_, x⟩ | ⟨x, _⟩ <;> omega
  have later : ∀ k, k < E.length → lo E j < lo E k → lo E (j + 1) ≤ lo E k := by
    intro k hk hlt
    rcases Nat.lt_or_ge (j + 1) k with c | c
    · have := h.asc (j + 1) k c hk; omega
    · rcases Nat.lt_or_ge k j with d | d
      · have := h.asc k j d h1; omega
      · rcases Nat.eq_or_lt_of_le d with x | x
        · subst x; omega
        · obtain rfl : k = j + 1 := by omega
          exact Int.le_refl _
  have A : Agr l a b := by
    refine ⟨by rw [h4]; omega, fun n hn' => ?_, fun i' hi' hh => ?_, ?_⟩
    · obtain ⟨k, k1, k2, k3, k4⟩ := h.votes ok n
      have hk : k ≤ j := by
        rcases Nat.lt_or_ge j k with c | c
        · have := k3 j c; omega
        · exact c
      have := h3 k hk
      omega
    · obtain ⟨k, k1, k2, k3⟩ := h.at_ ((mem_ends l (hi l i' + 1, -1)).2 ⟨i', hi', .inr rfl⟩)
      have := later k k1 (by have := hh.2; simp only at k2; omega)
      simp only at k2
      omega
    · refine ⟨i, i1, ⟨?_, by omega⟩, by omega⟩
      obtain ⟨k, k1, k2, k3⟩ := h.at_ ((mem_ends l (lo l i, 1)).2 ⟨i, i1, .inl rfl⟩)
      simp only at k2
      have := (ok i i1).2.1
      rcases Int.lt_or_le a (lo l i) with c | c
      · have := later k k1 (by omega); omega
      · exact c
  exact A.same (agr hv)
/-- The ends in order, as the library's sort lays them. -/
def lt2 (x y : Int × Int) : Bool := decide (x.1 < y.1 ∨ (x.1 = y.1 ∧ x.2 < y.2))
def E (l : List (Int × Int)) : List (Int × Int) := (ends l).mergeSort fun x y => !lt2 y x
theorem ends_E (l : List (Int × Int)) : Ends l (E l) := by
  refine ⟨List.mergeSort_perm _ _, fun i j hij hj => ?_⟩
  have hs := List.pairwise_mergeSort (le := fun x y => !lt2 y x) (fun a b c h1 h2 => by
    simp only [lt2, Bool.not_eq_true', decide_eq_false_iff_not] at *; omega) (fun a b => by
    simp only [lt2, Bool.or_eq_true, Bool.not_eq_true', decide_eq_false_iff_not]; omega) (ends l)
  have := List.pairwise_iff_getElem.1 hs i j (by unfold E at hj; omega) hj hij
  have gi := get (E l) i (by omega)
  have gj := get (E l) j hj
  rw [List.getElem?_eq_getElem (by omega)] at gi
  rw [List.getElem?_eq_getElem hj] at gj
  injection gi with gi
  injection gj with gj
  unfold E at gi gj
  rw [gi, gj] at this
  have h2 : lt2 (lo (E l) j, hi (E l) j) (lo (E l) i, hi (E l) i) = false := by
    unfold E; simpa using this
  unfold lt2 at h2
  have h3 := of_decide_eq_false h2
  simp only at h3
  omega
end Go.Proofs.Ytlehpfcealohoaa.V
