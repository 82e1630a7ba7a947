/-
  The plain arithmetic of buckets (chapter 15): valid buckets, tokens, a bucket's place. No program is read here.
-/
import Derived.Test.YtoaaedbfjbgakaaQMath
namespace Go.Proofs.Ytoaaedbfjbgakaa.B
set_option linter.unusedVariables false
/-- A bucket: client, tokens, since when. -/
abbrev Bk := Int × Int × Int
def ok1 (c k t : Int) : Prop := (0 ≤ c ∧ c ≤ 99) ∧ (0 ≤ k ∧ k ≤ 5) ∧ (0 ≤ t ∧ t ≤ 3786479999)
instance (a b c : Int) : Decidable (ok1 a b c) := by unfold ok1; infer_instance
def okAt (l : List Bk) (i : Nat) : Prop := ok1 (Q.of l i) (Q.de l i) (Q.tm l i) ∧ (0 < i → Q.of l (i - 1) < Q.of l i)
instance (l : List Bk) (i : Nat) : Decidable (okAt l i) := by unfold okAt; infer_instance
def okTo (l : List Bk) (k : Nat) : Prop := ∀ i, i < k → okAt l i
instance (l : List Bk) (k : Nat) : Decidable (okTo l k) := by unfold okTo; infer_instance
theorem okTo_succ {l : List Bk} {k : Nat} (h : okTo l k) (h' : okAt l k) : okTo l (k + 1) := fun i hi => by
  rcases Nat.lt_or_ge i k with a | a
  · exact h i a
  · obtain rfl : i = k := by omega
    exact h'
def bv (l : List Bk) : Bool := decide (l.length ≤ 8 ∧ okTo l l.length)
theorem bv_of {l : List Bk} (h : bv l = true) : l.length ≤ 8 ∧ okTo l l.length := of_decide_eq_true h
theorem bv_yes {l : List Bk} (h : l.length ≤ 8) (k : okTo l l.length) : bv l = true := decide_eq_true ⟨h, k⟩
theorem bv_long {l : List Bk} (h : 8 < l.length) : bv l = false := decide_eq_false (fun k => by omega)
theorem bv_bad {l : List Bk} (i : Nat) (hi : i < l.length) (h : ¬ okAt l i) : bv l = false := decide_eq_false (fun k => h (k.2 i hi))
theorem rng {l : List Bk} (h : bv l = true) {i : Nat} (hi : i < l.length) : ok1 (Q.of l i) (Q.de l i) (Q.tm l i) := ((bv_of h).2 i hi).1
/-- The clients ascend. -/
def Asc (l : List Bk) : Prop := l.Pairwise (fun p q => p.1 < q.1)
theorem okTo_lt {l : List Bk} {n : Nat} (h : okTo l n) : ∀ j i : Nat, i < j → j < n → Q.of l i < Q.of l j
  | 0, i, hi, _ => absurd hi (by omega)
  | j + 1, i, hi, hj => by
    have h1 := (h (j + 1) hj).2 (by omega)
    simp only [Nat.add_sub_cancel] at h1
    rcases Nat.lt_or_ge i j with a | a
    · have := okTo_lt h j i a (by omega); omega
    · obtain rfl : i = j := by omega
      exact h1
theorem getp (l : List Bk) (i : Nat) (h : i < l.length) : l[i] = (Q.of l i, Q.de l i, Q.tm l i) := by
  have := Q.get l i h
  rw [List.getElem?_eq_getElem h] at this
  injection this
theorem bv_asc {l : List Bk} (h : bv l = true) : Asc l := by
  unfold Asc
  rw [List.pairwise_iff_getElem]
  intro i j hi hj hij
  rw [getp l i hi, getp l j hj]
  exact okTo_lt (bv_of h).2 j i hij hj
/-- Valid, said of the members. -/
theorem bv_mem {l : List Bk} (h : bv l = true) {p : Bk} (hp : p ∈ l) : ok1 p.1 p.2.1 p.2.2 := by
  obtain ⟨i, hi, e⟩ := List.getElem_of_mem hp
  rw [getp l i hi] at e
  have := rng h hi
  rw [← e]; exact this
theorem bv_make {l : List Bk} (h8 : l.length ≤ 8) (hm : ∀ p ∈ l, ok1 p.1 p.2.1 p.2.2) (ha : Asc l) : bv l = true := by
  refine bv_yes h8 (fun i hi => ⟨?_, fun h0 => ?_⟩)
  · have := hm _ (List.getElem_mem hi)
    rw [getp l i hi] at this
    exact this
  · unfold Asc at ha
    rw [List.pairwise_iff_getElem] at ha
    have := ha (i - 1) i (by omega) hi (by omega)
    rw [getp l (i - 1) (by omega), getp l i hi] at this
    exact this
/-- The tokens of a bucket at a time. -/
def tk (p : Bk) (t : Int) : Int := min 5 (p.2.1 + max 0 (t - p.2.2) / 8)
theorem tk_le (p : Bk) (t : Int) : tk p t ≤ 5 := by unfold tk; omega
theorem tk_pos {p : Bk} (h : 0 ≤ p.2.1) (t : Int) : 0 ≤ tk p t := by unfold tk; omega
theorem tk_new {t : Int} (h : 0 ≤ t) (c : Int) : tk (c, 5, 0) t = 5 := by unfold tk; simp only; omega
def fnd (l : List Bk) (c : Int) : Option Bk := l.find? (fun p => p.1 == c)
/-- The bucket of a client, or a full one. -/
def bk (l : List Bk) (c : Int) : Bk := (fnd l c).getD (c, 5, 0)
theorem fnd_mem {l : List Bk} {c : Int} {p : Bk} (h : fnd l c = some p) : p ∈ l ∧ p.1 = c := by
  unfold fnd at h
  exact ⟨List.mem_of_find?_eq_some h, by simpa using List.find?_some h⟩
theorem fnd_none {l : List Bk} {c : Int} (h : fnd l c = none) : ∀ p ∈ l, p.1 ≠ c := by
  unfold fnd at h
  intro p hp
  have := List.find?_eq_none.1 h p hp
  simpa using this
theorem fnd_of {l : List Bk} (ha : Asc l) {p : Bk} (hp : p ∈ l) : fnd l p.1 = some p := by
  rcases h : fnd l p.1 with _ | q
  · exact absurd rfl (fnd_none h p hp)
  · obtain ⟨hq, e⟩ := fnd_mem h
    congr 1
    obtain ⟨i, hi, ei⟩ := List.getElem_of_mem hp
    obtain ⟨j, hj, ej⟩ := List.getElem_of_mem hq
    unfold Asc at ha
    rw [List.pairwise_iff_getElem] at ha
    rcases Nat.lt_trichotomy i j with a | a | a
    · have := ha i j hi hj a; rw [ei, ej] at this; omega
    · subst a; rw [← ei, ← ej]
    · have := ha j i hj hi a; rw [ei, ej] at this; omega
theorem bk_ok {l : List Bk} (h : bv l = true) (c : Int) : (bk l c).1 = c ∧ (0 ≤ (bk l c).2.1 ∧ (bk l c).2.1 ≤ 5) ∧ (0 ≤ (bk l c).2.2 ∧ (bk l c).2.2 ≤ 3786479999) := by
  unfold bk
  rcases hf : fnd l c with _ | p
  · simp
  · obtain ⟨hp, e⟩ := fnd_mem hf
    have := bv_mem h hp
    exact ⟨e, this.2.1, this.2.2⟩
/-- A bucket at its place. -/
def put (l : List Bk) (p : Bk) : List Bk := l.filter (fun q => decide (q.1 < p.1)) ++ p :: l.filter (fun q => decide (p.1 < q.1))
theorem put_mem {l : List Bk} {p q : Bk} : q ∈ put l p ↔ q = p ∨ (q ∈ l ∧ q.1 ≠ p.1) := by
  unfold put
  simp only [List.mem_append, List.mem_cons, List.mem_filter, decide_eq_true_eq]
  constructor
  · rintro (⟨a, b⟩ | a | ⟨a, b⟩)
    · exact .inr ⟨a, by omega⟩
    · exact .inl a
    · exact .inr ⟨a, by omega⟩
  · rintro (a | ⟨a, b⟩)
    · exact .inr (.inl a)
    · rcases Int.lt_or_gt_of_ne b with c | c
      · exact .inl ⟨a, c⟩
      · exact .inr (.inr ⟨a, c⟩)
theorem put_asc {l : List Bk} (h : Asc l) (p : Bk) : Asc (put l p) := by
  unfold Asc put at *
  rw [List.pairwise_append]
  refine ⟨h.filter _, List.pairwise_cons.2 ⟨fun q hq => ?_, h.filter _⟩, fun a ha b hb => ?_⟩
  · simp only [List.mem_filter, decide_eq_true_eq] at hq; exact hq.2
  · simp only [List.mem_filter, decide_eq_true_eq] at ha
    rcases List.mem_cons.1 hb with rfl | hb
    · exact ha.2
    · simp only [List.mem_filter, decide_eq_true_eq] at hb; have := ha.2; have := hb.2; omega
theorem filter_len (l : List Bk) (c : Int) : (l.filter (fun q => decide (q.1 < c))).length + (l.filter (fun q => decide (c < q.1))).length ≤ l.length := by
  induction l with
  | nil => simp
  | cons q l ih =>
    simp only [List.filter_cons, List.length_cons]
    by_cases a : q.1 < c
    · have b : ¬ c < q.1 := by omega
      simp [a, b]; omega
    · by_cases b : c < q.1
      · simp [a, b]; omega
      · simp [a, b]; omega
theorem put_len (l : List Bk) (p : Bk) : (put l p).length ≤ l.length + 1 := by
  have := filter_len l p.1
  unfold put
  simp only [List.length_append, List.length_cons]
  omega
theorem put_fnd {l : List Bk} (h : Asc l) (p : Bk) (c : Int) : fnd (put l p) c = if c = p.1 then some p else fnd l c := by
  have ha := put_asc h p
  by_cases e : c = p.1
  · rw [if_pos e, e]; exact fnd_of ha (put_mem.2 (.inl rfl))
  · rw [if_neg e]
    rcases hf : fnd l c with _ | q
    · rcases hg : fnd (put l p) c with _ | r
      · rfl
      · obtain ⟨hr, er⟩ := fnd_mem hg
        rcases put_mem.1 hr with rfl | ⟨hr', _⟩
        · exact absurd er.symm e
        · exact absurd er (fnd_none hf r hr')
    · obtain ⟨hq, eq⟩ := fnd_mem hf
      have := fnd_of ha (put_mem.2 (.inr ⟨hq, by rw [eq]; exact e⟩))
      rw [eq] at this; exact this
theorem put_last {l : List Bk} {p : Bk} (h : ∀ q ∈ l, q.1 < p.1) : put l p = l ++ [p] := by
  unfold put
  rw [List.filter_eq_self.2 (fun q hq => by simpa using h q hq), List.filter_eq_nil_iff.2 (fun q hq => by have := h q hq; simp; omega)]
/-- The tokens of a client. -/
def ta (l : List Bk) (c t : Int) : Int := if bv l = true ∧ (0 ≤ t ∧ t ≤ 3786479999) then tk (bk l c) t else -1
theorem ta_yes {l : List Bk} {c t : Int} (h : bv l = true) (k : 0 ≤ t ∧ t ≤ 3786479999) : ta l c t = tk (bk l c) t := if_pos ⟨h, k⟩
theorem ta_no1 {l : List Bk} {c t : Int} (h : bv l = false) : ta l c t = -1 := if_neg (fun q => by rw [h] at q; cases q.1)
theorem ta_no2 {l : List Bk} {c t : Int} (h : ¬ (0 ≤ t ∧ t ≤ 3786479999)) : ta l c t = -1 := if_neg (fun q => h q.2)
/-- May a client ask at a time? -/
def may (l : List Bk) (c t : Int) : Prop := bv l = true ∧ (0 ≤ c ∧ c ≤ 99) ∧ ((bk l c).2.2 ≤ t ∧ t ≤ 3786479999)
instance (l : List Bk) (c t : Int) : Decidable (may l c t) := by unfold may; infer_instance
def aft (l : List Bk) (c t : Int) : List Bk := put l (c, tk (bk l c) t - 1, t)
/-- The buckets, whether it is answered, whether it may be. -/
def tt (l : List Bk) (c t : Int) : List Bk × Bool × Bool :=
  if may l c t then (if tk (bk l c) t = 0 then (l, false, true) else if bv (aft l c t) = true then (aft l c t, true, true) else ([], false, false)) else ([], false, false)
theorem tt_no {l : List Bk} {c t : Int} (h : ¬ may l c t) : tt l c t = ([], false, false) := if_neg h
theorem tt_zero {l : List Bk} {c t : Int} (h : may l c t) (k : tk (bk l c) t = 0) : tt l c t = (l, false, true) := by unfold tt; rw [if_pos h, if_pos k]
theorem tt_yes {l : List Bk} {c t : Int} (h : may l c t) (k : tk (bk l c) t ≠ 0) (v : bv (aft l c t) = true) : tt l c t = (aft l c t, true, true) := by unfold tt; rw [if_pos h, if_neg k, if_pos v]
theorem tt_bad {l : List Bk} {c t : Int} (k : tk (bk l c) t ≠ 0) (v : bv (aft l c t) = false) : tt l c t = ([], false, false) := by
  by_cases h : may l c t
  · unfold tt; rw [if_pos h, if_neg k, if_neg (by rw [v]; decide)]
  · exact tt_no h
theorem aft_bad {l : List Bk} {c t : Int} (hc : ¬ (0 ≤ c ∧ c ≤ 99)) : bv (aft l c t) = false := by
  rcases h : bv (aft l c t) with _ | _
  · rfl
  · have := bv_mem h (put_mem.2 (.inl rfl))
    exact absurd this.1 hc
/-- The buckets without those that are full. -/
def df (l : List Bk) (t : Int) : List Bk := if bv l = true ∧ (0 ≤ t ∧ t ≤ 3786479999) then l.filter (fun p => decide (tk p t < 5)) else []
theorem df_yes {l : List Bk} {t : Int} (h : bv l = true) (k : 0 ≤ t ∧ t ≤ 3786479999) : df l t = l.filter (fun p => decide (tk p t < 5)) := if_pos ⟨h, k⟩
theorem df_no1 {l : List Bk} {t : Int} (h : bv l = false) : df l t = [] := if_neg (fun q => by rw [h] at q; cases q.1)
theorem df_no2 {l : List Bk} {t : Int} (h : ¬ (0 ≤ t ∧ t ≤ 3786479999)) : df l t = [] := if_neg (fun q => h q.2)
theorem df_len (l : List Bk) (t : Int) : (df l t).length ≤ l.length ∧ (df l t).length ≤ 8 := by
  by_cases h : bv l = true ∧ (0 ≤ t ∧ t ≤ 3786479999)
  · rw [df_yes h.1 h.2]
    have := List.length_filter_le (fun p => decide (tk p t < 5)) l
    have := (bv_of h.1).1
    omega
  · have : df l t = [] := if_neg h
    rw [this]; simp
theorem tt_len (l : List Bk) (c t : Int) : (tt l c t).1.length ≤ l.length + 1 ∧ (tt l c t).1.length ≤ 8 := by
  by_cases h : may l c t
  · by_cases k : tk (bk l c) t = 0
    · rw [tt_zero h k]; have := (bv_of h.1).1; simp only; omega
    · rcases v : bv (aft l c t) with _ | _
      · rw [tt_bad k v]; simp
      · rw [tt_yes h k v]; have := (bv_of v).1; have := put_len l (c, tk (bk l c) t - 1, t); unfold aft at *; simp only; omega
  · rw [tt_no h]; simp
end Go.Proofs.Ytoaaedbfjbgakaa.B
