/-
  What a token costs and when it is back (chapter 15): mathematics only.
-/
import Derived.Test.YtoaaedbfjbgakaaSpecB
namespace Go.Proofs.Ytoaaedbfjbgakaa.B
set_option linter.unusedVariables false
theorem filter_in : ∀ (l : List Bk) (c : Int), (∃ q ∈ l, q.1 = c) → (l.filter (fun q => decide (q.1 < c))).length + (l.filter (fun q => decide (c < q.1))).length + 1 ≤ l.length
  | [], c, h => by obtain ⟨q, h, _⟩ := h; cases h
  | p :: l, c, h => by
    have h0 := filter_len l c
    simp only [List.filter_cons, List.length_cons]
    by_cases e : p.1 = c
    · rw [if_neg (by simp; omega), if_neg (by simp; omega)]; omega
    · have ih := filter_in l c (by
        obtain ⟨q, hq, hc⟩ := h
        rcases List.mem_cons.1 hq with rfl | hq
        · exact absurd hc e
        · exact ⟨q, hq, hc⟩)
      by_cases e1 : p.1 < c
      · rw [if_pos (by simpa using e1), if_neg (by simp; omega)]; simp only [List.length_cons]; omega
      · rw [if_neg (by simpa using e1), if_pos (by simp; omega)]; simp only [List.length_cons]; omega
theorem bk_in {l : List Bk} (hv : bv l = true) {c : Int} (h : bk l c ≠ (c, 5, 0)) : ∃ q ∈ l, q.1 = c := by
  rcases hf : fnd l c with _ | p
  · exact absurd (by unfold bk; rw [hf]; rfl) h
  · exact ⟨p, fnd_mem hf⟩
theorem aft_ok {l : List Bk} (hv : bv l = true) {c t : Int} (hc : 0 ≤ c ∧ c ≤ 99) (ht : 0 ≤ t ∧ t ≤ 3786479999) (hin : (∃ q ∈ l, q.1 = c) ∨ l.length ≤ 7) (h1 : 1 ≤ tk (bk l c) t) : bv (aft l c t) = true := by
  have h5 := tk_le (bk l c) t
  refine bv_make ?_ (fun p hp => ?_) (put_asc (bv_asc hv) _)
  · have h8 := (bv_of hv).1
    rcases hin with hin | hin
    · have := filter_in l c hin
      unfold aft put
      simp only [List.length_append, List.length_cons]
      omega
    · have := put_len l (c, tk (bk l c) t - 1, t)
      unfold aft; omega
  · rcases put_mem.1 hp with rfl | ⟨hp, _⟩
    · exact ⟨hc, ⟨by simp only; omega, by simp only; omega⟩, ht⟩
    · exact bv_mem hv hp
theorem bk_aft {l : List Bk} (hv : bv l = true) (c t : Int) : bk (aft l c t) c = (c, tk (bk l c) t - 1, t) := by
  unfold bk aft
  rw [put_fnd (bv_asc hv), if_pos rfl]; rfl
theorem tt_may {l : List Bk} {c t : Int} {d : List Bk} {u : Bool} (h : tt l c t = (d, u, true)) : may l c t := by
  by_cases k : may l c t
  · exact k
  · rw [tt_no k] at h; injection h with _ h; injection h with _ h; cases h
theorem may_t {l : List Bk} {c t : Int} (h : may l c t) : 0 ≤ t ∧ t ≤ 3786479999 := by
  have := (bk_ok h.1 c).2.2
  have := h.2.2
  omega
/-- What is answered, by the tokens: none, or some. -/
theorem tt_two {l : List Bk} {c t : Int} {d : List Bk} {u : Bool} (h : tt l c t = (d, u, true)) : (tk (bk l c) t = 0 ∧ d = l ∧ u = false) ∨ (1 ≤ tk (bk l c) t ∧ d = aft l c t ∧ u = true ∧ bv (aft l c t) = true) := by
  have hm := tt_may h
  have h0 := tk_pos (bk_ok hm.1 c).2.1.1 t
  by_cases k : tk (bk l c) t = 0
  · rw [tt_zero hm k] at h
    injection h with h1 h2; injection h2 with h2 h3
    exact .inl ⟨k, h1.symm, h2.symm⟩
  · rcases hv : bv (aft l c t) with _ | _
    · rw [tt_bad k hv] at h; injection h with _ h; injection h with _ h; cases h
    · rw [tt_yes hm k hv] at h
      injection h with h1 h2; injection h2 with h2 h3
      exact .inr ⟨by omega, h1.symm, h2.symm, rfl⟩
theorem tk_zero {p : Bk} {t : Int} (h : 0 ≤ p.2.1) (k : p.2.2 ≤ t) (e : tk p t = 0) : 1 ≤ tk p (t + 8) := by
  unfold tk at *; omega
/-- 8 seconds later a token is there. -/
theorem wait_ok {l : List Bk} {c t : Int} {d : List Bk} {u : Bool} (h : tt l c t = (d, u, true)) (h8 : t + 8 ≤ 3786479999) : ∃ d2, tt d c (t + 8) = (d2, true, true) := by
  have hm := tt_may h
  have ht := may_t hm
  have hb := bk_ok hm.1 c
  rcases tt_two h with ⟨k, rfl, rfl⟩ | ⟨k, rfl, rfl, hv⟩
  · have h1 := tk_zero hb.2.1.1 hm.2.2.1 k
    have hin := bk_in hm.1 (c := c) (fun q => by rw [q, tk_new ht.1] at k; omega)
    have hv := aft_ok hm.1 (t := t + 8) hm.2.1 ⟨by omega, h8⟩ (.inl hin) h1
    exact ⟨_, tt_yes ⟨hm.1, hm.2.1, by have := hm.2.2.1; omega, h8⟩ (by omega) hv⟩
  · have e := bk_aft hm.1 c t
    have hin : ∃ q ∈ aft l c t, q.1 = c := ⟨_, put_mem.2 (.inl rfl), rfl⟩
    have h1 : 1 ≤ tk (bk (aft l c t) c) (t + 8) := by
      rw [e]; unfold tk at k ⊢; simp only; omega
    have hv2 := aft_ok hv (t := t + 8) hm.2.1 ⟨by omega, h8⟩ (.inl hin) h1
    exact ⟨_, tt_yes ⟨hv, hm.2.1, by rw [e]; simp only; omega, h8⟩ (by omega) hv2⟩
/-- What is left. -/
theorem left_ok {l : List Bk} {c t : Int} {d : List Bk} {u : Bool} (h : tt l c t = (d, u, true)) : bv d = true ∧ u = decide (0 < ta l c t) ∧ ta d c t = (if u then ta l c t - 1 else 0) ∧ 0 ≤ ta l c t ∧ ta l c t ≤ 5 := by
  have hm := tt_may h
  have ht := may_t hm
  have h5 := tk_le (bk l c) t
  rcases tt_two h with ⟨k, rfl, rfl⟩ | ⟨k, rfl, rfl, hv⟩
  · rw [ta_yes hm.1 ht, k]; exact ⟨hm.1, by decide, rfl, by omega, by omega⟩
  · rw [ta_yes hm.1 ht, ta_yes hv ht, bk_aft hm.1 c t]
    refine ⟨hv, (decide_eq_true (by omega)).symm, ?_, by omega, h5⟩
    rw [if_pos rfl]; unfold tk at k h5 ⊢; simp only; omega
/-- The buckets of a client 7 that asks again and again. -/
def sq (t : Int) : Nat → List Bk
  | 0 => []
  | n + 1 => [(7, 4 - (n : Int), t)]
theorem fnd7 (y t : Int) : bk [(7, y, t)] 7 = (7, y, t) := rfl
theorem bv7 {y t : Int} (hy : 0 ≤ y ∧ y ≤ 5) (ht : 0 ≤ t ∧ t ≤ 3786479999) : bv [(7, y, t)] = true :=
  bv_make (by simp) (fun p hp => by simp at hp; subst hp; exact ⟨⟨by simp only; omega, by simp only; omega⟩, hy, ht⟩) (by unfold Asc; simp)
theorem many_ok {t : Int} (ht : 0 ≤ t ∧ t ≤ 3786479999) (i : Nat) (hi : i ≤ 4) : tt (sq t i) 7 t = (sq t (i + 1), true, true) := by
  rcases i with _ | i
  · have e : bk [] 7 = (7, 5, 0) := rfl
    have e5 : tk (bk [] 7) t = 5 := by rw [e]; exact tk_new ht.1 7
    have ha : aft [] 7 t = [(7, 4, t)] := by unfold aft; rw [e5]; rfl
    show tt [] 7 t = ([(7, 4 - 0, t)], true, true)
    rw [tt_yes ⟨by decide, by decide, by rw [e]; exact ht⟩ (by omega) (by rw [ha]; exact bv7 (by omega) ht), ha]; rfl
  · have e5 : tk (bk [(7, 4 - (i : Int), t)] 7) t = 4 - (i : Int) := by rw [fnd7]; unfold tk; simp only; omega
    have ha : aft [(7, 4 - (i : Int), t)] 7 t = [(7, 4 - ((i + 1 : Nat) : Int), t)] := by
      unfold aft; rw [e5]; unfold put; simp; omega
    show tt [(7, 4 - (i : Int), t)] 7 t = ([(7, 4 - ((i + 1 : Nat) : Int), t)], true, true)
    rw [tt_yes ⟨bv7 (by omega) ht, by decide, by rw [fnd7]; exact ⟨Int.le_refl _, ht.2⟩⟩ (by omega) (by rw [ha]; exact bv7 (by omega) ht), ha]
theorem many_end {t : Int} (ht : 0 ≤ t ∧ t ≤ 3786479999) : tt (sq t 5) 7 t = (sq t 5, false, true) := by
  show tt [(7, 0, t)] 7 t = ([(7, 0, t)], false, true)
  exact tt_zero ⟨bv7 (by omega) ht, by decide, by rw [fnd7]; exact ⟨Int.le_refl _, ht.2⟩⟩ (by rw [fnd7]; unfold tk; simp only; omega)
end Go.Proofs.Ytoaaedbfjbgakaa.B
