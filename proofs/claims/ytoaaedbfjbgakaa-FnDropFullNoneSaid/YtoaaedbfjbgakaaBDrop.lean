/-
  What is left when full buckets are dropped (chapter 15): mathematics only.
-/
import Derived.Test.YtoaaedbfjbgakaaBWait
namespace Go.Proofs.Ytoaaedbfjbgakaa.B
set_option linter.unusedVariables false
theorem df_asc {l : List Bk} (h : Asc l) (f : Bk → Bool) : Asc (l.filter f) := List.Pairwise.filter f h
theorem df_bv {l : List Bk} (hv : bv l = true) {t : Int} (ht : 0 ≤ t ∧ t ≤ 3786479999) : bv (df l t) = true := by
  have h8 := (df_len l t).2
  rw [df_yes hv ht] at h8 ⊢
  exact bv_make h8 (fun p hp => bv_mem hv (List.mem_filter.1 hp).1) (df_asc (bv_asc hv) _)
theorem df_df {l : List Bk} (hv : bv l = true) {t : Int} (ht : 0 ≤ t ∧ t ≤ 3786479999) : df (df l t) t = df l t := by
  rw [df_yes (df_bv hv ht) ht, df_yes hv ht, List.filter_filter]
  congr 1
  funext p
  simp
theorem tk_mono {p : Bk} {t t' : Int} (h : t ≤ t') (e : ¬ tk p t < 5) : tk p t' = 5 := by
  unfold tk at *; omega
theorem df_ta {l : List Bk} (hv : bv l = true) {t t' : Int} (ht : 0 ≤ t ∧ t ≤ 3786479999) (h : t ≤ t' ∧ t' ≤ 3786479999) (c : Int) : ta (df l t) c t' = ta l c t' := by
  have hd := df_bv hv ht
  rw [ta_yes hd ⟨by omega, h.2⟩, ta_yes hv ⟨by omega, h.2⟩]
  have hin : ∀ q, q ∈ df l t ↔ q ∈ l ∧ tk q t < 5 := fun q => by rw [df_yes hv ht, List.mem_filter]; simp
  rcases hf : fnd l c with _ | p
  · have e : fnd (df l t) c = none := by
      rcases hg : fnd (df l t) c with _ | q
      · rfl
      · obtain ⟨hq, hc⟩ := fnd_mem hg
        exact absurd hc (fnd_none hf q ((hin q).1 hq).1)
    unfold bk; rw [hf, e]
  · obtain ⟨hp, hpc⟩ := fnd_mem hf
    by_cases h5 : tk p t < 5
    · have e : fnd (df l t) c = some p := by rw [← hpc]; exact fnd_of (bv_asc hd) ((hin p).2 ⟨hp, h5⟩)
      unfold bk; rw [hf, e]
    · have e : fnd (df l t) c = none := by
        rcases hg : fnd (df l t) c with _ | q
        · rfl
        · obtain ⟨hq, hc⟩ := fnd_mem hg
          have hq2 := (hin q).1 hq
          have := fnd_of (bv_asc hv) hq2.1
          rw [hc, hf] at this
          injection this with this
          subst this
          exact absurd hq2.2 h5
      unfold bk; rw [hf, e]
      show tk (c, 5, 0) t' = tk p t'
      rw [tk_new (by omega), tk_mono h.1 h5]
/-- How many of the first ones are kept; the next one's place. -/
theorem df_take {l : List Bk} (hv : bv l = true) {t : Int} (ht : 0 ≤ t ∧ t ≤ 3786479999) {k : Nat} (hk : k < l.length) (h5 : tk (Q.of l k, Q.de l k, Q.tm l k) t < 5) :
    ((l.take k).filter (fun p => decide (tk p t < 5))).length < (df l t).length ∧ Q.of (df l t) ((l.take k).filter (fun p => decide (tk p t < 5))).length = Q.of l k ∧ Q.de (df l t) ((l.take k).filter (fun p => decide (tk p t < 5))).length = Q.de l k ∧ Q.tm (df l t) ((l.take k).filter (fun p => decide (tk p t < 5))).length = Q.tm l k := by
  have e : df l t = (l.take k).filter (fun p => decide (tk p t < 5)) ++ (Q.of l k, Q.de l k, Q.tm l k) :: (l.drop (k + 1)).filter (fun p => decide (tk p t < 5)) := by
    rw [df_yes hv ht]
    conv => lhs; rw [← List.take_append_drop k l, List.drop_eq_getElem_cons hk, List.filter_append, List.filter_cons, getp l k hk]
    rw [if_pos (by simpa using h5)]
  rw [e]
  generalize (l.take k).filter (fun p => decide (tk p t < 5)) = X
  generalize (l.drop (k + 1)).filter (fun p => decide (tk p t < 5)) = Y
  refine ⟨by simp, ?_⟩
  unfold Q.of Q.de Q.tm
  rw [List.getD_eq_getElem?_getD, List.getElem?_append_right (Nat.le_refl _)]
  simp
theorem bk_at {l : List Bk} (hv : bv l = true) {k : Nat} (hk : k < l.length) {t : Int} (ht : 0 ≤ t ∧ t ≤ 3786479999) : ta l (Q.of l k) t = tk (Q.of l k, Q.de l k, Q.tm l k) t := by
  rw [ta_yes hv ht, fnd_at hv hk]
end Go.Proofs.Ytoaaedbfjbgakaa.B
