/-
  A clock's corrections: none; the first ones and the others.
-/
import Derived.Test.YtljdnncodgnpcaaRMath
import Derived.Test.YtljdnncodgnpcaaSq
namespace Go.Proofs.Ytljdnncodgnpcaa.K
set_option linter.unusedVariables false
theorem rok_nil {s : Int × Int × Int} (h : vc s.1 s.2.1 s.2.2 = true) : rok s [] = true ∧ re s [] = s := by
  have hk : rok s [] = true := rok_yes ⟨⟨h, fun h => absurd h (by simp)⟩, fun i hi => absurd hi (by simp)⟩
  exact ⟨hk, by rw [re_yes hk]; rfl⟩
theorem tk_at {l : List Q.Sm} {k i : Nat} (h : i < k) : Q.tm (qtk l k) i = Q.tm l i ∧ Q.of (qtk l k) i = Q.of l i := ⟨(qtk_at h).2.2, (qtk_at h).1⟩
theorem dr_at (l : List Q.Sm) (k i : Nat) : Q.tm (l.drop k) i = Q.tm l (k + i) ∧ Q.of (l.drop k) i = Q.of l (k + i) ∧ Q.de (l.drop k) i = Q.de l (k + i) := by
  unfold Q.tm Q.of Q.de
  rw [List.getD_eq_getElem?_getD, List.getD_eq_getElem?_getD, List.getElem?_drop]; exact ⟨rfl, rfl, rfl⟩
theorem rs_take {s : Int × Int × Int} {l : List Q.Sm} {k : Nat} : ∀ j, j ≤ k → rs s (qtk l k) j = rs s l j
  | 0, _ => rfl
  | j + 1, h => by
    have ih := rs_take j (by omega : j ≤ k) (s := s) (l := l)
    have ht := tk_at (l := l) (k := k) (i := j) (by omega)
    show (so _ _ _ _ _, sr _ _ _ _ _, st _ _ _ _ _) = (so _ _ _ _ _, sr _ _ _ _ _, st _ _ _ _ _)
    rw [ih, ht.1, ht.2]
theorem rs_drop {s : Int × Int × Int} {l : List Q.Sm} {k : Nat} : ∀ j, rs (rs s l k) (l.drop k) j = rs s l (k + j)
  | 0 => rfl
  | j + 1 => by
    have ih := rs_drop j (s := s) (l := l) (k := k)
    have hd := dr_at l k j
    show (so _ _ _ _ _, sr _ _ _ _ _, st _ _ _ _ _) = (so _ _ _ _ _, sr _ _ _ _ _, st _ _ _ _ _)
    rw [ih, hd.1, hd.2.1]
    first | done | rfl
theorem vq_drop {l : List Q.Sm} (h : Q.vq l = true) {k : Nat} (hk : k < l.length) : Q.vq (l.drop k) = true := by
  obtain ⟨⟨_, b⟩, ok⟩ := Q.vq_of h
  have e : (l.drop k).length = l.length - k := List.length_drop
  refine Q.vq_yes (by omega) (by omega) (fun i hi' => ?_)
  rw [e] at hi'
  have h0 := ok (k + i) (by omega)
  unfold Q.okAt at *
  have d := dr_at l k i
  rw [d.1, d.2.1, d.2.2]
  refine ⟨h0.1, fun hi => ?_⟩
  rw [(dr_at l k (i - 1)).1, show k + (i - 1) = k + i - 1 by omega]
  exact h0.2 (by omega)
theorem parts {s : Int × Int × Int} {l : List Q.Sm} (h : rok s l = true) {k : Nat} (hk : k ≤ l.length) :
    rok s (qtk l k) = true ∧ re s (qtk l k) = rs s l k ∧ rok (rs s l k) (l.drop k) = true ∧ re (rs s l k) (l.drop k) = rs s l l.length := by
  obtain ⟨⟨hv, hq⟩, hr⟩ := rok_of h
  have e := qtk_len hk
  have h1 : rok s (qtk l k) = true := by
    refine rok_yes ⟨⟨hv, fun h0 => vq_take (hq (by omega)) (by omega) hk⟩, fun i hi => ?_⟩
    rw [e] at hi
    have := hr i (by omega)
    unfold sk at this ⊢
    rw [rs_take i (by omega), (tk_at hi).1, (tk_at hi).2]
    exact this
  have ed : (l.drop k).length = l.length - k := List.length_drop
  have hvk := rs_vc hv k (fun i hi => hr i (by omega))
  have h2 : rok (rs s l k) (l.drop k) = true := by
    refine rok_yes ⟨⟨hvk, fun h0 => vq_drop (hq (by omega)) (by omega)⟩, fun i hi => ?_⟩
    rw [ed] at hi
    have := hr (k + i) (by omega)
    unfold sk at this ⊢
    rw [rs_drop i, (dr_at l k i).1, (dr_at l k i).2.1]
    exact this
  refine ⟨h1, ?_, h2, ?_⟩
  · rw [re_yes h1, e, rs_take k (Nat.le_refl _)]
  · rw [re_yes h2, ed, rs_drop, show k + (l.length - k) = l.length by omega]
end Go.Proofs.Ytljdnncodgnpcaa.K
