/-
  A copy of samples whose offsets are changed one by one.
-/
import Derived.Test.YtcbahomohlaakaaSpikes
namespace Go.Proofs.Ytcbahomohlaakaa
open Go.RowKit
set_option linter.unusedVariables false
set_option maxRecDepth 100000
/-- The first k offsets are changed. -/
def upq (f : Int → Int) (l : List Q.Sm) (k : Nat) : List Q.Sm := (l.take k).map (fun p => (f p.1, p.2)) ++ l.drop k
def mpq (f : Int → Int) (l : List Q.Sm) : List Q.Sm := l.map (fun p => (f p.1, p.2))
theorem upq_zero (f : Int → Int) (l : List Q.Sm) : upq f l 0 = l := by simp [upq]
theorem upq_all (f : Int → Int) (l : List Q.Sm) : upq f l l.length = mpq f l := by simp [upq, mpq]
theorem upq_len (f : Int → Int) (l : List Q.Sm) (k : Nat) (h : k ≤ l.length) : (upq f l k).length = l.length := by simp [upq]; omega
theorem mpq_len (f : Int → Int) (l : List Q.Sm) : (mpq f l).length = l.length := by simp [mpq]
theorem mpq_at (f : Int → Int) (l : List Q.Sm) (i : Nat) (h : i < l.length) : Q.of (mpq f l) i = f (Q.of l i) ∧ Q.de (mpq f l) i = Q.de l i ∧ Q.tm (mpq f l) i = Q.tm l i := by
  unfold Q.of Q.de Q.tm mpq
  rw [List.getD_eq_getElem?_getD, List.getD_eq_getElem?_getD, List.getElem?_map, List.getElem?_eq_getElem h]; exact ⟨rfl, rfl, rfl⟩
theorem upq_at (f : Int → Int) (l : List Q.Sm) (k : Nat) (h : k < l.length) : Q.of (upq f l k) k = Q.of l k ∧ Q.de (upq f l k) k = Q.de l k ∧ Q.tm (upq f l k) k = Q.tm l k := by
  have e : (upq f l k).getD k (0, 0, 0) = l.getD k (0, 0, 0) := by
    have hl : ((l.take k).map (fun p => (f p.1, p.2))).length = k := by rw [List.length_map, List.length_take]; omega
    unfold upq
    rw [List.getD_eq_getElem?_getD, List.getD_eq_getElem?_getD, List.getElem?_append_right (by omega), hl, Nat.sub_self, List.getElem?_drop, Nat.add_zero]
  unfold Q.of Q.de Q.tm
  rw [e]; exact ⟨rfl, rfl, rfl⟩
theorem upq_set (f : Int → Int) (l : List Q.Sm) (k : Nat) (h : k < l.length) : (upq f l k).set k (f (Q.of l k), Q.de (upq f l k) k, Q.tm (upq f l k) k) = upq f l (k + 1) := by
  rw [(upq_at f l k h).2.1, (upq_at f l k h).2.2]
  have hl : ((l.take k).map (fun p => (f p.1, p.2))).length = k := by rw [List.length_map, List.length_take]; omega
  have hg : (Q.of l k, Q.de l k, Q.tm l k) = l[k] := by rw [q_fst, List.getD_eq_getElem?_getD, List.getElem?_eq_getElem h]; rfl
  unfold upq
  rw [List.set_append, if_neg (by omega), hl, Nat.sub_self, List.take_succ_eq_append_getElem h, List.map_append, List.drop_eq_getElem_cons h, List.set_cons_zero, List.append_assoc, ← hg]
  rfl
theorem v3_set1 (X : List Q.Sm) (j : Nat) (x : Int) (h : j < X.length) : (v3 X).set (j * 3) (.int .i64 x) = v3 (X.set j (x, Q.de X j, Q.tm X j)) := by
  rw [← v3_set]
  have hg := v3_get X j h
  refine List.ext_getElem? fun i => ?_
  have hL := v3_len X
  rw [List.getElem?_set, List.getElem?_set, List.getElem?_set]
  by_cases e2 : j * 3 + 2 = i
  · subst e2
    rw [if_neg (by omega), if_pos rfl, if_pos (by rw [List.length_set, List.length_set]; omega)]
    exact hg.2.2
  · rw [if_neg e2, List.getElem?_set]
    by_cases e1 : j * 3 + 1 = i
    · subst e1
      rw [if_neg (by omega), if_pos rfl, if_pos (by rw [List.length_set]; omega)]
      exact hg.2.1
    · rw [if_neg e1]
theorem OwQ.set1 {D : Nat} {w : World} {g c j : Nat} {X : List Q.Sm} {x : Int} (h : OwQ D w (some ⟨g, 0, none⟩) c X) (hj : j < X.length) : OwQ D (w.setCell ⟨g, j * 3, none⟩ (.int .i64 x)) (some ⟨g, 0, none⟩) c (X.set j (x, Q.de X j, Q.tm X j)) := by
  have hs := (World.ownsRow.stored h (j * 3) (.int .i64 x)).1
  rw [v3_set1 X j x hj] at hs
  unfold OwQ
  rw [List.length_set]
  exact hs
theorem best_mpq (f : Int → Int) (l : List Q.Sm) : ∀ k, k < l.length → Q.bestTo (mpq f l) k = Q.bestTo l k
  | 0, _ => rfl
  | k + 1, h => by
    have ih := best_mpq f l k (by omega)
    have hb := (Q.bestTo_is l k).le
    unfold Q.bestTo
    rw [ih, (mpq_at f l (k + 1) h).2.1, (mpq_at f l (Q.bestTo l k) (by omega)).2.1]
theorem vq_mpq {f : Int → Int} {l : List Q.Sm} (hv : Q.vq l = true) (h : ∀ i, i < l.length → -1000000 ≤ f (Q.of l i) ∧ f (Q.of l i) ≤ 1000000) : Q.vq (mpq f l) = true := by
  have h1 := Q.vq_of hv
  refine Q.vq_yes (by rw [mpq_len]; exact h1.1.1) (by rw [mpq_len]; exact h1.1.2) (fun i hi => ?_)
  rw [mpq_len] at hi
  have ha := mpq_at f l i hi
  have ho := h1.2 i hi
  unfold Q.okAt Q.ok1 at *
  rw [ha.1, ha.2.1, ha.2.2]
  refine ⟨⟨h i hi, ho.1.2⟩, fun h0 => ?_⟩
  rw [(mpq_at f l (i - 1) (by omega)).2.2]
  exact ho.2 h0
theorem best_mpq' {f : Int → Int} {l : List Q.Sm} (hv : Q.vq l = true) : Q.best (mpq f l) = Q.best l ∧ Q.best l < l.length := by
  have h1 := (Q.vq_of hv).1
  have hb := Q.best_lt (l := l) (by omega)
  refine ⟨?_, hb⟩
  unfold Q.best
  rw [mpq_len]
  exact best_mpq f l _ (by omega)
theorem sum_mpq {f : Int → Int} {l : List Q.Sm} {b b' : Int} (h : ∀ i, i < l.length → Q.abs (f (Q.of l i) - b') = Q.abs (Q.of l i - b)) : ∀ k, k ≤ l.length → Q.sumTo (mpq f l) b' k = Q.sumTo l b k
  | 0, _ => rfl
  | k + 1, hk => by
    unfold Q.sumTo
    rw [sum_mpq h k (by omega), (mpq_at f l k (by omega)).1, h k (by omega)]
theorem sum_zero {f : Int → Int} {l : List Q.Sm} {b' : Int} (h : ∀ i, i < l.length → f (Q.of l i) = b') : ∀ k, k ≤ l.length → Q.sumTo (mpq f l) b' k = 0
  | 0, _ => rfl
  | k + 1, hk => by
    unfold Q.sumTo
    rw [sum_zero h k (by omega), (mpq_at f l k (by omega)).1, h k (by omega), show b' - b' = 0 by omega]; rfl
theorem offs_mpq (f : Int → Int) (l : List Q.Sm) : offs (mpq f l) = (offs l).map f := by unfold offs mpq; rw [List.map_map, List.map_map]; rfl
theorem srt_mono {f : Int → Int} (hf : ∀ a b, a ≤ b → f a ≤ f b) (X : List Int) : srt (X.map f) = (srt X).map f := by
  refine (srt_of ?_ ?_).symm
  · exact (srt_perm X).map f
  · exact (srt_asc X).map f hf
theorem med_mpq {f : Int → Int} {l : List Q.Sm} (hf : ∀ a b, a ≤ b → f a ≤ f b) (hv : Q.vq l = true) (hv' : Q.vq (mpq f l) = true) : med (mpq f l) = f (med l) := by
  have h1 := (Q.vq_of hv).1
  rw [med_yes hv, med_yes hv', offs_mpq, srt_mono hf, mpq_len]
  have hl : (srt (offs l)).length = l.length := by rw [srt_len, offs_len]
  have hi : (l.length - 1) / 2 < (srt (offs l)).length := by omega
  unfold L.g
  rw [List.getD_eq_getElem?_getD, List.getD_eq_getElem?_getD, List.getElem?_map, List.getElem?_eq_getElem hi]; rfl
end Go.Proofs.Ytcbahomohlaakaa
