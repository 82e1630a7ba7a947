/-
  A copy of labels whose counts are changed one by one.
-/
import Derived.Test.YtgbbbmljanlogaaOwnL
import Derived.Test.YtgbbbmljanlogaaGMath
namespace Go.Proofs.Ytgbbbmljanlogaa
open Go.RowKit
set_option linter.unusedVariables false
set_option maxRecDepth 100000
/-- The first k counts are changed. -/
def upl (c : Int) (l : List (Int × Int)) (k : Nat) : List (Int × Int) := G.up c (l.take k) ++ l.drop k
theorem upl_zero (c : Int) (l : List (Int × Int)) : upl c l 0 = l := by simp [upl, G.up]
theorem upl_all (c : Int) (l : List (Int × Int)) : upl c l l.length = G.up c l := by simp [upl]
theorem upl_len (c : Int) (l : List (Int × Int)) (k : Nat) (h : k ≤ l.length) : (upl c l k).length = l.length := by simp [upl, G.up]; omega
theorem upl_at (c : Int) (l : List (Int × Int)) (k : Nat) (h : k < l.length) : V.lo (upl c l k) k = V.lo l k ∧ V.hi (upl c l k) k = V.hi l k := by
  have e : (upl c l k).getD k (0, 0) = l.getD k (0, 0) := by
    have hl : (G.up c (l.take k)).length = k := by rw [G.up_len, List.length_take]; omega
    unfold upl
    rw [List.getD_eq_getElem?_getD, List.getD_eq_getElem?_getD, List.getElem?_append_right (by omega), hl, Nat.sub_self, List.getElem?_drop, Nat.add_zero]
  unfold V.lo V.hi
  rw [e]; exact ⟨rfl, rfl⟩
theorem upl_set (c : Int) (l : List (Int × Int)) (k : Nat) (h : k < l.length) : (upl c l k).set k (V.lo l k + c, V.hi (upl c l k) k) = upl c l (k + 1) := by
  rw [(upl_at c l k h).2]
  have hl : (G.up c (l.take k)).length = k := by rw [G.up_len, List.length_take]; omega
  have hg : V.lo l k = l[k].1 ∧ V.hi l k = l[k].2 := by unfold V.lo V.hi; rw [List.getD_eq_getElem?_getD, List.getElem?_eq_getElem h]; exact ⟨rfl, rfl⟩
  unfold upl
  rw [List.set_append, if_neg (by omega), hl, Nat.sub_self, List.take_succ_eq_append_getElem h, List.drop_eq_getElem_cons h, List.set_cons_zero, hg.1, hg.2]
  unfold G.up
  rw [List.map_append, List.append_assoc]
  rfl
theorem v2_set0 (X : List (Int × Int)) (j : Nat) (x : Int) (h : j < X.length) : (v2 X).set (j * 2) (.int .i64 x) = v2 (X.set j (x, V.hi X j)) := by
  rw [← v2_set]
  have hg := v2_get X j h
  refine List.ext_getElem? fun i => ?_
  have hL := v2_len X
  rw [List.getElem?_set, List.getElem?_set]
  by_cases e1 : j * 2 + 1 = i
  · subst e1
    rw [if_neg (by omega), if_pos rfl, if_pos (by rw [List.length_set]; omega)]
    exact hg.2
  · rw [if_neg e1, List.getElem?_set]
theorem Prs.set0 {T : TypeId} {D : Nat} {w : World} {g c j : Nat} {X : List (Int × Int)} {x : Int} (h : Prs T D w (some ⟨g, 0, none⟩) c X) (hj : j < X.length) : Prs T D (w.setCell ⟨g, j * 2, none⟩ (.int .i64 x)) (some ⟨g, 0, none⟩) c (X.set j (x, V.hi X j)) := by
  have hs := (World.ownsRow.stored h (j * 2) (.int .i64 x)).1
  rw [v2_set0 X j x hj] at hs
  unfold Prs
  rw [List.length_set]
  exact hs
end Go.Proofs.Ytgbbbmljanlogaa
