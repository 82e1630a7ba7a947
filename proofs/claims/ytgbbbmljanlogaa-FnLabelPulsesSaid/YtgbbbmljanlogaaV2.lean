/-
  Lists of pairs of numbers as cells: two cells each; a list of structs of the call's own.
-/
import Derived.Test.YtgbbbmljanlogaaLst
import Derived.Test.YtgbbbmljanlogaaVMath
import Derived.Deep.AppendLies
import Derived.WalkSpells
namespace Go.Proofs.Ytgbbbmljanlogaa
open Go.RowKit
set_option linter.unusedVariables false
def v2 (l : List (Int × Int)) : List Value := l.flatMap (fun p => [.int .i64 p.1, .int .i64 p.2])
theorem v2_len (l : List (Int × Int)) : (v2 l).length = l.length * 2 := by
  induction l with
  | nil => rfl
  | cons p l ih => simp [v2] at ih ⊢; omega
theorem v2_snoc (l : List (Int × Int)) (x y : Int) : v2 l ++ [.int .i64 x, .int .i64 y] = v2 (l ++ [(x, y)]) := by simp [v2]
theorem v2_get : ∀ (l : List (Int × Int)) (i : Nat), i < l.length → (v2 l)[i * 2]? = some (.int .i64 (V.lo l i)) ∧ (v2 l)[i * 2 + 1]? = some (.int .i64 (V.hi l i))
  | [], i, h => absurd h (by simp)
  | p :: l, 0, h => ⟨rfl, rfl⟩
  | p :: l, i + 1, h => by
    have := v2_get l i (by simpa using h)
    have e : v2 (p :: l) = .int .i64 p.1 :: .int .i64 p.2 :: v2 l := rfl
    rw [e, show (i + 1) * 2 = i * 2 + 1 + 1 from by omega, List.getElem?_cons_succ, List.getElem?_cons_succ, List.getElem?_cons_succ, List.getElem?_cons_succ]
    exact this
def Small2 (l : List (Int × Int)) : Prop := ∀ i, i < l.length → (-2000000 ≤ V.lo l i ∧ V.lo l i ≤ 2000000) ∧ (-2000000 ≤ V.hi l i ∧ V.hi l i ≤ 2000000)
theorem Small2.nil : Small2 [] := fun i hi => absurd hi (by simp)
theorem lo_snoc_lt (l : List (Int × Int)) (x y : Int) (i : Nat) (h : i < l.length) : V.lo (l ++ [(x, y)]) i = V.lo l i ∧ V.hi (l ++ [(x, y)]) i = V.hi l i := by
  unfold V.lo V.hi
  rw [List.getD_eq_getElem?_getD, List.getD_eq_getElem?_getD, List.getElem?_append_left h]; exact ⟨rfl, rfl⟩
theorem lo_snoc_eq (l : List (Int × Int)) (x y : Int) : V.lo (l ++ [(x, y)]) l.length = x ∧ V.hi (l ++ [(x, y)]) l.length = y := by
  unfold V.lo V.hi
  rw [List.getD_eq_getElem?_getD, List.getElem?_append_right (Nat.le_refl _)]; simp
theorem Small2.snoc {l : List (Int × Int)} {x y : Int} (h : Small2 l) (hx : -2000000 ≤ x ∧ x ≤ 2000000) (hy : -2000000 ≤ y ∧ y ≤ 2000000) : Small2 (l ++ [(x, y)]) := fun i hi => by
  simp at hi
  rcases Nat.lt_or_ge i l.length with a | a
  · rw [(lo_snoc_lt l x y i a).1, (lo_snoc_lt l x y i a).2]; exact h i a
  · obtain rfl : i = l.length := by omega
    rw [(lo_snoc_eq l x y).1, (lo_snoc_eq l x y).2]; exact ⟨hx, hy⟩
theorem v2_set : ∀ (l : List (Int × Int)) (j : Nat) (x y : Int), ((v2 l).set (j * 2) (.int .i64 x)).set (j * 2 + 1) (.int .i64 y) = v2 (l.set j (x, y))
  | [], j, x, y => by simp [v2]
  | p :: l, 0, x, y => rfl
  | p :: l, j + 1, x, y => by
    have := v2_set l j x y
    have e : v2 (p :: l) = .int .i64 p.1 :: .int .i64 p.2 :: v2 l := rfl
    rw [e, show (j + 1) * 2 = j * 2 + 1 + 1 from by omega, List.set_cons_succ, List.set_cons_succ, List.set_cons_succ, List.set_cons_succ, this]
    rfl
theorem lo_set (l : List (Int × Int)) (x y : Int) (j i : Nat) (h : i < l.length) : V.lo (l.set j (x, y)) i = (if j = i then x else V.lo l i) ∧ V.hi (l.set j (x, y)) i = (if j = i then y else V.hi l i) := by
  unfold V.lo V.hi
  rw [List.getD_eq_getElem?_getD, List.getElem?_set]
  by_cases a : j = i
  · subst a; simp [h]
  · rw [if_neg a, if_neg a, if_neg a, ← List.getD_eq_getElem?_getD]; exact ⟨rfl, rfl⟩
theorem Small2.set {l : List (Int × Int)} {x y : Int} (h : Small2 l) (hx : -2000000 ≤ x ∧ x ≤ 2000000) (hy : -2000000 ≤ y ∧ y ≤ 2000000) (j : Nat) : Small2 (l.set j (x, y)) := fun i hi => by
  simp at hi
  rw [(lo_set l x y j i hi).1, (lo_set l x y j i hi).2]
  have := h i hi
  split
  · exact ⟨hx, hy⟩
  · exact this
theorem v2_oneC (l : List (Int × Int)) : ∀ u ∈ v2 l, u.oneCell' = true := by
  intro u hu
  simp [v2] at hu
  obtain ⟨a, b, _, h | h⟩ := hu <;> subst h <;> rfl
/-- Structs of two numbers, of the call's own, in blocks from B on. -/
def Prs (T : TypeId) (B : Nat) (w : World) (a : Option Addr) (c : Nat) (l : List (Int × Int)) : Prop := w.ownsRow B T 2 (.slice a l.length c) l.length (v2 l)
theorem Prs.keep {T : TypeId} {B : Nat} {w w' : World} {a : Option Addr} {c : Nat} {l : List (Int × Int)} (h : Prs T B w a c l) (hb : Below w.heap.size w w') : Prs T B w' a c l :=
  World.ownsRow.kept (row := none) h ⟨hb.os, hb.tape, hb.output, hb.size, fun j hj _ => hb.block j hj⟩ (by cases a <;> simp [Value.ownBlock])
theorem Prs.drewN {T : TypeId} {B : Nat} {w : World} {a : Option Addr} {c : Nat} {l : List (Int × Int)} (h : Prs T B w a c l) (k : Nat) : Prs T B (w.drewN k) a c l := h
theorem Prs.none_ (T : TypeId) (B : Nat) (w : World) : Prs T B w none 0 [] := World.ownsRow_nil _ _ _ _
theorem Prs.form {T : TypeId} {B : Nat} {w : World} {a : Option Addr} {c : Nat} {l : List (Int × Int)} (h : Prs T B w a c l) (h0 : 0 < l.length) : ∃ g, a = some ⟨g, 0, none⟩ ∧ B ≤ g ∧ g < w.heap.size ∧ ∀ i, i < l.length → (w.cell? ⟨g, i * 2, none⟩ = some (.int .i64 (V.lo l i)) ∧ w.cell? ⟨g, i * 2 + 1, none⟩ = some (.int .i64 (V.hi l i))) ∧ (w.frozen? ⟨g, i * 2, none⟩ = false ∧ w.frozen? ⟨g, i * 2 + 1, none⟩ = false) := by
  obtain ⟨g, cap, e, hB, hlt⟩ := World.ownsRow.form h h0
  injection e with e1 e2 e3
  subst e1
  refine ⟨g, rfl, hB, hlt, fun i hi => ?_⟩
  have c0 := World.ownsRow.cellAt h (i * 2) (by omega)
  have c1 := World.ownsRow.cellAt h (i * 2 + 1) (by omega)
  rw [(v2_get l i hi).1] at c0
  rw [(v2_get l i hi).2] at c1
  exact ⟨⟨c0, c1⟩, World.ownsRow.frozenAt h (i * 2), World.ownsRow.frozenAt h (i * 2 + 1)⟩
end Go.Proofs.Ytgbbbmljanlogaa
