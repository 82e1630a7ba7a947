/-
  A list of numbers of the call's own.
-/
import Derived.Test.YtgbbbmljanlogaaCopy
namespace Go.Proofs.Ytgbbbmljanlogaa
open Go.RowKit
set_option linter.unusedVariables false
theorem valsC_snoc (l : List Int) (x : Int) : valsC l ++ [.int .i64 x] = valsC (l ++ [x]) := by simp [valsC]
theorem valsC_oneC (l : List Int) : ∀ u ∈ valsC l, u.oneCell' = true := by intro u hu; simp [valsC] at hu; obtain ⟨x, _, rfl⟩ := hu; rfl
def Nums (B : Nat) (w : World) (a : Option Addr) (c : Nat) (l : List Int) : Prop := w.ownsRow B 3 1 (.slice a l.length c) l.length (valsC l)
theorem Nums.keep {B : Nat} {w w' : World} {a : Option Addr} {c : Nat} {l : List Int} (h : Nums B w a c l) (hb : Below w.heap.size w w') : Nums B w' a c l :=
  World.ownsRow.kept (row := none) h ⟨hb.os, hb.tape, hb.output, hb.size, fun j hj _ => hb.block j hj⟩ (by cases a <;> simp [Value.ownBlock])
theorem Nums.drewN {B : Nat} {w : World} {a : Option Addr} {c : Nat} {l : List Int} (h : Nums B w a c l) (k : Nat) : Nums B (w.drewN k) a c l := h
theorem Nums.same {B : Nat} {w w' : World} {a : Option Addr} {c : Nat} {l : List Int} (h : Nums B w a c l) (q : Same w w') : Nums B w' a c l := by obtain ⟨p, rfl⟩ := q; exact h
theorem Nums.more {B B' : Nat} {w : World} {a : Option Addr} {c : Nat} {l : List Int} (h : Nums B w a c l) (hB : B' ≤ B) : Nums B' w a c l := by
  refine ⟨h.1, ?_⟩
  rcases h.2 with hn | ⟨g, cap, cur, hv, hb, rest⟩
  · exact .inl hn
  · exact .inr ⟨g, cap, cur, hv, by omega, rest⟩
theorem Nums.none_ (B : Nat) (w : World) : Nums B w none 0 [] := World.ownsRow_nil _ _ _ _
theorem Nums.lst {B : Nat} {w : World} {a : Option Addr} {c : Nat} {l : List Int} (h : Nums B w a c l) (hl : l.length ≤ 1048576) : Lst w.heap.size w a l.length l := by
  rcases Nat.eq_zero_or_pos l.length with h0 | h0
  · exact ⟨rfl, hl, .inl h0⟩
  · obtain ⟨g, cap, e, _, hlt⟩ := World.ownsRow.form h h0
    injection e with e1 e2 e3
    subst e1
    refine ⟨rfl, hl, .inr ⟨g, 0, rfl, hlt, fun i hi => ?_⟩⟩
    have := World.ownsRow.cellAt h i (by omega)
    rw [valsC_get l i hi] at this
    rw [Nat.zero_add]; exact this
end Go.Proofs.Ytgbbbmljanlogaa
