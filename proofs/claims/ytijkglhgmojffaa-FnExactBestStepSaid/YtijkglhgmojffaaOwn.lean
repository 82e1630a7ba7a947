/-
  A list of numbers that a call makes by appending, one after the other.
-/
import Derived.Test.YtijkglhgmojffaaNums
import Derived.Deep.AppendLies
import Derived.WalkSpells
namespace Go.Proofs.Ytijkglhgmojffaa
open Go.RowKit
set_option linter.unusedVariables false
/-- The list lies in a block at or above D; what lay there at w0 is as it was. -/
structure Ow (w0 w : World) (D : Nat) (v : Value) (l : List Int) : Prop where
  own : w.ownsRow D 3 1 v l.length (valsC l)
  bel : Below w0.heap.size w0 w
  lo : w0.heap.size ≤ D
  hi : D ≤ w.heap.size
theorem Ow.new {w0 w : World} (h : Below w0.heap.size w0 w) : Ow w0 (w.alloc (.cells #[] 3)) w.heap.size (.slice (some ⟨w.heap.size, 0, none⟩) 0 0) [] :=
  ⟨World.ownsRow_made w #[] 0 (Nat.le_refl _) (by unfold maxLen; omega) rfl, h.alloc h.size _, h.size, by simp⟩
theorem Ow.b {w0 w w' : World} {D : Nat} {v : Value} {l : List Int} (h : Ow w0 w D v l) (hb : Below w.heap.size w w') : Ow w0 w' D v l := by
  refine ⟨?_, h.bel.trans (hb.mono h.bel.size), h.lo, Nat.le_trans h.hi hb.size⟩
  refine ⟨h.own.1, ?_⟩
  rcases h.own.2 with hn | ⟨g, cap, cur, hv, hB, hgg, rest⟩
  · exact .inl hn
  · exact .inr ⟨g, cap, cur, hv, hB, by rw [hb.block g (Array.getElem?_eq_some_iff.1 hgg).1]; exact hgg, rest⟩
theorem Ow.al {w0 w : World} {D : Nat} {v : Value} {l : List Int} (h : Ow w0 w D v l) (o : Obj) : Ow w0 (w.alloc o) D v l := h.b ((Below.refl _ _).alloc (Nat.le_refl _) o)
theorem Ow.dr {w0 w : World} {D : Nat} {v : Value} {l : List Int} (h : Ow w0 w D v l) (k : Nat) : Ow w0 (w.drewN k) D v l := ⟨h.own, below_drewN h.bel k, h.lo, h.hi⟩
theorem Ow.grown {w0 w w' : World} {D n : Nat} {v v' : Value} {l : List Int} {x : Int} (h : Ow w0 w D v l) (own : w'.ownsRow D 3 1 v' n (valsC l ++ [.int .i64 x])) (hg : w.grownBy w' v.ownBlock) : Ow w0 w' D v' (l ++ [x]) := by
  have hrow : ∀ k, v.ownBlock = some k → D ≤ k := fun k hk => (h.own.lt k hk).1
  have hn : n = (l ++ [x]).length := by have := own.1; simp [valsC] at this ⊢; omega
  subst hn
  rw [valsC_snoc] at own
  exact ⟨own, h.bel.grown hg h.bel.size (fun k hk => by have := hrow k hk; have := h.lo; omega), h.lo, Nat.le_trans h.hi hg.size⟩
theorem Ow.lst {w0 w : World} {D : Nat} {v : Value} {l : List Int} (h : Ow w0 w D v l) (hl : l.length ≤ 1048576) : ∃ a c, v = .slice a l.length c ∧ Lst w.heap.size w a l.length l := by
  rcases h.own.2 with ⟨hv, hn⟩ | ⟨g, cap, cur, hv, hb, hgg, hle, hcap, hcs, htk⟩
  · exact ⟨none, 0, by rw [hv, hn], by rw [hn]; exact ⟨hn, by omega, .inl rfl⟩⟩
  · have hO := h.own
    rw [hv] at hO
    have hN : Nums D w (some ⟨g, 0, none⟩) cap l := hO
    exact ⟨some ⟨g, 0, none⟩, cap, hv, hN.lst hl⟩
end Go.Proofs.Ytijkglhgmojffaa
