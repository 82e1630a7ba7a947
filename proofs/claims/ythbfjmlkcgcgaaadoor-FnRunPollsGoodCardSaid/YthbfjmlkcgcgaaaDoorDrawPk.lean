/-
  The generators of packets (chapter 10): some packet, and nothing that was there has changed. Condition: the code has at most 1048576 bytes.
-/
import Derived.Test.YthbfjmlkcgcgaaaDoorDrawK
import Derived.Test.YthbfjmlkcgcgaaaDoorDrawN
import Derived.Deep.Cut
namespace Go.Proofs.YthbfjmlkcgcgaaaDoor
open Go.RowKit
set_option linter.unusedVariables false
set_option maxRecDepth 100000
/-- A block of numbers that is not the reader's. -/
structure BoxN (w : World) (r b : Nat) (l : List Int) : Prop where
  ne : b ≠ r
  top : b < w.heap.size
  at_ : ∀ i, i < l.length → w.cell? ⟨b, i, none⟩ = some (.int .i64 (l.getD i 0)) ∧ w.frozen? ⟨b, i, none⟩ = false
theorem BoxN.far {w w' : World} {r b : Nat} {l : List Int} (h : BoxN w r b l) (f : Far w r w') : BoxN w' r b l :=
  ⟨h.ne, Nat.lt_of_lt_of_le h.top f.size, fun i hi => ⟨(f.cell b i h.top h.ne).trans (h.at_ i hi).1, (f.frozen b i h.top h.ne).trans (h.at_ i hi).2⟩⟩
theorem BoxN.new {w : World} {r : Nat} (l : List Int) (t : TypeId) (h : r < w.heap.size) : BoxN (w.alloc (.cells (l.map (Value.int .i64)).toArray t)) r w.heap.size l :=
  ⟨by omega, by simp, fun i hi => ⟨by rw [World.cell?_alloc_new]; simp [List.getElem?_map, List.getElem?_eq_getElem hi, List.getD_eq_getElem?_getD], by simp⟩⟩
theorem BoxN.other {w : World} {r b b' i : Nat} {l : List Int} {v : Value} (h : BoxN w r b l) (hb : b' ≠ b) : BoxN (w.setCell ⟨b', i, none⟩ v) r b l := by
  have hoth : ∀ o, (w.setCell ⟨b', i, none⟩ v).cell? ⟨b, o, none⟩ = w.cell? ⟨b, o, none⟩ := fun o => World.cell?_setCell_other _ _ _ _ (fun e => hb (by injection e))
  exact ⟨h.ne, by simpa using h.top, fun j hj => ⟨(hoth j).trans (h.at_ j hj).1, by simpa using (h.at_ j hj).2⟩⟩
theorem BoxN.set {w : World} {r b : Nat} {l : List Int} (h : BoxN w r b l) (j : Nat) (hj : j < l.length) (x : Int) : BoxN (w.setCell ⟨b, j, none⟩ (.int .i64 x)) r b (l.set j x) := by
  refine ⟨h.ne, by simpa using h.top, fun i hi => ⟨?_, by simpa using (h.at_ i (by simpa using hi)).2⟩⟩
  rw [List.length_set] at hi
  by_cases e : i = j
  · subst e
    rw [World.cell?_setCell_same _ _ _ (h.at_ i hi).1, List.getD_eq_getElem?_getD, List.getElem?_set_self hi]; rfl
  · rw [World.cell?_setCell_other _ _ _ _ (fun k => e (by injection k with _ k _; exact k.symm)), (h.at_ i hi).1, List.getD_eq_getElem?_getD, List.getD_eq_getElem?_getD, List.getElem?_set_ne (fun k => e k.symm)]
/-- Some packet. -/
def AnyPk (B : Nat) (w : World) (r m : Nat) (e : Ending) (w' : World) : Prop := ∃ a b c d e' f g h : Int, e = .returned (.agg #[.int .i64 a, .int .i64 b, .int .i64 c, .int .i64 d, .int .i64 e', .int .i64 f, .int .i64 g, .int .i64 h]) ∧ RK B w w' r m
/-- Some packet out of a code. -/
def FromPk (w : World) (e : Ending) (w' : World) : Prop := ∃ a b c d e' f g h : Int, e = .returned (.agg #[.int .i64 a, .int .i64 b, .int .i64 c, .int .i64 d, .int .i64 e', .int .i64 f, .int .i64 g, .int .i64 h]) ∧ Below w.heap.size w w'
theorem Code.laterP {w w' : World} {a : Option Addr} {len : Nat} (h : Code w a len) (hb : Below w.heap.size w w') : Code w' a len := by
  refine ⟨h.1, h.2.1, fun n hn => ?_⟩
  rcases h.2.2 n hn with h0 | ⟨b, off, e, hlt, hall⟩
  · exact .inl h0
  · refine .inr ⟨b, off, e, Nat.lt_of_lt_of_le hlt hb.size, fun i hi => ?_⟩
    obtain ⟨k, k0, k1, kc⟩ := hall i hi
    exact ⟨k, k0, k1, (hb.cell (p := ⟨b, off + i, none⟩) hlt).trans kc⟩
end Go.Proofs.YthbfjmlkcgcgaaaDoor
