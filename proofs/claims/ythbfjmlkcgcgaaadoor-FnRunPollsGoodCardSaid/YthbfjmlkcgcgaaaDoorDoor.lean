/-
  The table of rules of polls: what the laid condition gives the walks; the heap of the program's own start meets it.
-/
import Derived.Test.YthbfjmlkcgcgaaaDoorRows
import Derived.Test.YthbfjmlkcgcgaaaDoorNext
import Derived.LaidMore
import Derived.OpenShut
import Derived.OpenVars
import Derived.ChangeOld
import Derived.Lib.SmallJoins
namespace Go.Proofs.YthbfjmlkcgcgaaaDoor
open Go.ChangeShapes Go.WideShapes Go.ChangeAt Go.WideElems Go.RowKit Go.Joins
set_option linter.unusedVariables false
set_option maxRecDepth 100000
abbrev VN : String := "loop.example/satelliteclock/impl.pollRules"
def laidL : List (String × DataW Unit) := [("loop.example/satelliteclock/impl.pollRules", Rows.laid_loop_example_satelliteclock_impl_pollRules)]
theorem gIdx : Tryd.prog.globalNamed VN = some 0 := by kernel_rfl
theorem gType : (Tryd.prog.globals[0]?).map (·.type) = some 54 := by kernel_rfl
theorem door_met (os : Os) (args : Array Value) : laidMetH Tryd.prog laidL ((World.doorLaid Tryd.prog 400 os).forCall (fun _ _ => 0) ⟨#[], args, []⟩).memory :=
  laidMetH_of_parts3 (fuel := 8) (laidMet_of_run' 8 (by kernel_rfl) (by kernel_rfl)) (by kernel_rfl) (by kernel_rfl)
theorem pair_of {W : World} {m : Nat} {cs : List Value} {x y : Int} {q : List MemPlace} (h : DataW.trod (fun _ => ()) Tryd.prog W 0 (fun _ => true) false m 53 cs = some (.agg [.lit (.int .i64 x), .lit (.int .i64 y)], q)) : cs = [.int .i64 x, .int .i64 y] := by
  obtain ⟨y0, y1, n, hx, hl, h0, h1⟩ := trod_struct2 Tryd.underlying53 h
  obtain ⟨k0, e0, r0, _⟩ := DataW.trod_int Tryd.underlying3 h0
  obtain ⟨k1, e1, r1, _⟩ := DataW.trod_int Tryd.underlying3 h1
  have hC : Tryd.prog.cellsOf 53 = 2 := by kernel_rfl
  have hI : Tryd.prog.cellsOf 3 = 1 := by kernel_rfl
  rw [hC] at hl
  match cs, hl with
  | [a, b], _ =>
    rw [hI] at e0 e1
    simp at e0 e1
    subst e0 e1 r0 r1
    simp at hx
    obtain ⟨⟨rfl, rfl⟩, _⟩ := hx
    rfl
theorem of_laid {W : World} (h : laidMetH Tryd.prog laidL W) : Gl W := by
  rw [MakeChecks.laidMetH_plain _ _ _ (by kernel_rfl)] at h
  obtain ⟨ps, ⟨g0, t0, cs0, f0, p0, q0, hg0, ht0, hv0, hd0, _, _⟩, _, _⟩ := h
  obtain rfl := Option.some.inj (gIdx.symm.trans hg0)
  obtain rfl := Option.some.inj (gType.symm.trans ht0)
  obtain ⟨xs, m1, rfl, hx1, hlen, hn3, hel⟩ := DataW.trod_array Tryd.underlying54 hd0
  have hC : Tryd.prog.cellsOf 54 = 4 := by kernel_rfl
  have hE : Tryd.prog.cellsOf 53 = 2 := by kernel_rfl
  rw [hC] at hlen
  rw [hE] at hel
  have h0 := hel 0 (by decide)
  have h1 := hel 1 (by decide)
  obtain ⟨l⟩ := cs0
  match l, hlen, xs, hn3, hx1, h0, h1 with
  | [a, b, c, d], _, [x0, x1], _, hx1, h0, h1 =>
    obtain ⟨d0, q0⟩ := x0
    obtain ⟨d1, q1⟩ := x1
    simp [Rows.laid_loop_example_satelliteclock_impl_pollRules] at hx1
    obtain ⟨⟨hq0, hq1⟩, _⟩ := hx1
    subst hq0 hq1
    have e0 := pair_of h0
    have e1 := pair_of h1
    simp at e0 e1
    obtain ⟨rfl, rfl⟩ := e0
    obtain ⟨rfl, rfl⟩ := e1
    have hc := fun i => World.var?_cell hg0 hv0 i
    refine ⟨by simpa using hc 0, by simpa using hc 1, by simpa using hc 2, by simpa using hc 3, ?_⟩
    have := hc 0
    by_cases hs : 0 < W.heap.size
    · exact hs
    · exact absurd this (by simp [World.cell?, Array.getElem?_eq_none (show W.heap.size ≤ 0 by omega)])
end Go.Proofs.YthbfjmlkcgcgaaaDoor
