/-
  A struct by value whose first field is a struct of three numbers, beside two numbers: opened and shut.
-/
import Derived.Lib.SmallJoins
namespace Go.Proofs.YtopaglepkpblaaaDoor
open Go.Joins Go.ChangeShapes Go.WideShapes Go.RowKit Go.Deep Go.WideElems Go.Maps
set_option linter.unusedVariables false
variable {H : Type} {enc : TypeId × Value → H} {P : Program} {w : World} {base : Nat} {spare : Nat → Bool} {held : Bool}
theorem array5 {α : Type} {cs : Array α} (h : cs.size = 5) : ∃ c0 c1 c2 c3 c4, cs = #[c0, c1, c2, c3, c4] := by
  obtain ⟨l⟩ := cs
  match l, h with
  | [c0, c1, c2, c3, c4], _ => exact ⟨c0, c1, c2, c3, c4, rfl⟩
/-- Where the five cells stand. -/
def laid5 (P : Program) (f0 f1 f2 : Field) : Bool := decide (f0.offset = 0 ∧ P.cellsOf f0.type = 3 ∧ f1.offset = 3 ∧ P.cellsOf f1.type = 1 ∧ f2.offset = 4 ∧ P.cellsOf f2.type = 1)
theorem open_fix {r : Reach} {b0 : Nat} {t : TypeId} {f0 f1 f2 g0 g1 g2 : Field} {v : Value} {d : DataW H} {p : List MemPlace} (hs : P.underlying t = some (.struct #[f0, f1, f2])) (hl : laid5 P f0 f1 f2 = true) (hC : P.cellsOf t = 5)
    (hd : P.underlying f0.type = some (.struct #[g0, g1, g2])) (hone : oneCellFields P #[g0, g1, g2] = true)
    (hv : Value.okWide P w r b0 t v) (h : DataW.Trod enc P w base spare held t v d p) :
    ∃ (v0 v1 v2 v3 v4 : Value) (y0 y1 y2 y3 y4 : DataW H × List MemPlace) (n : Nat), v = .agg #[v0, v1, v2, v3, v4] ∧ d = .agg [.agg [y0.1, y1.1, y2.1], y3.1, y4.1] ∧ p = (y0.2 ++ (y1.2 ++ y2.2)) ++ (y3.2 ++ y4.2) ∧
      DataW.trod enc P w base spare held n g0.type [v0] = some y0 ∧ DataW.trod enc P w base spare held n g1.type [v1] = some y1 ∧ DataW.trod enc P w base spare held n g2.type [v2] = some y2 ∧ (∃ m, DataW.trod enc P w base spare held m f1.type [v3] = some y3) ∧ ∃ m, DataW.trod enc P w base spare held m f2.type [v4] = some y4 := by
  obtain ⟨cs, rfl, hsz⟩ := okWide_struct hs hv
  obtain ⟨c0, c1, c2, c3, c4, rfl⟩ := array5 (hsz.trans hC)
  obtain ⟨fuel, hf⟩ := h
  obtain ⟨z0, z1, z2, n, hx, _, h0, h1, h2⟩ := trod_struct3 hs hf
  obtain ⟨o0, k0, o1, k1, o2, k2⟩ := of_decide_eq_true hl
  rw [o0, k0] at h0
  rw [o1, k1] at h1
  rw [o2, k2] at h2
  simp [Value.cells] at h0 h1 h2
  obtain ⟨y0, y1, y2, m, hy, _, q0, q1, q2⟩ := trod_struct3 hd h0
  obtain ⟨i0, j0⟩ := hone_of hone 0 g0 rfl
  obtain ⟨i1, j1⟩ := hone_of hone 1 g1 rfl
  obtain ⟨i2, j2⟩ := hone_of hone 2 g2 rfl
  subst hy
  simp only [Prod.mk.injEq] at hx
  exact ⟨c0, c1, c2, c3, c4, y0, y1, y2, z1, z2, m, rfl, hx.1, by rw [hx.2], by simpa [i0, j0] using q0, by simpa [i1, j1] using q1, by simpa [i2, j2] using q2, ⟨n, h1⟩, ⟨n, h2⟩⟩
theorem shut_fix {t : TypeId} {f0 f1 f2 g0 g1 g2 : Field} {v0 v1 v2 v3 v4 : Value} {y0 y1 y2 y3 y4 : DataW H × List MemPlace} (hs : P.underlying t = some (.struct #[f0, f1, f2])) (hl : laid5 P f0 f1 f2 = true) (hC : P.cellsOf t = 5)
    (hd : P.underlying f0.type = some (.struct #[g0, g1, g2])) (hone : oneCellFields P #[g0, g1, g2] = true)
    (t0 : ∃ n, DataW.trod enc P w base spare held n g0.type [v0] = some y0) (t1 : ∃ n, DataW.trod enc P w base spare held n g1.type [v1] = some y1) (t2 : ∃ n, DataW.trod enc P w base spare held n g2.type [v2] = some y2) (t3 : ∃ n, DataW.trod enc P w base spare held n f1.type [v3] = some y3) (t4 : ∃ n, DataW.trod enc P w base spare held n f2.type [v4] = some y4) :
    DataW.Trod enc P w base spare held t (.agg #[v0, v1, v2, v3, v4]) (.agg [.agg [y0.1, y1.1, y2.1], y3.1, y4.1]) ((y0.2 ++ (y1.2 ++ y2.2)) ++ (y3.2 ++ y4.2)) := by
  obtain ⟨n0, t0⟩ := t0
  obtain ⟨n1, t1⟩ := t1
  obtain ⟨n2, t2⟩ := t2
  obtain ⟨n3, t3⟩ := t3
  obtain ⟨n4, t4⟩ := t4
  obtain ⟨o0, k0, o1, k1, o2, k2⟩ := of_decide_eq_true hl
  obtain ⟨i0, j0⟩ := hone_of hone 0 g0 rfl
  obtain ⟨i1, j1⟩ := hone_of hone 1 g1 rfl
  obtain ⟨i2, j2⟩ := hone_of hone 2 g2 rfl
  have ts := trod_struct3_mk (enc := enc) (w := w) (base := base) (spare := spare) (held := held) (n := n0 + n1 + n2) (cs := [v0, v1, v2]) hd (by simp [k0])
    (by simpa [i0, j0] using DataW.trod_le (show n0 ≤ n0 + n1 + n2 by omega) t0) (by simpa [i1, j1] using DataW.trod_le (show n1 ≤ n0 + n1 + n2 by omega) t1) (by simpa [i2, j2] using DataW.trod_le (show n2 ≤ n0 + n1 + n2 by omega) t2)
  have tt := trod_struct3_mk (enc := enc) (w := w) (base := base) (spare := spare) (held := held) (n := n0 + n1 + n2 + 1 + n3 + n4) (cs := [v0, v1, v2, v3, v4]) hs (by simp [hC])
    (by simpa [o0, k0] using DataW.trod_le (show n0 + n1 + n2 + 1 ≤ n0 + n1 + n2 + 1 + n3 + n4 by omega) ts) (by simpa [o1, k1] using DataW.trod_le (show n3 ≤ n0 + n1 + n2 + 1 + n3 + n4 by omega) t3) (by simpa [o2, k2] using DataW.trod_le (show n4 ≤ n0 + n1 + n2 + 1 + n3 + n4 by omega) t4)
  exact ⟨_, by simpa [Value.cells] using tt⟩
end Go.Proofs.YtopaglepkpblaaaDoor
