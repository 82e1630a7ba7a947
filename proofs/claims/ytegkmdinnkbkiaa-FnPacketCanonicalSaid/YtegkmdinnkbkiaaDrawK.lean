/-
  The generators of clocks: some clock of moderate numbers, and nothing that was there has changed. Condition: the code has at most 1048576 bytes.
-/
import Derived.Test.YtegkmdinnkbkiaaDraw
import Derived.Test.YtegkmdinnkbkiaaClock
import Derived.Deep.Cut
namespace Go.Proofs.Ytegkmdinnkbkiaa
open Go.RowKit
set_option linter.unusedVariables false
set_option maxRecDepth 100000
/-- A block of three numbers that is not the reader's. -/
structure BoxK (w : World) (r b : Nat) (x y z : Int) : Prop where
  ne : b ≠ r
  top : b < w.heap.size
  c0 : w.cell? ⟨b, 0, none⟩ = some (.int .i64 x)
  c1 : w.cell? ⟨b, 1, none⟩ = some (.int .i64 y)
  c2 : w.cell? ⟨b, 2, none⟩ = some (.int .i64 z)
  f0 : w.frozen? ⟨b, 0, none⟩ = false
  f1 : w.frozen? ⟨b, 1, none⟩ = false
  f2 : w.frozen? ⟨b, 2, none⟩ = false
theorem BoxK.far {w w' : World} {r b : Nat} {x y z : Int} (h : BoxK w r b x y z) (f : Far w r w') : BoxK w' r b x y z :=
  ⟨h.ne, Nat.lt_of_lt_of_le h.top f.size, (f.cell b 0 h.top h.ne).trans h.c0, (f.cell b 1 h.top h.ne).trans h.c1, (f.cell b 2 h.top h.ne).trans h.c2,
    (f.frozen b 0 h.top h.ne).trans h.f0, (f.frozen b 1 h.top h.ne).trans h.f1, (f.frozen b 2 h.top h.ne).trans h.f2⟩
theorem BoxK.new {w : World} {r : Nat} (x y z : Int) (t : TypeId) (h : r < w.heap.size) : BoxK (w.alloc (.cells #[.int .i64 x, .int .i64 y, .int .i64 z] t)) r w.heap.size x y z :=
  ⟨by omega, by simp, by simp, by simp, by simp, by simp, by simp, by simp⟩
theorem BoxK.other {w : World} {r b b' i : Nat} {x y z : Int} {v : Value} (h : BoxK w r b x y z) (hb : b' ≠ b) : BoxK (w.setCell ⟨b', i, none⟩ v) r b x y z := by
  have hoth : ∀ o, (w.setCell ⟨b', i, none⟩ v).cell? ⟨b, o, none⟩ = w.cell? ⟨b, o, none⟩ := fun o => World.cell?_setCell_other _ _ _ _ (fun e => hb (by injection e))
  exact ⟨h.ne, by simpa using h.top, (hoth 0).trans h.c0, (hoth 1).trans h.c1, (hoth 2).trans h.c2, by simpa using h.f0, by simpa using h.f1, by simpa using h.f2⟩
theorem BoxK.set {w : World} {r b : Nat} {x y z : Int} (h : BoxK w r b x y z) (x' y' z' : Int) : BoxK (((w.setCell ⟨b, 0, none⟩ (.int .i64 x')).setCell ⟨b, 1, none⟩ (.int .i64 y')).setCell ⟨b, 2, none⟩ (.int .i64 z')) r b x' y' z' := by
  have a0 := World.cell?_setCell_same w ⟨b, 0, none⟩ (.int .i64 x') h.c0
  have a1 : (w.setCell ⟨b, 0, none⟩ (.int .i64 x')).cell? ⟨b, 1, none⟩ = _ := (World.cell?_setCell_other _ _ _ _ (by simp)).trans h.c1
  have a2 : (w.setCell ⟨b, 0, none⟩ (.int .i64 x')).cell? ⟨b, 2, none⟩ = _ := (World.cell?_setCell_other _ _ _ _ (by simp)).trans h.c2
  refine ⟨h.ne, by simpa using h.top, ?_, ?_, ?_, by simpa using h.f0, by simpa using h.f1, by simpa using h.f2⟩
  · exact (World.cell?_setCell_other _ _ _ _ (by simp)).trans ((World.cell?_setCell_other _ _ _ _ (by simp)).trans a0)
  · exact (World.cell?_setCell_other _ _ _ _ (by simp)).trans (World.cell?_setCell_same _ _ _ a1)
  · exact World.cell?_setCell_same _ _ _ ((World.cell?_setCell_other _ _ _ _ (by simp)).trans a2)
/-- A reader, and what it has done so far. -/
structure RK (B : Nat) (w0 w : World) (r m : Nat) : Prop where
  rdr : Rdr B w r m
  bel : Below B w0 w
  far : Far w0 r w
  lo : B ≤ w0.heap.size
  lr : r < w0.heap.size
section
variable {B r m m' : Nat} {w0 w w' : World}
theorem RK.mk0 (h : Rdr B w r m) : RK B w w r m := ⟨h, Below.refl _ _, Far.refl _ _, h.le, h.top⟩
theorem RK.next (h : RK B w0 w r m) (rd : Rdr B w' r m') (bl : Below B w w') (fr : Far w r w') : RK B w0 w' r m' := ⟨rd, h.bel.trans bl, h.far.trans fr, h.lo, h.lr⟩
theorem RK.alloc (h : RK B w0 w r m) (c : Array Value) (t : TypeId) : RK B w0 (w.alloc (.cells c t)) r m := h.next (h.rdr.alloc c t) ((Below.refl _ _).alloc h.rdr.le _) ((Far.refl _ _).alloc _)
theorem RK.step (h : RK B w0 w r m) (st : Step B w r m' w') : RK B w0 w' r m' := h.next st.rdr st.bel st.far
theorem RK.mono (h : RK B w0 w r m) (hm : m ≤ m') : RK B w0 w r m' := { h with rdr := h.rdr.mono hm }
theorem RK.drew (h : RK B w0 w r m) : RK B w0 w.drew r m := h.next h.rdr.drew ((Below.refl _ _).drew) ⟨Nat.le_refl _, fun _ _ _ => rfl⟩
theorem Far.setK {a w : World} {b i : Nat} {v : Value} (h : Far a r w) (hb : a.heap.size ≤ b) : Far a r (w.setCell ⟨b, i, none⟩ v) :=
  have k : Below a.heap.size w (w.setCell ⟨b, i, none⟩ v) := (Below.refl a.heap.size w).setCell (p := ⟨b, i, none⟩) hb v
  ⟨Nat.le_trans h.size k.size, fun i hi hr => (k.block i hi).trans (h.block i hi hr)⟩
theorem RK.set {b i : Nat} {v : Value} (h : RK B w0 w r m) (hb : w0.heap.size ≤ b) : RK B w0 (w.setCell ⟨b, i, none⟩ v) r m := by
  have hl := h.lo
  have hr := h.lr
  refine ⟨?_, h.bel.setCell (p := ⟨b, i, none⟩) (show B ≤ b by omega) v, h.far.setK hb, h.lo, h.lr⟩
  obtain ⟨a, t, c, ⟨p, hp, hp2⟩, x, len, cap, hx, hl', hcode⟩ := h.rdr
  have hoth : ∀ k o, k ≠ b → (w.setCell ⟨b, i, none⟩ v).cell? ⟨k, o, none⟩ = w.cell? ⟨k, o, none⟩ := fun k o hk => World.cell?_setCell_other _ _ _ _ (fun e => hk (by injection e with e1; exact e1.symm))
  refine ⟨a, by simpa using t, by simpa using c, ⟨p, hp, (hoth _ _ (by omega)).trans hp2⟩, x, len, cap, (hoth _ _ (by omega)).trans hx, hl', ?_⟩
  rcases hcode with h0 | ⟨cb, off, rfl, hlt, hall⟩
  · exact .inl h0
  · refine .inr ⟨cb, off, rfl, hlt, fun j hj => ?_⟩
    obtain ⟨n, h0, h1, h2⟩ := hall j hj
    exact ⟨n, h0, h1, (hoth _ _ (by omega)).trans h2⟩
end
end Go.Proofs.Ytegkmdinnkbkiaa
