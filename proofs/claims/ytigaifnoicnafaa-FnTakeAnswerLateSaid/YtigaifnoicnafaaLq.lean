/-
  Four time stamps carried through a law (chapter 11); what the functions say of valid ones and of others.
-/
import Derived.Test.YtigaifnoicnafaaOffsetC
import Derived.StillTactics
import Derived.StillTailTactics
namespace Go.Proofs.Ytigaifnoicnafaa
open Go.RowKit
set_option linter.unusedVariables false
set_option maxRecDepth 100000
/-- A list, and what lay there before is as it was. -/
structure Lq (w0 w : World) (a : Option Addr) (n : Nat) (l : List Int) : Prop where
  here : Lst w.heap.size w a n l
  bel : Below w0.heap.size w0 w
theorem Lq.b {w0 w w' : World} {a : Option Addr} {n : Nat} {l : List Int} (h : Lq w0 w a n l) (hb : Below w.heap.size w w') : Lq w0 w' a n l := ⟨(h.here.below hb).more hb.size, h.bel.trans (hb.mono h.bel.size)⟩
theorem Lq.s {w0 w w' : World} {a : Option Addr} {n : Nat} {l : List Int} (h : Lq w0 w a n l) (q : Same w w') : Lq w0 w' a n l := h.b q.below
theorem Lq.al {w0 w : World} {a : Option Addr} {n : Nat} {l : List Int} (h : Lq w0 w a n l) (o : Obj) : Lq w0 (w.alloc o) a n l := h.b ((Below.refl _ _).alloc (Nat.le_refl _) o)
theorem Lq.dr {w0 w : World} {a : Option Addr} {n : Nat} {l : List Int} (h : Lq w0 w a n l) (k : Nat) : Lq w0 (w.drewN k) a n l := h.s ((Same.refl _).drewN k)
/-- Four numbers at a place. -/
structure L4 (w0 w : World) (b off : Nat) (l : List Int) : Prop where
  c0 : w.cell? ⟨b, off, none⟩ = some (.int .i64 (L.g l 0))
  c1 : w.cell? ⟨b, off + 1, none⟩ = some (.int .i64 (L.g l 1))
  c2 : w.cell? ⟨b, off + 2, none⟩ = some (.int .i64 (L.g l 2))
  c3 : w.cell? ⟨b, off + 3, none⟩ = some (.int .i64 (L.g l 3))
  q : Lq w0 w (some ⟨b, off, none⟩) 4 l
theorem L4.of {w0 w : World} {a : Option Addr} {n : Nat} {l : List Int} (h : Lq w0 w a n l) (hl : l.length = 4) : n = 4 ∧ ∃ b off, a = some ⟨b, off, none⟩ ∧ L4 w0 w b off l := by
  have hn : n = 4 := by rw [← h.here.1]; exact hl
  subst hn
  obtain ⟨b, off, rfl, hb, hc⟩ := h.here.at_ 0 (by omega)
  have c0 := hc 0 (by omega)
  rw [Nat.add_zero] at c0
  exact ⟨rfl, b, off, rfl, c0, hc 1 (by omega), hc 2 (by omega), hc 3 (by omega), h⟩
theorem L4.next {w0 w w' : World} {b off : Nat} {l : List Int} (h : L4 w0 w b off l) (q : Lq w0 w' (some ⟨b, off, none⟩) 4 l) : L4 w0 w' b off l := by
  obtain ⟨-, b', off', e, k⟩ := L4.of q (by have := q.here.1; omega)
  injection e with e
  injection e with e1 e2
  subst e1
  subst e2
  exact k
theorem L4.b {w0 w w' : World} {b off : Nat} {l : List Int} (h : L4 w0 w b off l) (hb : Below w.heap.size w w') : L4 w0 w' b off l := h.next (h.q.b hb)
theorem L4.s {w0 w w' : World} {b off : Nat} {l : List Int} (h : L4 w0 w b off l) (hb : Same w w') : L4 w0 w' b off l := h.next (h.q.s hb)
theorem L4.al {w0 w : World} {b off : Nat} {l : List Int} (h : L4 w0 w b off l) (o : Obj) : L4 w0 (w.alloc o) b off l := h.next (h.q.al o)
theorem L4.dr {w0 w : World} {b off : Nat} {l : List Int} (h : L4 w0 w b off l) (k : Nat) : L4 w0 (w.drewN k) b off l := h.next (h.q.dr k)
theorem L4.all {w0 w : World} {b off : Nat} {l : List Int} (h : L4 w0 w b off l) : w.cell? ⟨b, off, none⟩ = some (.int .i64 (L.g l 0)) ∧ w.cell? ⟨b, off + 1, none⟩ = some (.int .i64 (L.g l 1)) ∧ w.cell? ⟨b, off + 2, none⟩ = some (.int .i64 (L.g l 2)) ∧ w.cell? ⟨b, off + 3, none⟩ = some (.int .i64 (L.g l 3)) ∧ L4 w0 w b off l := ⟨h.c0, h.c1, h.c2, h.c3, h⟩
theorem last5 {A B C D E : Prop} (h : A ∧ B ∧ C ∧ D ∧ E) : E := h.2.2.2.2
theorem L4.drew {w0 w : World} {b off : Nat} {l : List Int} (h : L4 w0 w b off l) : L4 w0 w.drew b off l := h.dr 1
theorem lst_four (w : World) (x0 x1 x2 x3 : Int) (t : TypeId) : Lst (w.heap.size + 1) (w.alloc (.cells #[.int .i64 x0, .int .i64 x1, .int .i64 x2, .int .i64 x3] t)) (some ⟨w.heap.size, 0, none⟩) 4 [x0, x1, x2, x3] := by
  refine ⟨rfl, by omega, .inr ⟨w.heap.size, 0, rfl, by omega, fun i hi => ?_⟩⟩
  rcases i with _ | _ | _ | _ | i
  · simp [L.g]
  · simp [L.g]
  · simp [L.g]
  · simp [L.g]
  · omega
theorem lst_fourD (w : World) (x0 x1 x2 x3 : Int) (t : TypeId) : Lst (w.heap.size + 1) (w.alloc (.cells #[.int .i64 x0, .int .i64 x1, .int .i64 x2, .int .i64 x3] t)).drew (some ⟨w.heap.size, 0, none⟩) 4 [x0, x1, x2, x3] := lst_four w x0 x1 x2 x3 t
/-- Two numbers in a block. -/
structure C2 (w : World) (D : Nat) (x y : Int) : Prop where
  c0 : w.cell? ⟨D, 0, none⟩ = some (.int .i64 x)
  c1 : w.cell? ⟨D, 1, none⟩ = some (.int .i64 y)
  lt : D < w.heap.size
theorem C2.b {w w' : World} {D : Nat} {x y : Int} (h : C2 w D x y) (hb : Below w.heap.size w w') : C2 w' D x y := ⟨(hb.cell (p := ⟨D, 0, none⟩) h.lt).trans h.c0, (hb.cell (p := ⟨D, 1, none⟩) h.lt).trans h.c1, Nat.lt_of_lt_of_le h.lt hb.size⟩
theorem C2.s {w w' : World} {D : Nat} {x y : Int} (h : C2 w D x y) (hb : Same w w') : C2 w' D x y := h.b hb.below
theorem C2.al {w : World} {D : Nat} {x y : Int} (h : C2 w D x y) (o : Obj) : C2 (w.alloc o) D x y := h.b ((Below.refl _ _).alloc (Nat.le_refl _) o)
theorem C2.new (w : World) (x y : Int) (t : TypeId) : C2 (w.alloc (.cells #[.int .i64 x, .int .i64 y] t)) w.heap.size x y := ⟨by simp, by simp, by simp⟩
/-- Four time stamps, and a span beside them. -/
structure LS (w0 w : World) (b off : Nat) (l : List Int) (D : Nat) (x y : Int) : Prop where
  q : L4 w0 w b off l
  d : C2 w D x y
theorem LS.b {w0 w w' : World} {b off D : Nat} {l : List Int} {x y : Int} (h : LS w0 w b off l D x y) (hb : Below w.heap.size w w') : LS w0 w' b off l D x y := ⟨h.q.b hb, h.d.b hb⟩
theorem LS.al {w0 w : World} {b off D : Nat} {l : List Int} {x y : Int} (h : LS w0 w b off l D x y) (o : Obj) : LS w0 (w.alloc o) b off l D x y := h.b ((Below.refl _ _).alloc (Nat.le_refl _) o)
theorem LS.drew {w0 w : World} {b off D : Nat} {l : List Int} {x y : Int} (h : LS w0 w b off l D x y) : LS w0 w.drew b off l D x y := ⟨h.q.drew, h.d.s ((Same.refl _).drewN 1)⟩
theorem LS.all {w0 w : World} {b off D : Nat} {l : List Int} {x y : Int} (h : LS w0 w b off l D x y) : w.cell? ⟨b, off, none⟩ = some (.int .i64 (L.g l 0)) ∧ w.cell? ⟨b, off + 1, none⟩ = some (.int .i64 (L.g l 1)) ∧ w.cell? ⟨b, off + 2, none⟩ = some (.int .i64 (L.g l 2)) ∧ w.cell? ⟨b, off + 3, none⟩ = some (.int .i64 (L.g l 3)) ∧ LS w0 w b off l D x y := ⟨h.q.c0, h.q.c1, h.q.c2, h.q.c3, h⟩
/-- A block of two zeros that may be written. -/
structure Z2 (w : World) (E : Nat) : Prop where
  c0 : w.cell? ⟨E, 0, none⟩ = some (.int .i64 0)
  c1 : w.cell? ⟨E, 1, none⟩ = some (.int .i64 0)
  f0 : w.frozen? ⟨E, 0, none⟩ = false
  f1 : w.frozen? ⟨E, 1, none⟩ = false
  lt : E < w.heap.size
theorem Z2.b {w w' : World} {E : Nat} (h : Z2 w E) (q : Below w.heap.size w w') : Z2 w' E := ⟨(q.cell (p := ⟨E, 0, none⟩) h.lt).trans h.c0, (q.cell (p := ⟨E, 1, none⟩) h.lt).trans h.c1, (q.frozen (p := ⟨E, 0, none⟩) h.lt).trans h.f0, (q.frozen (p := ⟨E, 1, none⟩) h.lt).trans h.f1, Nat.lt_of_lt_of_le h.lt q.size⟩
theorem Z2.al {w : World} {E : Nat} (h : Z2 w E) (o : Obj) : Z2 (w.alloc o) E := h.b ((Below.refl _ _).alloc (Nat.le_refl _) o)
theorem Z2.new (w : World) (t : TypeId) : Z2 (w.alloc (.cells #[.int .i64 0, .int .i64 0] t)) w.heap.size := ⟨by simp, by simp, by simp, by simp, by simp⟩
/-- Behind two stores into a block E that is not below N: the block holds them, and a world at or above N is as it was. -/
theorem set2 {X : World} {E : Nat} {x y : Value} (h : Z2 X E) :
    ((X.setCell ⟨E, 0, none⟩ x).setCell ⟨E, 1, none⟩ y).cell? ⟨E, 0, none⟩ = some x ∧ ((X.setCell ⟨E, 0, none⟩ x).setCell ⟨E, 1, none⟩ y).cell? ⟨E, 1, none⟩ = some y ∧ (∀ b o, b ≠ E → ((X.setCell ⟨E, 0, none⟩ x).setCell ⟨E, 1, none⟩ y).cell? ⟨b, o, none⟩ = X.cell? ⟨b, o, none⟩) := by
  refine ⟨?_, ?_, fun b o hne => ?_⟩
  · rw [World.cell?_setCell_other _ _ _ _ (by simp)]; exact World.cell?_setCell_same _ _ _ h.c0
  · exact World.cell?_setCell_same _ _ _ ((World.cell?_setCell_other _ _ _ _ (by simp)).trans h.c1)
  · rw [World.cell?_setCell_other _ _ _ _ (fun e => hne (by injection e with e; exact e.symm)), World.cell?_setCell_other _ _ _ _ (fun e => hne (by injection e with e; exact e.symm))]
theorem L4.lt {w0 w : World} {b off : Nat} {l : List Int} (h : L4 w0 w b off l) : b < w.heap.size := by
  obtain ⟨b', off', e, hb, _⟩ := h.q.here.at_ 0 (by omega)
  injection e with e
  injection e with e1 e2
  omega
theorem LS.set {w X : World} {b off D E : Nat} {l : List Int} {x y : Int} {u v : Value} (h : LS w X b off l D x y) (z : Z2 X E) (hE : w.heap.size ≤ E) (hb : b ≠ E) (hD : D ≠ E) : LS w ((X.setCell ⟨E, 0, none⟩ u).setCell ⟨E, 1, none⟩ v) b off l D x y := by
  have hc := (set2 (x := u) (y := v) z).2.2
  have hl := h.q.lt
  have hd := h.d.lt
  have hbel : Below w.heap.size w ((X.setCell ⟨E, 0, none⟩ u).setCell ⟨E, 1, none⟩ v) := (h.q.q.bel.setCell (p := ⟨E, 0, none⟩) hE _).setCell (p := ⟨E, 1, none⟩) hE _
  refine ⟨⟨(hc _ _ hb).trans h.q.c0, (hc _ _ hb).trans h.q.c1, (hc _ _ hb).trans h.q.c2, (hc _ _ hb).trans h.q.c3, ⟨⟨h.q.q.here.1, h.q.q.here.2.1, .inr ⟨b, off, rfl, by simpa using hl, fun i hi => ?_⟩⟩, hbel⟩⟩, ⟨(hc _ _ hD).trans h.d.c0, (hc _ _ hD).trans h.d.c1, by simpa using hd⟩⟩
  rw [hc _ _ hb]
  obtain ⟨b', off', e, _, k⟩ := h.q.q.here.at_ 0 (by omega)
  injection e with e
  injection e with e1 e2
  subst e1
  subst e2
  exact k i hi
theorem OFi_yes (B n c : Nat) (a : Option Addr) (l : List Int) (w : World) (hv : O.vo l = true) (h : Lst B w a n l) (hB : B ≤ w.heap.size) : Calls Try.prog 23 #[.slice a n c] w fun e w' => e = .returned (.tuple #[.int .i64 (O.of l), .bool true]) ∧ Below w.heap.size w w' := by
  have k := OF_impl B n c a l w h hB
  simp only [hv, (O.o_yes hv).1] at k
  exact k
theorem OFi_no (B n c : Nat) (a : Option Addr) (l : List Int) (w : World) (hv : O.vo l = false) (h : Lst B w a n l) (hB : B ≤ w.heap.size) : Calls Try.prog 23 #[.slice a n c] w fun e w' => e = .returned (.tuple #[.int .i64 0, .bool false]) ∧ Below w.heap.size w w' := by
  have k := OF_impl B n c a l w h hB
  simp only [hv, (O.o_no hv).1] at k
  exact k
theorem DEi_yes (B n c : Nat) (a : Option Addr) (l : List Int) (w : World) (hv : O.vo l = true) (h : Lst B w a n l) (hB : B ≤ w.heap.size) : Calls Try.prog 24 #[.slice a n c] w fun e w' => e = .returned (.int .i64 (O.de l)) ∧ Below w.heap.size w w' := by
  have k := DE_impl B n c a l w h hB
  simp only [(O.o_yes hv).2] at k
  exact k
theorem DEi_no (B n c : Nat) (a : Option Addr) (l : List Int) (w : World) (hv : O.vo l = false) (h : Lst B w a n l) (hB : B ≤ w.heap.size) : Calls Try.prog 24 #[.slice a n c] w fun e w' => e = .returned (.int .i64 (-1)) ∧ Below w.heap.size w w' := by
  have k := DE_impl B n c a l w h hB
  simp only [(O.o_no hv).2] at k
  exact k
end Go.Proofs.Ytigaifnoicnafaa
