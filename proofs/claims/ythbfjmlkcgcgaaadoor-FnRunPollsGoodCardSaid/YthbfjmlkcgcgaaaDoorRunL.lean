/-
  A run of polls as the laws use it (chapter 13): its two answers, a list in memory from its k-th number on, and what a region that draws carries.
-/
import Derived.Test.YthbfjmlkcgcgaaaDoorRunPlS
import Derived.Test.YthbfjmlkcgcgaaaDoorCopyPl
namespace Go.Proofs.YthbfjmlkcgcgaaaDoor
open Go.RowKit
set_option linter.unusedVariables false
set_option maxRecDepth 100000
theorem RPi_no (p c j : Int) (l : List Int) (hk : J.rk (p, c) l j = false) (a : Option Addr) (n cp : Nat) (w : World) (h : Lst w.heap.size w a n l) (hg : Gl w) :
    Calls Tryd.prog 17 #[.agg #[.int .i64 p, .int .i64 c], .slice a n cp, .int .i64 j] w fun e w' => e = .returned (.tuple #[.agg #[.int .i64 0, .int .i64 0], .int .i64 0, .bool false]) ∧ Below w.heap.size w w' := by
  have x := RP_impl w.heap.size n cp a l (p, c) j w h (Nat.le_refl _) hg
  rw [(J.re_no hk).1, (J.re_no hk).2, hk] at x
  exact x
theorem RPi_yes (p c j : Int) (l : List Int) (hk : J.rk (p, c) l j = true) (a : Option Addr) (n cp : Nat) (w : World) (h : Lst w.heap.size w a n l) (hg : Gl w) :
    Calls Tryd.prog 17 #[.agg #[.int .i64 p, .int .i64 c], .slice a n cp, .int .i64 j] w fun e w' => e = .returned (.tuple #[.agg #[.int .i64 (J.rn (p, c) l j l.length).1, .int .i64 (J.rn (p, c) l j l.length).2], .int .i64 (J.rt (p, c) l j l.length), .bool true]) ∧ Below w.heap.size w w' := by
  have x := RP_impl w.heap.size n cp a l (p, c) j w h (Nat.le_refl _) hg
  rw [(J.re_yes hk).1, (J.re_yes hk).2, hk] at x
  exact x
theorem RPs_no (p c j : Int) (l : List Int) (hk : J.rk (p, c) l j = false) (a : Option Addr) (n cp : Nat) (w : World) (h : Lst w.heap.size w a n l) :
    Calls Tryd.prog 18 #[.agg #[.int .i64 p, .int .i64 c], .slice a n cp, .int .i64 j] w fun e w' => e = .returned (.tuple #[.agg #[.int .i64 0, .int .i64 0], .int .i64 0, .bool false]) ∧ Below w.heap.size w w' := by
  have x := RP_spec w.heap.size n cp a l (p, c) j w h (Nat.le_refl _)
  rw [(J.re_no hk).1, (J.re_no hk).2, hk] at x
  exact x
theorem RPs_yes (p c j : Int) (l : List Int) (hk : J.rk (p, c) l j = true) (a : Option Addr) (n cp : Nat) (w : World) (h : Lst w.heap.size w a n l) :
    Calls Tryd.prog 18 #[.agg #[.int .i64 p, .int .i64 c], .slice a n cp, .int .i64 j] w fun e w' => e = .returned (.tuple #[.agg #[.int .i64 (J.rn (p, c) l j l.length).1, .int .i64 (J.rn (p, c) l j l.length).2], .int .i64 (J.rt (p, c) l j l.length), .bool true]) ∧ Below w.heap.size w w' := by
  have x := RP_spec w.heap.size n cp a l (p, c) j w h (Nat.le_refl _)
  rw [(J.re_yes hk).1, (J.re_yes hk).2, hk] at x
  exact x
theorem Lst.dropR {B b off : Nat} {w : World} {n : Nat} {l : List Int} (h : Lst B w (some ⟨b, off, none⟩) n l) (k : Nat) (hk : k ≤ n) : Lst B w (some ⟨b, off + k, none⟩) (n - k) (l.drop k) := by
  refine ⟨by rw [List.length_drop, h.1], by have := h.2.1; omega, ?_⟩
  rcases Nat.eq_zero_or_pos (n - k) with h0 | h0
  · exact .inl h0
  · obtain ⟨b', off', e, hb, hc⟩ := h.at_ 0 (by omega)
    injection e with e; injection e with e1 e2
    subst e1; subst e2
    refine .inr ⟨b, off + k, rfl, hb, fun i hi => ?_⟩
    have hg : L.g (l.drop k) i = L.g l (k + i) := by
      unfold L.g
      rw [List.getD_eq_getElem?_getD, List.getD_eq_getElem?_getD, List.getElem?_drop]
    rw [hg, Nat.add_assoc]
    exact hc (k + i) (by omega)
theorem Lst.any0 (B : Nat) (w : World) (a : Option Addr) : Lst B w a 0 [] := ⟨rfl, by omega, .inl rfl⟩
theorem P2.drew {w : World} {D : Nat} {x y : Int} (h : P2 w D x y) : P2 w.drew D x y := ⟨h.c0, h.c1, h.lt⟩
theorem Zp2.alloc {w : World} {E : Nat} (h : Zp2 w E) (o : Obj) : Zp2 (w.alloc o) E := h.b ((Below.refl _ _).alloc (Nat.le_refl _) o)
/-- A region's world: two blocks (one is read), the list, the table, and nothing old has changed. -/
structure RG (w X : World) (D : Nat) (p c : Int) (Q : Nat) (x y : Int) (a : Option Addr) (n : Nat) (l : List Int) : Prop where
  d : P2 X D p c
  q : P2 X Q x y
  ls : Lst X.heap.size X a n l
  g : Gl X
  bel : Below w.heap.size w X
section
variable {w X X' : World} {D Q n : Nat} {p c x y : Int} {a : Option Addr} {l : List Int}
theorem RG.b (h : RG w X D p c Q x y a n l) (q : Below X.heap.size X X') : RG w X' D p c Q x y a n l :=
  ⟨h.d.b q, h.q.b q, (h.ls.below q).more q.size, h.g.b q, h.bel.trans (q.mono h.bel.size)⟩
theorem RG.al (h : RG w X D p c Q x y a n l) (o : Obj) : RG w (X.alloc o) D p c Q x y a n l := h.b ((Below.refl _ _).alloc (Nat.le_refl _) o)
theorem RG.drew (h : RG w X D p c Q x y a n l) : RG w X.drew D p c Q x y a n l := ⟨h.d.drew, h.q.drew, h.ls, h.g.drew, h.bel.drew⟩
theorem RG.keep2 (h : RG w X D p c Q x y a n l) (q : Below X.heap.size X X') : X'.cell? ⟨D, 0, none⟩ = some (.int .i64 p) ∧ X'.cell? ⟨D, 1, none⟩ = some (.int .i64 c) := ⟨(h.d.b q).c0, (h.d.b q).c1⟩
theorem RG.keep0 (h : RG w X D p c Q x y a n l) : X.drew.cell? ⟨D, 0, none⟩ = some (.int .i64 p) ∧ X.drew.cell? ⟨D, 1, none⟩ = some (.int .i64 c) := ⟨h.d.c0, h.d.c1⟩
end
end Go.Proofs.YthbfjmlkcgcgaaaDoor
