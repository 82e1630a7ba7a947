/-
  How a list of samples is carried from call to call in a law; parts of a list.
-/
import Derived.Test.YtoaaedbfjbgakaaSample
namespace Go.Proofs.Ytoaaedbfjbgakaa
open Go.RowKit
set_option linter.unusedVariables false
/-- The list lies there as it did; nothing that was there at first has changed. -/
structure Sq (w0 w : World) (a : Option Addr) (n : Nat) (l : List Q.Sm) : Prop where
  here : Sms w.heap.size w a n l
  bel : Below w0.heap.size w0 w
theorem Sq.b {w0 w w' : World} {a : Option Addr} {n : Nat} {l : List Q.Sm} (h : Sq w0 w a n l) (hb : Below w.heap.size w w') : Sq w0 w' a n l := ⟨(h.here.below hb).more hb.size, h.bel.trans (hb.mono h.bel.size)⟩
theorem Sq.al {w0 w : World} {a : Option Addr} {n : Nat} {l : List Q.Sm} (h : Sq w0 w a n l) (o : Obj) : Sq w0 (w.alloc o) a n l := h.b ((Below.refl _ _).alloc (Nat.le_refl _) o)
theorem Sq.dr {w0 w : World} {a : Option Addr} {n : Nat} {l : List Q.Sm} (h : Sq w0 w a n l) (k : Nat) : Sq w0 (w.drewN k) a n l := ⟨h.here.drewN k, below_drewN h.bel k⟩
theorem Sq.drew {w0 w : World} {a : Option Addr} {n : Nat} {l : List Q.Sm} (h : Sq w0 w a n l) : Sq w0 w.drew a n l := ⟨h.here, h.bel.drew⟩
theorem Sq.same {w0 w w' : World} {a : Option Addr} {n : Nat} {l : List Q.Sm} (h : Sq w0 w a n l) (q : Same w w') : Sq w0 w' a n l := by obtain ⟨k, rfl⟩ := q; exact h.dr k
/-- The first k. -/
def qtk (l : List Q.Sm) (k : Nat) : List Q.Sm := l.take k
theorem qtk_at {l : List Q.Sm} {k i : Nat} (h : i < k) : Q.of (qtk l k) i = Q.of l i ∧ Q.de (qtk l k) i = Q.de l i ∧ Q.tm (qtk l k) i = Q.tm l i := by
  unfold Q.of Q.de Q.tm qtk; rw [List.getD_eq_getElem?_getD, List.getD_eq_getElem?_getD, List.getElem?_take_of_lt h]; exact ⟨rfl, rfl, rfl⟩
theorem qtk_len {l : List Q.Sm} {k : Nat} (h : k ≤ l.length) : (qtk l k).length = k := by unfold qtk; rw [List.length_take]; omega
theorem vq_take {l : List Q.Sm} (h : Q.vq l = true) {k : Nat} (h1 : 1 ≤ k) (h2 : k ≤ l.length) : Q.vq (qtk l k) = true := by
  obtain ⟨⟨_, b⟩, ok⟩ := Q.vq_of h
  have e := qtk_len h2
  refine Q.vq_yes (by omega) (by omega) (fun i hi' => ?_)
  rw [e] at hi'
  have := ok i (by omega)
  unfold Q.okAt at *
  rw [(qtk_at hi').1, (qtk_at hi').2.1, (qtk_at hi').2.2]
  refine ⟨this.1, fun h0 => ?_⟩
  rw [(qtk_at (l := l) (show i - 1 < k by omega)).2.2]
  exact this.2 h0
theorem Sms.take {B : Nat} {w : World} {a : Option Addr} {n : Nat} {l : List Q.Sm} (h : Sms B w a n l) (k : Nat) (hk : k ≤ n) : Sms B w a k (qtk l k) := by
  refine ⟨qtk_len (by rw [h.1]; exact hk), by have := h.2.1; omega, ?_⟩
  rcases Nat.eq_zero_or_pos k with h0 | h0
  · exact .inl h0
  · obtain ⟨b, off, e, hb, hc⟩ := h.at_ 0 (by omega)
    refine .inr ⟨b, off, e, hb, fun i hi => ?_⟩
    rw [(qtk_at hi).1, (qtk_at hi).2.1, (qtk_at hi).2.2]
    exact hc i (by omega)
theorem Sq.take {w0 w : World} {a : Option Addr} {n : Nat} {l : List Q.Sm} (h : Sq w0 w a n l) (k : Nat) (hk : k ≤ n) : Sq w0 w a k (qtk l k) := ⟨h.here.take k hk, h.bel⟩
/-- A struct of three numbers in a block of its own. -/
structure B3 (w : World) (D : Nat) (x y z : Int) : Prop where
  c0 : w.cell? ⟨D, 0, none⟩ = some (.int .i64 x)
  c1 : w.cell? ⟨D, 1, none⟩ = some (.int .i64 y)
  c2 : w.cell? ⟨D, 2, none⟩ = some (.int .i64 z)
  lt : D < w.heap.size
theorem B3.b {w w' : World} {D : Nat} {x y z : Int} (h : B3 w D x y z) (hb : Below w.heap.size w w') : B3 w' D x y z := ⟨(hb.cell (p := ⟨D, 0, none⟩) h.lt).trans h.c0, (hb.cell (p := ⟨D, 1, none⟩) h.lt).trans h.c1, (hb.cell (p := ⟨D, 2, none⟩) h.lt).trans h.c2, Nat.lt_of_lt_of_le h.lt hb.size⟩
theorem B3.al {w : World} {D : Nat} {x y z : Int} (h : B3 w D x y z) (o : Obj) : B3 (w.alloc o) D x y z := h.b ((Below.refl _ _).alloc (Nat.le_refl _) o)
theorem B3.dr {w : World} {D : Nat} {x y z : Int} (h : B3 w D x y z) (k : Nat) : B3 (w.drewN k) D x y z := ⟨h.c0, h.c1, h.c2, h.lt⟩
theorem B3.new (w : World) (x y z : Int) (t : TypeId) : B3 (w.alloc (.cells #[.int .i64 x, .int .i64 y, .int .i64 z] t)) w.heap.size x y z := ⟨by simp, by simp, by simp, by simp⟩
end Go.Proofs.Ytoaaedbfjbgakaa
