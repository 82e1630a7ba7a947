/-
  How a list of spans is carried from call to call in a law.
-/
import Derived.Test.YtgbbbmljanlogaaSpan
import Derived.Test.YtgbbbmljanlogaaVMathB
namespace Go.Proofs.Ytgbbbmljanlogaa
open Go.RowKit
set_option linter.unusedVariables false
/-- The list lies there as it did; nothing that was there at first has changed. -/
structure St (w0 w : World) (a : Option Addr) (n : Nat) (l : List (Int × Int)) : Prop where
  here : Sps w.heap.size w a n l
  bel : Below w0.heap.size w0 w
theorem St.b {w0 w w' : World} {a : Option Addr} {n : Nat} {l : List (Int × Int)} (h : St w0 w a n l) (hb : Below w.heap.size w w') : St w0 w' a n l := ⟨(h.here.below hb).more hb.size, h.bel.trans (hb.mono h.bel.size)⟩
theorem St.al {w0 w : World} {a : Option Addr} {n : Nat} {l : List (Int × Int)} (h : St w0 w a n l) (o : Obj) : St w0 (w.alloc o) a n l := h.b ((Below.refl _ _).alloc (Nat.le_refl _) o)
theorem St.dr {w0 w : World} {a : Option Addr} {n : Nat} {l : List (Int × Int)} (h : St w0 w a n l) (k : Nat) : St w0 (w.drewN k) a n l := ⟨h.here.drewN k, below_drewN h.bel k⟩
theorem St.drew {w0 w : World} {a : Option Addr} {n : Nat} {l : List (Int × Int)} (h : St w0 w a n l) : St w0 w.drew a n l := ⟨h.here, h.bel.drew⟩
theorem St.same {w0 w w' : World} {a : Option Addr} {n : Nat} {l : List (Int × Int)} (h : St w0 w a n l) (q : Same w w') : St w0 w' a n l := by obtain ⟨k, rfl⟩ := q; exact h.dr k
theorem Sps.take {B : Nat} {w : World} {a : Option Addr} {n : Nat} {l : List (Int × Int)} (h : Sps B w a n l) (k : Nat) (hk : k ≤ n) : Sps B w a k (V.tk l k) := by
  unfold V.tk
  refine ⟨by rw [List.length_take, h.1]; omega, by have := h.2.1; omega, ?_⟩
  rcases Nat.eq_zero_or_pos k with h0 | h0
  · exact .inl h0
  · obtain ⟨b, off, e, hb, hc⟩ := h.at_ 0 (by omega)
    refine .inr ⟨b, off, e, hb, fun i hi => ?_⟩
    rw [(V.lo_take hi).1, (V.lo_take hi).2]
    exact hc i (by omega)
theorem Sps.drop {B : Nat} {w : World} {b off : Nat} {n : Nat} {l : List (Int × Int)} (h : Sps B w (some ⟨b, off, none⟩) n l) (k : Nat) (hk : k < n) : Sps B w (some ⟨b, off + k * 2, none⟩) (n - k) (V.dr l k) := by
  unfold V.dr
  obtain ⟨b', off', e, hb, hc⟩ := h.at_ 0 (by omega)
  injection e with e
  injection e with e1 e2
  subst e1
  subst e2
  refine ⟨by rw [List.length_drop, h.1], by have := h.2.1; omega, .inr ⟨b, off + k * 2, rfl, hb, fun i hi => ?_⟩⟩
  rw [(V.lo_drop l k i).1, (V.lo_drop l k i).2]
  have := hc (k + i) (by omega)
  rw [show off + (k + i) * 2 = off + k * 2 + i * 2 by omega] at this
  exact this
theorem St.take {w0 w : World} {a : Option Addr} {n : Nat} {l : List (Int × Int)} (h : St w0 w a n l) (k : Nat) (hk : k ≤ n) : St w0 w a k (V.tk l k) := ⟨h.here.take k hk, h.bel⟩
theorem St.drop {w0 w : World} {b off : Nat} {n : Nat} {l : List (Int × Int)} (h : St w0 w (some ⟨b, off, none⟩) n l) (k : Nat) (hk : k < n) : St w0 w (some ⟨b, off + k * 2, none⟩) (n - k) (V.dr l k) := ⟨h.here.drop k hk, h.bel⟩
/-- A struct of two numbers in a block of its own. -/
structure Bx (w : World) (D : Nat) (x y : Int) : Prop where
  c0 : w.cell? ⟨D, 0, none⟩ = some (.int .i64 x)
  c1 : w.cell? ⟨D, 1, none⟩ = some (.int .i64 y)
  lt : D < w.heap.size
theorem Bx.b {w w' : World} {D : Nat} {x y : Int} (h : Bx w D x y) (hb : Below w.heap.size w w') : Bx w' D x y := ⟨(hb.cell (p := ⟨D, 0, none⟩) h.lt).trans h.c0, (hb.cell (p := ⟨D, 1, none⟩) h.lt).trans h.c1, Nat.lt_of_lt_of_le h.lt hb.size⟩
theorem Bx.al {w : World} {D : Nat} {x y : Int} (h : Bx w D x y) (o : Obj) : Bx (w.alloc o) D x y := h.b ((Below.refl _ _).alloc (Nat.le_refl _) o)
theorem Bx.new (w : World) (x y : Int) (t : TypeId) : Bx (w.alloc (.cells #[.int .i64 x, .int .i64 y] t)) w.heap.size x y := ⟨by simp, by simp, by simp⟩
theorem Bx.dr {w : World} {D : Nat} {x y : Int} (h : Bx w D x y) (k : Nat) : Bx (w.drewN k) D x y := ⟨h.c0, h.c1, h.lt⟩
end Go.Proofs.Ytgbbbmljanlogaa
