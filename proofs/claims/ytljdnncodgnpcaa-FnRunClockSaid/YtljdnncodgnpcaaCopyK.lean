/-
  Clocks: the laws' own small functions over clocks, and a clock that is carried through a law.
-/
import Derived.Test.YtljdnncodgnpcaaClock
namespace Go.Proofs.Ytljdnncodgnpcaa
open Go.RowKit
set_option linter.unusedVariables false
set_option maxRecDepth 100000
/-- A clock in a block of the law's own, and what lay there before is as it was. -/
structure Kq (w0 w : World) (D : Nat) (o r a : Int) : Prop where
  here : C3 w D o r a
  bel : Below w0.heap.size w0 w
theorem Kq.b {w0 w w' : World} {D : Nat} {o r a : Int} (h : Kq w0 w D o r a) (hb : Below w.heap.size w w') : Kq w0 w' D o r a := ⟨h.here.b hb, h.bel.trans (hb.mono h.bel.size)⟩
theorem Kq.al {w0 w : World} {D : Nat} {o r a : Int} (h : Kq w0 w D o r a) (x : Obj) : Kq w0 (w.alloc x) D o r a := h.b ((Below.refl _ _).alloc (Nat.le_refl _) x)
theorem Kq.dr {w0 w : World} {D : Nat} {o r a : Int} (h : Kq w0 w D o r a) (k : Nat) : Kq w0 (w.drewN k) D o r a := ⟨h.here.dr k, below_drewN h.bel k⟩
theorem Kq.new {w0 w : World} (h : Below w0.heap.size w0 w) (o r a : Int) (t : TypeId) : Kq w0 (w.alloc (.cells #[.int .i64 o, .int .i64 r, .int .i64 a] t)) w.heap.size o r a := ⟨C3.new w o r a t, h.alloc h.size _⟩
theorem size_laws (x : Int) (hx : -1000000000 ≤ x ∧ x ≤ 1000000000) (w : World) : Calls Try.prog 44 #[.int .i64 x] w fun e w' => e = .returned (.int .i64 (K.abs x)) ∧ w = w' := by
  rcases Int.lt_or_le x 0 with h | h
  · rw [show K.abs x = -x from if_pos h]
    go_enter Try.func44, Try.ntmps44
    go_wp2
    go_ret
    exact ⟨rfl, rfl⟩
  · rw [show K.abs x = x from if_neg (by omega)]
    have h2 : ¬ x < 0 := by omega
    go_enter Try.func44, Try.ntmps44
    go_wp2
    go_ret
    exact ⟨rfl, rfl⟩
end Go.Proofs.Ytljdnncodgnpcaa
