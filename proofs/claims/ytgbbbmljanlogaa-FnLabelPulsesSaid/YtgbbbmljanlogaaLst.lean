/-
  A list of numbers in memory (Lst), the world that has only drawn (Same), spec.toInt.
-/
import Derived.Test.YtgbbbmljanlogaaCal
import Derived.Test.YtgbbbmljanlogaaLMath
namespace Go.Proofs.Ytgbbbmljanlogaa
open Go.RowKit
set_option linter.unusedVariables false
/-- A list of numbers in memory, in blocks below B. -/
def Lst (B : Nat) (w : World) (a : Option Addr) (n : Nat) (l : List Int) : Prop :=
  l.length = n ∧ n ≤ 1048576 ∧ (n = 0 ∨ ∃ b off, a = some ⟨b, off, none⟩ ∧ b < B ∧ ∀ i, i < n → w.cell? ⟨b, off + i, none⟩ = some (.int .i64 (L.g l i)))
theorem Lst.drewN {B : Nat} {w : World} {a : Option Addr} {n : Nat} {l : List Int} (h : Lst B w a n l) (k : Nat) : Lst B (w.drewN k) a n l := h
theorem Lst.drew {B : Nat} {w : World} {a : Option Addr} {n : Nat} {l : List Int} (h : Lst B w a n l) : Lst B w.drew a n l := h
theorem Lst.below {B : Nat} {w w' : World} {a : Option Addr} {n : Nat} {l : List Int} (h : Lst B w a n l) (hb : Below B w w') : Lst B w' a n l :=
  ⟨h.1, h.2.1, h.2.2.imp_right fun ⟨b, off, e, hlt, hc⟩ => ⟨b, off, e, hlt, fun i hi => (hb.cell (p := ⟨b, off + i, none⟩) hlt).trans (hc i hi)⟩⟩
theorem Lst.more {B B' : Nat} {w : World} {a : Option Addr} {n : Nat} {l : List Int} (h : Lst B w a n l) (hb : B ≤ B') : Lst B' w a n l :=
  ⟨h.1, h.2.1, h.2.2.imp_right fun ⟨b, off, e, hlt, hc⟩ => ⟨b, off, e, by omega, hc⟩⟩
theorem Lst.none_ (B : Nat) (w : World) (a : Option Addr) : Lst B w a 0 [] := ⟨rfl, by omega, .inl rfl⟩
theorem Lst.at_ {B : Nat} {w : World} {a : Option Addr} {n : Nat} {l : List Int} (h : Lst B w a n l) (i : Nat) (hi : i < n) : ∃ b off, a = some ⟨b, off, none⟩ ∧ b < B ∧ ∀ i, i < n → w.cell? ⟨b, off + i, none⟩ = some (.int .i64 (L.g l i)) := by
  rcases h.2.2 with h0 | h0
  · omega
  · exact h0
theorem Lst.take {B : Nat} {w : World} {a : Option Addr} {n : Nat} {l : List Int} (h : Lst B w a n l) (k : Nat) (hk : k ≤ n) : Lst B w a k (l.take k) := by
  refine ⟨by rw [List.length_take, h.1]; omega, by have := h.2.1; omega, ?_⟩
  rcases Nat.eq_zero_or_pos k with h0 | h0
  · exact .inl h0
  · obtain ⟨b, off, e, hb, hc⟩ := h.at_ 0 (by omega)
    refine .inr ⟨b, off, e, hb, fun i hi => ?_⟩
    rw [hc i (by omega)]
    unfold L.g
    rw [List.getD_eq_getElem?_getD, List.getD_eq_getElem?_getD, List.getElem?_take_of_lt hi]

/-- The world is as it was, but for draws. -/
def Same (w w' : World) : Prop := ∃ q, w' = w.drewN q
theorem Same.refl (w : World) : Same w w := ⟨0, rfl⟩
theorem Same.drewN {a w : World} (h : Same a w) (q : Nat) : Same a (w.drewN q) := by obtain ⟨p, rfl⟩ := h; exact ⟨p + q, by rw [World.drewN_drewN]⟩
theorem Same.trans {a b c : World} (h : Same a b) (k : Same b c) : Same a c := by obtain ⟨q, rfl⟩ := k; exact h.drewN q
theorem Lst.same {B : Nat} {w w' : World} {a : Option Addr} {n : Nat} {l : List Int} (h : Lst B w a n l) (q : Same w w') : Lst B w' a n l := by obtain ⟨p, rfl⟩ := q; exact h
theorem Same.below {B : Nat} {w w' : World} (q : Same w w') : Below B w w' := by obtain ⟨p, rfl⟩ := q; exact below_drewN (Below.refl _ _) p
theorem bel_same {B : Nat} {a w w' : World} (h : Below B a w) (q : Same w w') : Below B a w' := h.trans q.below
theorem qsL {P : Program} {f : FuncId} {args : Array Value} {w : World} {n : Nat} {v : Value} (h : ∀ w', Calls P f args w' fun e w'' => e = .returned v ∧ w' = w'') :
    Calls P f args (w.drewN n) fun e w'' => e = .returned v ∧ ∃ m, w'' = w.drewN m := Calls.quiet_of_same ((h _).mono fun _ _ ⟨a, b⟩ => ⟨a, b.symm⟩)
end Go.Proofs.Ytgbbbmljanlogaa
