/-
  Samples in memory, and what chapter 6 says of them: the model's functions.
-/
import Derived.Test.YtoaaedbfjbgakaaLst
import Derived.Test.YtoaaedbfjbgakaaQMath
import Derived.Deep.RegionHeld3
namespace Go.Proofs.Ytoaaedbfjbgakaa
open Go.RowKit
set_option linter.unusedVariables false
/-- Where the cells of samples lie. -/
def SmCells (w : World) (b off n : Nat) (l : List Q.Sm) : Prop := ∀ i, i < n → w.cell? ⟨b, off + i * 3, none⟩ = some (.int .i64 (Q.of l i)) ∧ w.cell? ⟨b, off + i * 3 + 1, none⟩ = some (.int .i64 (Q.de l i)) ∧ w.cell? ⟨b, off + i * 3 + 2, none⟩ = some (.int .i64 (Q.tm l i))
/-- A list of samples in memory, in blocks below B. -/
def Sms (B : Nat) (w : World) (a : Option Addr) (n : Nat) (l : List Q.Sm) : Prop :=
  l.length = n ∧ n ≤ 1048576 ∧ (n = 0 ∨ ∃ b off, a = some ⟨b, off, none⟩ ∧ b < B ∧ SmCells w b off n l)
theorem Sms.drewN {B : Nat} {w : World} {a : Option Addr} {n : Nat} {l : List Q.Sm} (h : Sms B w a n l) (k : Nat) : Sms B (w.drewN k) a n l := h
theorem Sms.drew {B : Nat} {w : World} {a : Option Addr} {n : Nat} {l : List Q.Sm} (h : Sms B w a n l) : Sms B w.drew a n l := h
theorem Sms.same {B : Nat} {w w' : World} {a : Option Addr} {n : Nat} {l : List Q.Sm} (h : Sms B w a n l) (q : Same w w') : Sms B w' a n l := by obtain ⟨p, rfl⟩ := q; exact h
theorem Sms.below {B : Nat} {w w' : World} {a : Option Addr} {n : Nat} {l : List Q.Sm} (h : Sms B w a n l) (hb : Below B w w') : Sms B w' a n l :=
  ⟨h.1, h.2.1, h.2.2.imp_right fun ⟨b, off, e, hlt, hc⟩ => ⟨b, off, e, hlt, fun i hi => ⟨(hb.cell (p := ⟨b, off + i * 3, none⟩) hlt).trans (hc i hi).1, (hb.cell (p := ⟨b, off + i * 3 + 1, none⟩) hlt).trans (hc i hi).2.1, (hb.cell (p := ⟨b, off + i * 3 + 2, none⟩) hlt).trans (hc i hi).2.2⟩⟩⟩
theorem Sms.more {B B' : Nat} {w : World} {a : Option Addr} {n : Nat} {l : List Q.Sm} (h : Sms B w a n l) (hb : B ≤ B') : Sms B' w a n l :=
  ⟨h.1, h.2.1, h.2.2.imp_right fun ⟨b, off, e, hlt, hc⟩ => ⟨b, off, e, by omega, hc⟩⟩
theorem Sms.at_ {B : Nat} {w : World} {a : Option Addr} {n : Nat} {l : List Q.Sm} (h : Sms B w a n l) (i : Nat) (hi : i < n) : ∃ b off, a = some ⟨b, off, none⟩ ∧ b < B ∧ SmCells w b off n l := by
  rcases h.2.2 with h0 | h0
  · omega
  · exact h0
end Go.Proofs.Ytoaaedbfjbgakaa
