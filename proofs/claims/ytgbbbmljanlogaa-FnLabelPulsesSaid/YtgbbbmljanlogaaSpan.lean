/-
  Spans in memory, and what chapter 5 says of them: the model's functions.
-/
import Derived.Test.YtgbbbmljanlogaaLst
import Derived.Test.YtgbbbmljanlogaaVMath
import Derived.Deep.RegionHeld3
namespace Go.Proofs.Ytgbbbmljanlogaa
open Go.RowKit
set_option linter.unusedVariables false
/-- A list of spans in memory, in blocks below B. -/
def Sps (B : Nat) (w : World) (a : Option Addr) (n : Nat) (l : List (Int × Int)) : Prop :=
  l.length = n ∧ n ≤ 1048576 ∧ (n = 0 ∨ ∃ b off, a = some ⟨b, off, none⟩ ∧ b < B ∧ ∀ i, i < n → w.cell? ⟨b, off + i * 2, none⟩ = some (.int .i64 (V.lo l i)) ∧ w.cell? ⟨b, off + i * 2 + 1, none⟩ = some (.int .i64 (V.hi l i)))
theorem Sps.drewN {B : Nat} {w : World} {a : Option Addr} {n : Nat} {l : List (Int × Int)} (h : Sps B w a n l) (k : Nat) : Sps B (w.drewN k) a n l := h
theorem Sps.drew {B : Nat} {w : World} {a : Option Addr} {n : Nat} {l : List (Int × Int)} (h : Sps B w a n l) : Sps B w.drew a n l := h
theorem Sps.same {B : Nat} {w w' : World} {a : Option Addr} {n : Nat} {l : List (Int × Int)} (h : Sps B w a n l) (q : Same w w') : Sps B w' a n l := by obtain ⟨p, rfl⟩ := q; exact h
theorem Sps.below {B : Nat} {w w' : World} {a : Option Addr} {n : Nat} {l : List (Int × Int)} (h : Sps B w a n l) (hb : Below B w w') : Sps B w' a n l :=
  ⟨h.1, h.2.1, h.2.2.imp_right fun ⟨b, off, e, hlt, hc⟩ => ⟨b, off, e, hlt, fun i hi => ⟨(hb.cell (p := ⟨b, off + i * 2, none⟩) hlt).trans (hc i hi).1, (hb.cell (p := ⟨b, off + i * 2 + 1, none⟩) hlt).trans (hc i hi).2⟩⟩⟩
theorem Sps.more {B B' : Nat} {w : World} {a : Option Addr} {n : Nat} {l : List (Int × Int)} (h : Sps B w a n l) (hb : B ≤ B') : Sps B' w a n l :=
  ⟨h.1, h.2.1, h.2.2.imp_right fun ⟨b, off, e, hlt, hc⟩ => ⟨b, off, e, by omega, hc⟩⟩
theorem Sps.at_ {B : Nat} {w : World} {a : Option Addr} {n : Nat} {l : List (Int × Int)} (h : Sps B w a n l) (i : Nat) (hi : i < n) : ∃ b off, a = some ⟨b, off, none⟩ ∧ b < B ∧ ∀ i, i < n → w.cell? ⟨b, off + i * 2, none⟩ = some (.int .i64 (V.lo l i)) ∧ w.cell? ⟨b, off + i * 2 + 1, none⟩ = some (.int .i64 (V.hi l i)) := by
  rcases h.2.2 with h0 | h0
  · omega
  · exact h0
theorem two_below {w w1 : World} {u v : Value} {t : TypeId} (b : Below (w.heap.size + 1) (w.alloc (Obj.cells #[u, v] t)) w1) : w1.cell? ⟨w.heap.size, 0, none⟩ = some u ∧ w1.cell? ⟨w.heap.size, 1, none⟩ = some v ∧ w1.frozen? ⟨w.heap.size, 0, none⟩ = false ∧ w1.frozen? ⟨w.heap.size, 1, none⟩ = false :=
  ⟨(b.cell (p := ⟨w.heap.size, 0, none⟩) (Nat.lt_succ_self _)).trans (by simp), (b.cell (p := ⟨w.heap.size, 1, none⟩) (Nat.lt_succ_self _)).trans (by simp), (b.frozen (p := ⟨w.heap.size, 0, none⟩) (Nat.lt_succ_self _)).trans (by simp), (b.frozen (p := ⟨w.heap.size, 1, none⟩) (Nat.lt_succ_self _)).trans (by simp)⟩
end Go.Proofs.Ytgbbbmljanlogaa
