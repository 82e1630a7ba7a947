/-
  Packets: the laws' own small functions over packets.
-/
import Derived.Test.YtegkmdinnkbkiaaPacket
namespace Go.Proofs.Ytegkmdinnkbkiaa
open Go.RowKit
set_option linter.unusedVariables false
set_option maxRecDepth 100000
/-- Eight numbers in a block of their own. -/
structure C8 (w : World) (D : Nat) (a b c d e f g h : Int) : Prop where
  c0 : w.cell? ⟨D, 0, none⟩ = some (.int .i64 a)
  c1 : w.cell? ⟨D, 1, none⟩ = some (.int .i64 b)
  c2 : w.cell? ⟨D, 2, none⟩ = some (.int .i64 c)
  c3 : w.cell? ⟨D, 3, none⟩ = some (.int .i64 d)
  c4 : w.cell? ⟨D, 4, none⟩ = some (.int .i64 e)
  c5 : w.cell? ⟨D, 5, none⟩ = some (.int .i64 f)
  c6 : w.cell? ⟨D, 6, none⟩ = some (.int .i64 g)
  c7 : w.cell? ⟨D, 7, none⟩ = some (.int .i64 h)
  lt : D < w.heap.size
section
variable {w w' : World} {D : Nat} {a b c d e f g h : Int}
theorem C8.bw (k : C8 w D a b c d e f g h) (hb : Below w.heap.size w w') : C8 w' D a b c d e f g h :=
  ⟨(hb.cell (p := ⟨D, 0, none⟩) k.lt).trans k.c0, (hb.cell (p := ⟨D, 1, none⟩) k.lt).trans k.c1, (hb.cell (p := ⟨D, 2, none⟩) k.lt).trans k.c2, (hb.cell (p := ⟨D, 3, none⟩) k.lt).trans k.c3,
    (hb.cell (p := ⟨D, 4, none⟩) k.lt).trans k.c4, (hb.cell (p := ⟨D, 5, none⟩) k.lt).trans k.c5, (hb.cell (p := ⟨D, 6, none⟩) k.lt).trans k.c6, (hb.cell (p := ⟨D, 7, none⟩) k.lt).trans k.c7, Nat.lt_of_lt_of_le k.lt hb.size⟩
theorem C8.al (k : C8 w D a b c d e f g h) (o : Obj) : C8 (w.alloc o) D a b c d e f g h := k.bw ((Below.refl _ _).alloc (Nat.le_refl _) o)
theorem C8.dr (k : C8 w D a b c d e f g h) (q : Nat) : C8 (w.drewN q) D a b c d e f g h := ⟨k.c0, k.c1, k.c2, k.c3, k.c4, k.c5, k.c6, k.c7, k.lt⟩
end
theorem C8.new (w : World) (a b c d e f g h : Int) (t : TypeId) : C8 (w.alloc (.cells #[.int .i64 a, .int .i64 b, .int .i64 c, .int .i64 d, .int .i64 e, .int .i64 f, .int .i64 g, .int .i64 h] t)) w.heap.size a b c d e f g h :=
  ⟨by simp, by simp, by simp, by simp, by simp, by simp, by simp, by simp, by simp⟩
theorem eqPacket_same (a b c d e f g h : Int) (w : World) : Calls Try.prog 15 #[.agg #[.int .i64 a, .int .i64 b, .int .i64 c, .int .i64 d, .int .i64 e, .int .i64 f, .int .i64 g, .int .i64 h], .agg #[.int .i64 a, .int .i64 b, .int .i64 c, .int .i64 d, .int .i64 e, .int .i64 f, .int .i64 g, .int .i64 h]] w fun e' w' => e' = .returned (.bool true) ∧ Below w.heap.size w w' := by
  go_enter Try.func15, Try.ntmps15
  go_wp2
  go_ret
  refine ⟨rfl, ?_⟩
  repeat (first | exact Below.refl _ _ | refine Below.alloc ?_ (by first | exact Nat.le_refl _ | (simp; done) | (simp; omega)) _)
end Go.Proofs.Ytegkmdinnkbkiaa
