/-
  Copies of fixes and their comparison: equal for equal fixes; what was there is as it was.
-/
import Derived.Test.YtpfdjmffgbbmdaaGreatDoorFix
namespace Go.Proofs.YtpfdjmffgbbmdaaGreatDoor
open Go.RowKit
set_option linter.unusedVariables false
/-- The five cells of a block may be written. -/
structure F5 (w : World) (b : Nat) : Prop where
  f0 : w.frozen? ⟨b, 0, none⟩ = false
  f1 : w.frozen? ⟨b, 1, none⟩ = false
  f2 : w.frozen? ⟨b, 2, none⟩ = false
  f3 : w.frozen? ⟨b, 3, none⟩ = false
  f4 : w.frozen? ⟨b, 4, none⟩ = false
  lt : b < w.heap.size
theorem F5.b {w w' : World} {b : Nat} (h : F5 w b) (hb : Below w.heap.size w w') : F5 w' b :=
  ⟨(hb.frozen (p := ⟨b, 0, none⟩) h.lt).trans h.f0, (hb.frozen (p := ⟨b, 1, none⟩) h.lt).trans h.f1, (hb.frozen (p := ⟨b, 2, none⟩) h.lt).trans h.f2, (hb.frozen (p := ⟨b, 3, none⟩) h.lt).trans h.f3, (hb.frozen (p := ⟨b, 4, none⟩) h.lt).trans h.f4, Nat.lt_of_lt_of_le h.lt hb.size⟩
theorem F5.new (w : World) (y m d s n : Int) (t : TypeId) : F5 (w.alloc (.cells #[.int .i64 y, .int .i64 m, .int .i64 d, .int .i64 s, .int .i64 n] t)) w.heap.size := ⟨by simp, by simp, by simp, by simp, by simp, by simp⟩
theorem F5.al {w : World} {b : Nat} (h : F5 w b) (o : Obj) : F5 (w.alloc o) b := h.b ((Below.refl _ _).alloc (Nat.le_refl _) _)
end Go.Proofs.YtpfdjmffgbbmdaaGreatDoor
