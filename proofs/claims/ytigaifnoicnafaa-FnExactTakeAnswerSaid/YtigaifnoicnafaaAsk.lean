/-
  Questions and answers (chapter 11): the program's and the model's functions over packets.
-/
import Derived.Test.YtigaifnoicnafaaPacket
import Derived.Test.YtigaifnoicnafaaCopyD
import Derived.Deep.Cut
namespace Go.Proofs.Ytigaifnoicnafaa
open Go.RowKit
set_option linter.unusedVariables false
set_option maxRecDepth 100000
namespace D
/-- An answer is given. -/
def Ak (a b c d e f g h r s lv sp : Int) : Prop := vp a b c d e f g h = true ∧ b = 3 ∧ (0 ≤ lv ∧ lv ≤ 2) ∧ T.vs r = true ∧ T.vs s = true ∧ r ≤ s ∧ 0 ≤ sp ∧ sp ≤ 65535
instance (a b c d e f g h r s lv sp : Int) : Decidable (Ak a b c d e f g h r s lv sp) := by unfold Ak; infer_instance
def ak (a b c d e f g h r s lv sp : Int) : Bool := decide (Ak a b c d e f g h r s lv sp)
theorem ak_of {a b c d e f g h r s lv sp : Int} (k : ak a b c d e f g h r s lv sp = true) : Ak a b c d e f g h r s lv sp := of_decide_eq_true k
theorem ak_yes {a b c d e f g h r s lv sp : Int} (k : Ak a b c d e f g h r s lv sp) : ak a b c d e f g h r s lv sp = true := decide_eq_true k
theorem ak_no {a b c d e f g h r s lv sp : Int} (k : ¬ Ak a b c d e f g h r s lv sp) : ak a b c d e f g h r s lv sp = false := decide_eq_false k
/-- The leap and the stratum of an answer. -/
def le (lv : Int) : Int := if lv = 0 then 3 else 0
def su (lv : Int) : Int := if lv = 0 then 0 else 1
theorem ans_vp {a b c d e f g h r s lv sp : Int} (k : Ak a b c d e f g h r s lv sp) : vp (le lv) 4 (su lv) d sp h r s = true := by
  obtain ⟨k1, k2, k3, k4, k5, k6, k7⟩ := k
  obtain ⟨h1, h2, h3, h4, h5, h6, h7, h8⟩ := vp_of k1
  refine vp_yes ⟨?_, by omega, ?_, h4, k7, h8, k4, k5⟩
  · unfold le; split <;> omega
  · unfold su; split <;> omega
end D
theorem C8.all8 {w : World} {D : Nat} {a b c d e f g h : Int} (k : C8 w D a b c d e f g h) : w.cell? ⟨D, 0, none⟩ = some (.int .i64 a) ∧ w.cell? ⟨D, 1, none⟩ = some (.int .i64 b) ∧ w.cell? ⟨D, 2, none⟩ = some (.int .i64 c) ∧ w.cell? ⟨D, 3, none⟩ = some (.int .i64 d) ∧ w.cell? ⟨D, 4, none⟩ = some (.int .i64 e) ∧ w.cell? ⟨D, 5, none⟩ = some (.int .i64 f) ∧ w.cell? ⟨D, 6, none⟩ = some (.int .i64 g) ∧ w.cell? ⟨D, 7, none⟩ = some (.int .i64 h) := ⟨k.c0, k.c1, k.c2, k.c3, k.c4, k.c5, k.c6, k.c7⟩
/-- A block of eight zeros that may be written. -/
structure E8 (w : World) (E : Nat) : Prop where
  c0 : w.cell? ⟨E, 0, none⟩ = some (.int .i64 0)
  c1 : w.cell? ⟨E, 1, none⟩ = some (.int .i64 0)
  c2 : w.cell? ⟨E, 2, none⟩ = some (.int .i64 0)
  c3 : w.cell? ⟨E, 3, none⟩ = some (.int .i64 0)
  c4 : w.cell? ⟨E, 4, none⟩ = some (.int .i64 0)
  c5 : w.cell? ⟨E, 5, none⟩ = some (.int .i64 0)
  c6 : w.cell? ⟨E, 6, none⟩ = some (.int .i64 0)
  c7 : w.cell? ⟨E, 7, none⟩ = some (.int .i64 0)
  f0 : w.frozen? ⟨E, 0, none⟩ = false
  f1 : w.frozen? ⟨E, 1, none⟩ = false
  f2 : w.frozen? ⟨E, 2, none⟩ = false
  f3 : w.frozen? ⟨E, 3, none⟩ = false
  f4 : w.frozen? ⟨E, 4, none⟩ = false
  f5 : w.frozen? ⟨E, 5, none⟩ = false
  f6 : w.frozen? ⟨E, 6, none⟩ = false
  f7 : w.frozen? ⟨E, 7, none⟩ = false
  lt : E < w.heap.size
theorem E8.b {w w' : World} {E : Nat} (h : E8 w E) (q : Below w.heap.size w w') : E8 w' E :=
  ⟨(q.cell (p := ⟨E, 0, none⟩) h.lt).trans h.c0, (q.cell (p := ⟨E, 1, none⟩) h.lt).trans h.c1, (q.cell (p := ⟨E, 2, none⟩) h.lt).trans h.c2, (q.cell (p := ⟨E, 3, none⟩) h.lt).trans h.c3, (q.cell (p := ⟨E, 4, none⟩) h.lt).trans h.c4, (q.cell (p := ⟨E, 5, none⟩) h.lt).trans h.c5, (q.cell (p := ⟨E, 6, none⟩) h.lt).trans h.c6, (q.cell (p := ⟨E, 7, none⟩) h.lt).trans h.c7,
    (q.frozen (p := ⟨E, 0, none⟩) h.lt).trans h.f0, (q.frozen (p := ⟨E, 1, none⟩) h.lt).trans h.f1, (q.frozen (p := ⟨E, 2, none⟩) h.lt).trans h.f2, (q.frozen (p := ⟨E, 3, none⟩) h.lt).trans h.f3, (q.frozen (p := ⟨E, 4, none⟩) h.lt).trans h.f4, (q.frozen (p := ⟨E, 5, none⟩) h.lt).trans h.f5, (q.frozen (p := ⟨E, 6, none⟩) h.lt).trans h.f6, (q.frozen (p := ⟨E, 7, none⟩) h.lt).trans h.f7, Nat.lt_of_lt_of_le h.lt q.size⟩
theorem E8.al {w : World} {E : Nat} (h : E8 w E) (o : Obj) : E8 (w.alloc o) E := h.b ((Below.refl _ _).alloc (Nat.le_refl _) o)
theorem E8.new (w : World) (t : TypeId) : E8 (w.alloc (.cells #[.int .i64 0, .int .i64 0, .int .i64 0, .int .i64 0, .int .i64 0, .int .i64 0, .int .i64 0, .int .i64 0] t)) w.heap.size :=
  ⟨by simp, by simp, by simp, by simp, by simp, by simp, by simp, by simp, by simp, by simp, by simp, by simp, by simp, by simp, by simp, by simp, by simp⟩
theorem fin8 {B : Nat} {w W : World} {E : Nat} (h : Below B w W) (hE : B ≤ E) (x0 x1 x2 x3 x4 x5 x6 x7 : Value) : Below B w ((((((((W.setCell ⟨E, 0, none⟩ x0).setCell ⟨E, 1, none⟩ x1).setCell ⟨E, 2, none⟩ x2).setCell ⟨E, 3, none⟩ x3).setCell ⟨E, 4, none⟩ x4).setCell ⟨E, 5, none⟩ x5).setCell ⟨E, 6, none⟩ x6).setCell ⟨E, 7, none⟩ x7) :=
  (((((((h.setCell (p := ⟨E, 0, none⟩) hE _).setCell (p := ⟨E, 1, none⟩) hE _).setCell (p := ⟨E, 2, none⟩) hE _).setCell (p := ⟨E, 3, none⟩) hE _).setCell (p := ⟨E, 4, none⟩) hE _).setCell (p := ⟨E, 5, none⟩) hE _).setCell (p := ⟨E, 6, none⟩) hE _).setCell (p := ⟨E, 7, none⟩) hE _
theorem AS_impl_no (n : Int) (hv : T.vs n = false) (w : World) : Calls Try.prog 13 #[.int .i64 n] w fun e w' => e = .returned (.agg #[.int .i64 0, .int .i64 0, .int .i64 0, .int .i64 0, .int .i64 0, .int .i64 0, .int .i64 0, .int .i64 0]) ∧ Below w.heap.size w w' := by
  have k1 := fun w' => vst_impl n w'
  simp only [hv] at k1
  have K1 := Lib.hid k1
  have z := E8.new w 25
  have bA := (Below.refl w.heap.size w).alloc (Nat.le_refl _) (.cells #[.int .i64 0, .int .i64 0, .int .i64 0, .int .i64 0, .int .i64 0, .int .i64 0, .int .i64 0, .int .i64 0] 25)
  clear k1 hv
  go_enter Try.func13, Try.ntmps13
  go_wp2_with fail
  generalize w.alloc (.cells #[.int .i64 0, .int .i64 0, .int .i64 0, .int .i64 0, .int .i64 0, .int .i64 0, .int .i64 0, .int .i64 0] 25) = W at z bA ⊢
  obtain ⟨c0, c1, c2, c3, c4, c5, c6, c7, f0, f1, f2, f3, f4, f5, f6, f7, -⟩ := z
  refine (K1.out _).mono ?_
  rintro e w' ⟨rfl, rfl⟩
  have HN := Lib.hid (fin8 bA (Nat.le_refl _) (.int .i64 0) (.int .i64 0) (.int .i64 0) (.int .i64 0) (.int .i64 0) (.int .i64 0) (.int .i64 0) (.int .i64 0))
  clear bA
  go_wp2
  exact bodyPost_ret (v := .agg #[.int .i64 0, .int .i64 0, .int .i64 0, .int .i64 0, .int .i64 0, .int .i64 0, .int .i64 0, .int .i64 0]) (by simp [results, Try.results13, go_sem, c0, c1, c2, c3, c4, c5, c6, c7]) rfl ⟨rfl, HN.out⟩
theorem AS_impl_yes (n : Int) (hv : T.vs n = true) (w : World) : Calls Try.prog 13 #[.int .i64 n] w fun e w' => e = .returned (.agg #[.int .i64 0, .int .i64 3, .int .i64 0, .int .i64 0, .int .i64 0, .int .i64 0, .int .i64 0, .int .i64 n]) ∧ Below w.heap.size w w' := by
  have k1 := fun w' => vst_impl n w'
  simp only [hv] at k1
  have K1 := Lib.hid k1
  have z := E8.new w 25
  have bA := (Below.refl w.heap.size w).alloc (Nat.le_refl _) (.cells #[.int .i64 0, .int .i64 0, .int .i64 0, .int .i64 0, .int .i64 0, .int .i64 0, .int .i64 0, .int .i64 0] 25)
  clear k1 hv
  go_enter Try.func13, Try.ntmps13
  go_wp2_with fail
  generalize w.alloc (.cells #[.int .i64 0, .int .i64 0, .int .i64 0, .int .i64 0, .int .i64 0, .int .i64 0, .int .i64 0, .int .i64 0] 25) = W at z bA ⊢
  obtain ⟨c0, c1, c2, c3, c4, c5, c6, c7, f0, f1, f2, f3, f4, f5, f6, f7, -⟩ := z
  refine (K1.out _).mono ?_
  rintro e w' ⟨rfl, rfl⟩
  have HN := Lib.hid (fin8 bA (Nat.le_refl _) (.int .i64 0) (.int .i64 3) (.int .i64 0) (.int .i64 0) (.int .i64 0) (.int .i64 0) (.int .i64 0) (.int .i64 n))
  clear bA
  go_wp2
  exact bodyPost_ret (v := .agg #[.int .i64 0, .int .i64 3, .int .i64 0, .int .i64 0, .int .i64 0, .int .i64 0, .int .i64 0, .int .i64 n]) (by simp [results, Try.results13, go_sem, c0, c1, c2, c3, c4, c5, c6, c7]) rfl ⟨rfl, HN.out⟩
theorem AS_spec_no (n : Int) (hv : T.vs n = false) (w : World) : Calls Try.prog 14 #[.int .i64 n] w fun e w' => e = .returned (.agg #[.int .i64 0, .int .i64 0, .int .i64 0, .int .i64 0, .int .i64 0, .int .i64 0, .int .i64 0, .int .i64 0]) ∧ Below w.heap.size w w' := by
  have k1 := fun w' => vst_spec n w'
  simp only [hv] at k1
  have K1 := Lib.hid k1
  have z := E8.new w 25
  have bA := (Below.refl w.heap.size w).alloc (Nat.le_refl _) (.cells #[.int .i64 0, .int .i64 0, .int .i64 0, .int .i64 0, .int .i64 0, .int .i64 0, .int .i64 0, .int .i64 0] 25)
  clear k1 hv
  go_enter Try.func14, Try.ntmps14
  go_wp2_with fail
  generalize w.alloc (.cells #[.int .i64 0, .int .i64 0, .int .i64 0, .int .i64 0, .int .i64 0, .int .i64 0, .int .i64 0, .int .i64 0] 25) = W at z bA ⊢
  obtain ⟨c0, c1, c2, c3, c4, c5, c6, c7, f0, f1, f2, f3, f4, f5, f6, f7, -⟩ := z
  refine (K1.out _).mono ?_
  rintro e w' ⟨rfl, rfl⟩
  have HN := Lib.hid (fin8 bA (Nat.le_refl _) (.int .i64 0) (.int .i64 0) (.int .i64 0) (.int .i64 0) (.int .i64 0) (.int .i64 0) (.int .i64 0) (.int .i64 0))
  clear bA
  go_wp2
  exact bodyPost_ret (v := .agg #[.int .i64 0, .int .i64 0, .int .i64 0, .int .i64 0, .int .i64 0, .int .i64 0, .int .i64 0, .int .i64 0]) (by simp [results, Try.results14, go_sem, c0, c1, c2, c3, c4, c5, c6, c7]) rfl ⟨rfl, HN.out⟩
theorem AS_spec_yes (n : Int) (hv : T.vs n = true) (w : World) : Calls Try.prog 14 #[.int .i64 n] w fun e w' => e = .returned (.agg #[.int .i64 0, .int .i64 3, .int .i64 0, .int .i64 0, .int .i64 0, .int .i64 0, .int .i64 0, .int .i64 n]) ∧ Below w.heap.size w w' := by
  have k1 := fun w' => vst_spec n w'
  simp only [hv] at k1
  have K1 := Lib.hid k1
  have z := E8.new w 25
  have bA := (Below.refl w.heap.size w).alloc (Nat.le_refl _) (.cells #[.int .i64 0, .int .i64 0, .int .i64 0, .int .i64 0, .int .i64 0, .int .i64 0, .int .i64 0, .int .i64 0] 25)
  clear k1 hv
  go_enter Try.func14, Try.ntmps14
  go_wp2_with fail
  generalize w.alloc (.cells #[.int .i64 0, .int .i64 0, .int .i64 0, .int .i64 0, .int .i64 0, .int .i64 0, .int .i64 0, .int .i64 0] 25) = W at z bA ⊢
  obtain ⟨c0, c1, c2, c3, c4, c5, c6, c7, f0, f1, f2, f3, f4, f5, f6, f7, -⟩ := z
  refine (K1.out _).mono ?_
  rintro e w' ⟨rfl, rfl⟩
  have HN := Lib.hid (fin8 bA (Nat.le_refl _) (.int .i64 0) (.int .i64 3) (.int .i64 0) (.int .i64 0) (.int .i64 0) (.int .i64 0) (.int .i64 0) (.int .i64 n))
  clear bA
  go_wp2
  exact bodyPost_ret (v := .agg #[.int .i64 0, .int .i64 3, .int .i64 0, .int .i64 0, .int .i64 0, .int .i64 0, .int .i64 0, .int .i64 n]) (by simp [results, Try.results14, go_sem, c0, c1, c2, c3, c4, c5, c6, c7]) rfl ⟨rfl, HN.out⟩
end Go.Proofs.Ytigaifnoicnafaa
