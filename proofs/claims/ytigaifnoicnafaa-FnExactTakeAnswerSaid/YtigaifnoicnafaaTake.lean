/-
  Answers that are taken (chapter 11): the program's and the model's functions.
-/
import Derived.Test.YtigaifnoicnafaaAsk
namespace Go.Proofs.Ytigaifnoicnafaa
open Go.RowKit
set_option linter.unusedVariables false
set_option maxRecDepth 100000
namespace D
/-- An answer to the question at q. -/
def An (q a b c d u f g k : Int) : Prop := vp a b c d u f g k = true ∧ b = 4 ∧ f = q ∧ ¬ k < g ∧ ¬ c = 0 ∧ ¬ a = 3
instance (q a b c d u f g k : Int) : Decidable (An q a b c d u f g k) := by unfold An; infer_instance
def an (q a b c d u f g k : Int) : Bool := decide (An q a b c d u f g k)
theorem an_yes {q a b c d u f g k : Int} (h : An q a b c d u f g k) : an q a b c d u f g k = true := decide_eq_true h
theorem an_no {q a b c d u f g k : Int} (h : ¬ An q a b c d u f g k) : an q a b c d u f g k = false := decide_eq_false h
theorem an_of {q a b c d u f g k : Int} (h : an q a b c d u f g k = true) : An q a b c d u f g k := of_decide_eq_true h
end D
/-- Four numbers in a block of the call's own. -/
structure Q4 (w : World) (E : Nat) (x0 x1 x2 x3 : Int) : Prop where
  c0 : w.cell? ⟨E, 0, none⟩ = some (.int .i64 x0)
  c1 : w.cell? ⟨E, 1, none⟩ = some (.int .i64 x1)
  c2 : w.cell? ⟨E, 2, none⟩ = some (.int .i64 x2)
  c3 : w.cell? ⟨E, 3, none⟩ = some (.int .i64 x3)
  f0 : w.frozen? ⟨E, 0, none⟩ = false
  f1 : w.frozen? ⟨E, 1, none⟩ = false
  f2 : w.frozen? ⟨E, 2, none⟩ = false
  f3 : w.frozen? ⟨E, 3, none⟩ = false
  lt : E < w.heap.size
theorem Q4.b {w w' : World} {E : Nat} {x0 x1 x2 x3 : Int} (h : Q4 w E x0 x1 x2 x3) (q : Below w.heap.size w w') : Q4 w' E x0 x1 x2 x3 :=
  ⟨(q.cell (p := ⟨E, 0, none⟩) h.lt).trans h.c0, (q.cell (p := ⟨E, 1, none⟩) h.lt).trans h.c1, (q.cell (p := ⟨E, 2, none⟩) h.lt).trans h.c2, (q.cell (p := ⟨E, 3, none⟩) h.lt).trans h.c3,
    (q.frozen (p := ⟨E, 0, none⟩) h.lt).trans h.f0, (q.frozen (p := ⟨E, 1, none⟩) h.lt).trans h.f1, (q.frozen (p := ⟨E, 2, none⟩) h.lt).trans h.f2, (q.frozen (p := ⟨E, 3, none⟩) h.lt).trans h.f3, Nat.lt_of_lt_of_le h.lt q.size⟩
theorem Q4.new (w : World) (x0 x1 x2 x3 : Int) (t : TypeId) : Q4 (w.alloc (.cells #[.int .i64 x0, .int .i64 x1, .int .i64 x2, .int .i64 x3] t)) w.heap.size x0 x1 x2 x3 :=
  ⟨by simp, by simp, by simp, by simp, by simp, by simp, by simp, by simp, by simp⟩
theorem Q4.lst {w : World} {E : Nat} {x0 x1 x2 x3 : Int} (h : Q4 w E x0 x1 x2 x3) : Lst w.heap.size w (some ⟨E, 0, none⟩) 4 [x0, x1, x2, x3] := by
  refine ⟨rfl, by omega, .inr ⟨E, 0, rfl, h.lt, fun i hi => ?_⟩⟩
  rw [Nat.zero_add]
  rcases i with _ | _ | _ | _ | i
  · exact h.c0
  · exact h.c1
  · exact h.c2
  · exact h.c3
  · omega
/-- What TakeAnswer hands back of an answer. -/
def Taken (w : World) (x0 x1 x2 x3 : Int) (e : Ending) (w' : World) : Prop := ∃ E, w.heap.size ≤ E ∧ e = .returned (.tuple #[.slice (some ⟨E, 0, none⟩) 4 4, .bool true]) ∧ Q4 w' E x0 x1 x2 x3 ∧ Below w.heap.size w w'
set_option maxHeartbeats 2000000 in
theorem ans_p (q a b c d u f g k : Int)  (hp : D.vp a b c d u f g k = false) (w : World) : Calls Try.prog 41 #[.agg #[.int .i64 a, .int .i64 b, .int .i64 c, .int .i64 d, .int .i64 u, .int .i64 f, .int .i64 g, .int .i64 k], .int .i64 q] w fun e w' => e = .returned (.bool false) ∧ Below w.heap.size w w' := by
  have x0 := C8.new w a b c d u f g k 25
  have bA := (Below.refl w.heap.size w).alloc (Nat.le_refl _) (.cells #[.int .i64 a, .int .i64 b, .int .i64 c, .int .i64 d, .int .i64 u, .int .i64 f, .int .i64 g, .int .i64 k] 25)
  have k1 := fun w' => vp_impl a b c d u f g k w'
  simp only [hp] at k1
  have K1 := Lib.hid k1
  clear k1
  go_enter Try.func41, Try.ntmps41
  go_wp2_with fail
  generalize w.alloc (.cells #[.int .i64 a, .int .i64 b, .int .i64 c, .int .i64 d, .int .i64 u, .int .i64 f, .int .i64 g, .int .i64 k] 25) = W at x0 bA ⊢
  refine (K1.out _).mono ?_
  rintro e' w3 ⟨rfl, b3⟩
  have x3 := x0.bw b3
  have bel3 := bA.trans (b3.mono bA.size)
  have t0 := x3.c0
  have t1 := x3.c1
  have t2 := x3.c2
  have t5 := x3.c5
  have t6 := x3.c6
  have t7 := x3.c7
  have hD := x3.lt
  clear x0 bA b3 x3
  go_wp2
  go_ret
  exact ⟨rfl, bel3⟩
set_option maxHeartbeats 2000000 in
theorem ans_b (q a b c d u f g k : Int) (hp : D.vp a b c d u f g k = true) (hb : ¬ b = 4) (w : World) : Calls Try.prog 41 #[.agg #[.int .i64 a, .int .i64 b, .int .i64 c, .int .i64 d, .int .i64 u, .int .i64 f, .int .i64 g, .int .i64 k], .int .i64 q] w fun e w' => e = .returned (.bool false) ∧ Below w.heap.size w w' := by
  have x0 := C8.new w a b c d u f g k 25
  have bA := (Below.refl w.heap.size w).alloc (Nat.le_refl _) (.cells #[.int .i64 a, .int .i64 b, .int .i64 c, .int .i64 d, .int .i64 u, .int .i64 f, .int .i64 g, .int .i64 k] 25)
  have k1 := fun w' => vp_impl a b c d u f g k w'
  simp only [hp] at k1
  have K1 := Lib.hid k1
  clear k1
  have hb1 : (b == 4) = false := by rw [beq_eq_false_iff_ne]; exact hb
  have hb2 : (b != 4) = true := by rw [bne_iff_ne]; exact hb
  clear hb
  go_enter Try.func41, Try.ntmps41
  go_wp2_with fail
  generalize w.alloc (.cells #[.int .i64 a, .int .i64 b, .int .i64 c, .int .i64 d, .int .i64 u, .int .i64 f, .int .i64 g, .int .i64 k] 25) = W at x0 bA ⊢
  refine (K1.out _).mono ?_
  rintro e' w3 ⟨rfl, b3⟩
  have x3 := x0.bw b3
  have bel3 := bA.trans (b3.mono bA.size)
  have t0 := x3.c0
  have t1 := x3.c1
  have t2 := x3.c2
  have t5 := x3.c5
  have t6 := x3.c6
  have t7 := x3.c7
  have hD := x3.lt
  clear x0 bA b3 x3
  go_wp2
  go_ret
  exact ⟨rfl, bel3⟩
set_option maxHeartbeats 2000000 in
theorem ans_f (q a b c d u f g k : Int) (hp : D.vp a b c d u f g k = true) (hb : b = 4) (hf : ¬ f = q) (w : World) : Calls Try.prog 41 #[.agg #[.int .i64 a, .int .i64 b, .int .i64 c, .int .i64 d, .int .i64 u, .int .i64 f, .int .i64 g, .int .i64 k], .int .i64 q] w fun e w' => e = .returned (.bool false) ∧ Below w.heap.size w w' := by
  have x0 := C8.new w a b c d u f g k 25
  have bA := (Below.refl w.heap.size w).alloc (Nat.le_refl _) (.cells #[.int .i64 a, .int .i64 b, .int .i64 c, .int .i64 d, .int .i64 u, .int .i64 f, .int .i64 g, .int .i64 k] 25)
  have k1 := fun w' => vp_impl a b c d u f g k w'
  simp only [hp] at k1
  have K1 := Lib.hid k1
  clear k1
  have hb1 : (b == 4) = true := by rw [beq_iff_eq]; exact hb
  have hb2 : (b != 4) = false := by rw [bne_eq_false_iff_eq]; exact hb
  have hf1 : (f == q) = false := by rw [beq_eq_false_iff_ne]; exact hf
  have hf2 : (f != q) = true := by rw [bne_iff_ne]; exact hf
  clear hb hf
  go_enter Try.func41, Try.ntmps41
  go_wp2_with fail
  generalize w.alloc (.cells #[.int .i64 a, .int .i64 b, .int .i64 c, .int .i64 d, .int .i64 u, .int .i64 f, .int .i64 g, .int .i64 k] 25) = W at x0 bA ⊢
  refine (K1.out _).mono ?_
  rintro e' w3 ⟨rfl, b3⟩
  have x3 := x0.bw b3
  have bel3 := bA.trans (b3.mono bA.size)
  have t0 := x3.c0
  have t1 := x3.c1
  have t2 := x3.c2
  have t5 := x3.c5
  have t6 := x3.c6
  have t7 := x3.c7
  have hD := x3.lt
  clear x0 bA b3 x3
  go_wp2
  go_ret
  exact ⟨rfl, bel3⟩
set_option maxHeartbeats 2000000 in
theorem ans_k (q a b c d u f g k : Int) (hp : D.vp a b c d u f g k = true) (hb : b = 4) (hf : f = q) (hk : k < g) (w : World) : Calls Try.prog 41 #[.agg #[.int .i64 a, .int .i64 b, .int .i64 c, .int .i64 d, .int .i64 u, .int .i64 f, .int .i64 g, .int .i64 k], .int .i64 q] w fun e w' => e = .returned (.bool false) ∧ Below w.heap.size w w' := by
  have x0 := C8.new w a b c d u f g k 25
  have bA := (Below.refl w.heap.size w).alloc (Nat.le_refl _) (.cells #[.int .i64 a, .int .i64 b, .int .i64 c, .int .i64 d, .int .i64 u, .int .i64 f, .int .i64 g, .int .i64 k] 25)
  have k1 := fun w' => vp_impl a b c d u f g k w'
  simp only [hp] at k1
  have K1 := Lib.hid k1
  clear k1
  have hb1 : (b == 4) = true := by rw [beq_iff_eq]; exact hb
  have hb2 : (b != 4) = false := by rw [bne_eq_false_iff_eq]; exact hb
  have hf1 : (f == q) = true := by rw [beq_iff_eq]; exact hf
  have hf2 : (f != q) = false := by rw [bne_eq_false_iff_eq]; exact hf
  clear hb hf
  go_enter Try.func41, Try.ntmps41
  go_wp2_with fail
  generalize w.alloc (.cells #[.int .i64 a, .int .i64 b, .int .i64 c, .int .i64 d, .int .i64 u, .int .i64 f, .int .i64 g, .int .i64 k] 25) = W at x0 bA ⊢
  refine (K1.out _).mono ?_
  rintro e' w3 ⟨rfl, b3⟩
  have x3 := x0.bw b3
  have bel3 := bA.trans (b3.mono bA.size)
  have t0 := x3.c0
  have t1 := x3.c1
  have t2 := x3.c2
  have t5 := x3.c5
  have t6 := x3.c6
  have t7 := x3.c7
  have hD := x3.lt
  clear x0 bA b3 x3
  go_wp2
  go_ret
  exact ⟨rfl, bel3⟩
set_option maxHeartbeats 2000000 in
theorem ans_c (q a b c d u f g k : Int) (hp : D.vp a b c d u f g k = true) (hb : b = 4) (hf : f = q) (hk : ¬ k < g) (hc : c = 0) (w : World) : Calls Try.prog 41 #[.agg #[.int .i64 a, .int .i64 b, .int .i64 c, .int .i64 d, .int .i64 u, .int .i64 f, .int .i64 g, .int .i64 k], .int .i64 q] w fun e w' => e = .returned (.bool false) ∧ Below w.heap.size w w' := by
  have x0 := C8.new w a b c d u f g k 25
  have bA := (Below.refl w.heap.size w).alloc (Nat.le_refl _) (.cells #[.int .i64 a, .int .i64 b, .int .i64 c, .int .i64 d, .int .i64 u, .int .i64 f, .int .i64 g, .int .i64 k] 25)
  have k1 := fun w' => vp_impl a b c d u f g k w'
  simp only [hp] at k1
  have K1 := Lib.hid k1
  clear k1
  have hb1 : (b == 4) = true := by rw [beq_iff_eq]; exact hb
  have hb2 : (b != 4) = false := by rw [bne_eq_false_iff_eq]; exact hb
  have hf1 : (f == q) = true := by rw [beq_iff_eq]; exact hf
  have hf2 : (f != q) = false := by rw [bne_eq_false_iff_eq]; exact hf
  have hc1 : (c == 0) = true := by rw [beq_iff_eq]; exact hc
  have hc2 : (c != 0) = false := by rw [bne_eq_false_iff_eq]; exact hc
  clear hb hf hc
  go_enter Try.func41, Try.ntmps41
  go_wp2_with fail
  generalize w.alloc (.cells #[.int .i64 a, .int .i64 b, .int .i64 c, .int .i64 d, .int .i64 u, .int .i64 f, .int .i64 g, .int .i64 k] 25) = W at x0 bA ⊢
  refine (K1.out _).mono ?_
  rintro e' w3 ⟨rfl, b3⟩
  have x3 := x0.bw b3
  have bel3 := bA.trans (b3.mono bA.size)
  have t0 := x3.c0
  have t1 := x3.c1
  have t2 := x3.c2
  have t5 := x3.c5
  have t6 := x3.c6
  have t7 := x3.c7
  have hD := x3.lt
  clear x0 bA b3 x3
  go_wp2
  go_ret
  exact ⟨rfl, bel3⟩
set_option maxHeartbeats 2000000 in
theorem ans_a (q a b c d u f g k : Int) (hp : D.vp a b c d u f g k = true) (hb : b = 4) (hf : f = q) (hk : ¬ k < g) (hc : ¬ c = 0) (ha : a = 3) (w : World) : Calls Try.prog 41 #[.agg #[.int .i64 a, .int .i64 b, .int .i64 c, .int .i64 d, .int .i64 u, .int .i64 f, .int .i64 g, .int .i64 k], .int .i64 q] w fun e w' => e = .returned (.bool false) ∧ Below w.heap.size w w' := by
  have x0 := C8.new w a b c d u f g k 25
  have bA := (Below.refl w.heap.size w).alloc (Nat.le_refl _) (.cells #[.int .i64 a, .int .i64 b, .int .i64 c, .int .i64 d, .int .i64 u, .int .i64 f, .int .i64 g, .int .i64 k] 25)
  have k1 := fun w' => vp_impl a b c d u f g k w'
  simp only [hp] at k1
  have K1 := Lib.hid k1
  clear k1
  have hb1 : (b == 4) = true := by rw [beq_iff_eq]; exact hb
  have hb2 : (b != 4) = false := by rw [bne_eq_false_iff_eq]; exact hb
  have hf1 : (f == q) = true := by rw [beq_iff_eq]; exact hf
  have hf2 : (f != q) = false := by rw [bne_eq_false_iff_eq]; exact hf
  have hc1 : (c == 0) = false := by rw [beq_eq_false_iff_ne]; exact hc
  have hc2 : (c != 0) = true := by rw [bne_iff_ne]; exact hc
  have ha1 : (a == 3) = true := by rw [beq_iff_eq]; exact ha
  have ha2 : (a != 3) = false := by rw [bne_eq_false_iff_eq]; exact ha
  clear hb hf hc ha
  go_enter Try.func41, Try.ntmps41
  go_wp2_with fail
  generalize w.alloc (.cells #[.int .i64 a, .int .i64 b, .int .i64 c, .int .i64 d, .int .i64 u, .int .i64 f, .int .i64 g, .int .i64 k] 25) = W at x0 bA ⊢
  refine (K1.out _).mono ?_
  rintro e' w3 ⟨rfl, b3⟩
  have x3 := x0.bw b3
  have bel3 := bA.trans (b3.mono bA.size)
  have t0 := x3.c0
  have t1 := x3.c1
  have t2 := x3.c2
  have t5 := x3.c5
  have t6 := x3.c6
  have t7 := x3.c7
  have hD := x3.lt
  clear x0 bA b3 x3
  go_wp2
  go_ret
  exact ⟨rfl, bel3⟩
set_option maxHeartbeats 2000000 in
theorem ans_yes (q a b c d u f g k : Int) (hp : D.vp a b c d u f g k = true) (hb : b = 4) (hf : f = q) (hk : ¬ k < g) (hc : ¬ c = 0) (ha : ¬ a = 3) (w : World) : Calls Try.prog 41 #[.agg #[.int .i64 a, .int .i64 b, .int .i64 c, .int .i64 d, .int .i64 u, .int .i64 f, .int .i64 g, .int .i64 k], .int .i64 q] w fun e w' => e = .returned (.bool true) ∧ Below w.heap.size w w' := by
  have x0 := C8.new w a b c d u f g k 25
  have bA := (Below.refl w.heap.size w).alloc (Nat.le_refl _) (.cells #[.int .i64 a, .int .i64 b, .int .i64 c, .int .i64 d, .int .i64 u, .int .i64 f, .int .i64 g, .int .i64 k] 25)
  have k1 := fun w' => vp_impl a b c d u f g k w'
  simp only [hp] at k1
  have K1 := Lib.hid k1
  clear k1
  have hb1 : (b == 4) = true := by rw [beq_iff_eq]; exact hb
  have hb2 : (b != 4) = false := by rw [bne_eq_false_iff_eq]; exact hb
  have hf1 : (f == q) = true := by rw [beq_iff_eq]; exact hf
  have hf2 : (f != q) = false := by rw [bne_eq_false_iff_eq]; exact hf
  have hc1 : (c == 0) = false := by rw [beq_eq_false_iff_ne]; exact hc
  have hc2 : (c != 0) = true := by rw [bne_iff_ne]; exact hc
  have ha1 : (a == 3) = false := by rw [beq_eq_false_iff_ne]; exact ha
  have ha2 : (a != 3) = true := by rw [bne_iff_ne]; exact ha
  clear hb hf hc ha
  go_enter Try.func41, Try.ntmps41
  go_wp2_with fail
  generalize w.alloc (.cells #[.int .i64 a, .int .i64 b, .int .i64 c, .int .i64 d, .int .i64 u, .int .i64 f, .int .i64 g, .int .i64 k] 25) = W at x0 bA ⊢
  refine (K1.out _).mono ?_
  rintro e' w3 ⟨rfl, b3⟩
  have x3 := x0.bw b3
  have bel3 := bA.trans (b3.mono bA.size)
  have t0 := x3.c0
  have t1 := x3.c1
  have t2 := x3.c2
  have t5 := x3.c5
  have t6 := x3.c6
  have t7 := x3.c7
  have hD := x3.lt
  clear x0 bA b3 x3
  go_wp2
  go_ret
  exact ⟨rfl, bel3⟩
theorem AN_impl (q a b c d u f g k : Int) (w : World) : Calls Try.prog 41 #[.agg #[.int .i64 a, .int .i64 b, .int .i64 c, .int .i64 d, .int .i64 u, .int .i64 f, .int .i64 g, .int .i64 k], .int .i64 q] w fun e w' => e = .returned (.bool (D.an q a b c d u f g k)) ∧ Below w.heap.size w w' := by
  rcases hp : D.vp a b c d u f g k with _ | _
  · rw [D.an_no (q := q) (fun h => by rw [h.1] at hp; cases hp)]
    exact ans_p q a b c d u f g k hp w
  by_cases hb : b = 4
  rotate_left
  · rw [D.an_no (fun h => hb h.2.1)]
    exact ans_b q a b c d u f g k hp hb w
  by_cases hf : f = q
  rotate_left
  · rw [D.an_no (fun h => hf h.2.2.1)]
    exact ans_f q a b c d u f g k hp hb hf w
  by_cases hk : ¬ k < g
  rotate_left
  · rw [D.an_no (fun h => hk h.2.2.2.1)]
    exact ans_k q a b c d u f g k hp hb hf (Classical.byContradiction (fun z => hk z)) w
  by_cases hc : ¬ c = 0
  rotate_left
  · rw [D.an_no (fun h => hc h.2.2.2.2.1)]
    exact ans_c q a b c d u f g k hp hb hf hk (Classical.byContradiction (fun z => hc z)) w
  by_cases ha : ¬ a = 3
  rotate_left
  · rw [D.an_no (fun h => ha h.2.2.2.2.2)]
    exact ans_a q a b c d u f g k hp hb hf hk hc (Classical.byContradiction (fun z => ha z)) w
  rw [D.an_yes ⟨hp, hb, hf, hk, hc, ha⟩]
  exact ans_yes q a b c d u f g k hp hb hf hk hc ha w
set_option maxHeartbeats 2000000 in
theorem TA_impl (q r a b c d u f g k : Int) (w : World) : Calls Try.prog 19 #[.int .i64 q, .agg #[.int .i64 a, .int .i64 b, .int .i64 c, .int .i64 d, .int .i64 u, .int .i64 f, .int .i64 g, .int .i64 k], .int .i64 r] w fun e w' => if D.an q a b c d u f g k = true ∧ T.vs r = true then Taken w q g k r e w' else e = .returned (.tuple #[.slice none 0 0, .bool false]) ∧ Below w.heap.size w w' := by
  have x0 := C8.new w a b c d u f g k 25
  have bA := (Below.refl w.heap.size w).alloc (Nat.le_refl _) (.cells #[.int .i64 a, .int .i64 b, .int .i64 c, .int .i64 d, .int .i64 u, .int .i64 f, .int .i64 g, .int .i64 k] 25)
  have k1 := fun w' => AN_impl q a b c d u f g k w'
  rcases ha : D.an q a b c d u f g k with _ | _
  · simp only [ha] at k1
    have K1 := Lib.hid k1
    clear k1 ha
    simp only [Bool.false_eq_true, false_and, if_false]
    go_enter Try.func19, Try.ntmps19
    go_wp2_with fail
    generalize w.alloc (.cells #[.int .i64 a, .int .i64 b, .int .i64 c, .int .i64 d, .int .i64 u, .int .i64 f, .int .i64 g, .int .i64 k] 25) = W at x0 bA ⊢
    refine (K1.out _).mono ?_
    rintro e' w3 ⟨rfl, b3⟩
    have bel3 := Lib.hid (bA.trans (b3.mono bA.size))
    clear x0 bA b3
    go_wp2
    exact bodyPost_ret (v := .tuple #[.slice none 0 0, .bool false]) (by simp [results, Try.results19, go_sem]) rfl ⟨rfl, bel3.out⟩
  simp only [ha] at k1
  have K1 := Lib.hid k1
  clear k1 ha
  rcases hr : T.vs r with _ | _
  · simp only [Bool.false_eq_true, and_false, if_false]
    go_enter Try.func19, Try.ntmps19
    go_wp2_with fail
    generalize w.alloc (.cells #[.int .i64 a, .int .i64 b, .int .i64 c, .int .i64 d, .int .i64 u, .int .i64 f, .int .i64 g, .int .i64 k] 25) = W at x0 bA ⊢
    refine (K1.out _).mono ?_
    rintro e' w3 ⟨rfl, b3⟩
    have bel3 := Lib.hid (bA.trans (b3.mono bA.size))
    clear x0 bA b3
    go_wp2_with (go_at_call 31; refine (vst_impl _ _).mono ?_; rintro e w' ⟨rfl, rfl⟩)
    exact bodyPost_ret (v := .tuple #[.slice none 0 0, .bool false]) (by simp [results, Try.results19, go_sem]) rfl ⟨rfl, bel3.out⟩
  · simp only [and_self, if_true]
    go_enter Try.func19, Try.ntmps19
    go_wp2_with fail
    generalize w.alloc (.cells #[.int .i64 a, .int .i64 b, .int .i64 c, .int .i64 d, .int .i64 u, .int .i64 f, .int .i64 g, .int .i64 k] 25) = W at x0 bA ⊢
    refine (K1.out _).mono ?_
    rintro e' w3 ⟨rfl, b3⟩
    have x3 := x0.bw b3
    have bel3 := bA.trans (b3.mono bA.size)
    have t6 := x3.c6
    have t7 := x3.c7
    have HT : Hid (Taken w q g k r (.returned (.tuple #[.slice (some ⟨w3.heap.size, 0, none⟩) 4 4, .bool true])) (w3.alloc (.cells #[.int .i64 q, .int .i64 g, .int .i64 k, .int .i64 r] 3))) := Lib.hid ⟨w3.heap.size, bel3.size, rfl, Q4.new w3 q g k r 3, bel3.alloc bel3.size _⟩
    clear x0 bA b3 x3 bel3
    go_wp2_with (go_at_call 31; refine (vst_impl _ _).mono ?_; rintro e w' ⟨rfl, rfl⟩)
    exact bodyPost_ret (v := .tuple #[.slice (some ⟨w3.heap.size, 0, none⟩) 4 4, .bool true]) (by simp [results, Try.results19, go_sem]) rfl HT.out
set_option maxHeartbeats 2000000 in
theorem TAs_q (q r a b c d u f g k : Int)  (hq : T.vs q = false) (w : World) : Calls Try.prog 22 #[.int .i64 q, .agg #[.int .i64 a, .int .i64 b, .int .i64 c, .int .i64 d, .int .i64 u, .int .i64 f, .int .i64 g, .int .i64 k], .int .i64 r] w fun e w' => e = .returned (.tuple #[.slice none 0 0, .bool false]) ∧ Below w.heap.size w w' := by
  have HB := Lib.hid ((Below.refl w.heap.size w).alloc (Nat.le_refl _) (.cells #[.int .i64 a, .int .i64 b, .int .i64 c, .int .i64 d, .int .i64 u, .int .i64 f, .int .i64 g, .int .i64 k] 25))
  go_enter Try.func22, Try.ntmps22
  go_wp2_with (go_at_call 32; refine (vst_spec _ _).mono ?_; rintro e w' ⟨rfl, rfl⟩)
  exact bodyPost_ret (v := .tuple #[.slice none 0 0, .bool false]) (by simp [results, Try.results22, go_sem]) rfl ⟨rfl, HB.out⟩
set_option maxHeartbeats 2000000 in
theorem TAs_r (q r a b c d u f g k : Int) (hq : T.vs q = true) (hr : T.vs r = false) (w : World) : Calls Try.prog 22 #[.int .i64 q, .agg #[.int .i64 a, .int .i64 b, .int .i64 c, .int .i64 d, .int .i64 u, .int .i64 f, .int .i64 g, .int .i64 k], .int .i64 r] w fun e w' => e = .returned (.tuple #[.slice none 0 0, .bool false]) ∧ Below w.heap.size w w' := by
  have HB := Lib.hid ((Below.refl w.heap.size w).alloc (Nat.le_refl _) (.cells #[.int .i64 a, .int .i64 b, .int .i64 c, .int .i64 d, .int .i64 u, .int .i64 f, .int .i64 g, .int .i64 k] 25))
  go_enter Try.func22, Try.ntmps22
  go_wp2_with (go_at_call 32; refine (vst_spec _ _).mono ?_; rintro e w' ⟨rfl, rfl⟩)
  exact bodyPost_ret (v := .tuple #[.slice none 0 0, .bool false]) (by simp [results, Try.results22, go_sem]) rfl ⟨rfl, HB.out⟩
set_option maxHeartbeats 2000000 in
theorem TAs_p (q r a b c d u f g k : Int) (hq : T.vs q = true) (hr : T.vs r = true) (hp : D.vp a b c d u f g k = false) (w : World) : Calls Try.prog 22 #[.int .i64 q, .agg #[.int .i64 a, .int .i64 b, .int .i64 c, .int .i64 d, .int .i64 u, .int .i64 f, .int .i64 g, .int .i64 k], .int .i64 r] w fun e w' => e = .returned (.tuple #[.slice none 0 0, .bool false]) ∧ Below w.heap.size w w' := by
  have x0 := C8.new w a b c d u f g k 25
  have bA := (Below.refl w.heap.size w).alloc (Nat.le_refl _) (.cells #[.int .i64 a, .int .i64 b, .int .i64 c, .int .i64 d, .int .i64 u, .int .i64 f, .int .i64 g, .int .i64 k] 25)
  have k1 := fun w' => vp_spec a b c d u f g k w'
  simp only [hp] at k1
  have K1 := Lib.hid k1
  clear k1
  go_enter Try.func22, Try.ntmps22
  go_wp2_with (go_at_call 32; refine (vst_spec _ _).mono ?_; rintro e w' ⟨rfl, rfl⟩)
  generalize w.alloc (.cells #[.int .i64 a, .int .i64 b, .int .i64 c, .int .i64 d, .int .i64 u, .int .i64 f, .int .i64 g, .int .i64 k] 25) = W at x0 bA ⊢
  refine (K1.out _).mono ?_
  rintro e' w3 ⟨rfl, b3⟩
  have x3 := x0.bw b3
  have bel3 := bA.trans (b3.mono bA.size)
  have t0 := x3.c0
  have t1 := x3.c1
  have t2 := x3.c2
  have t5 := x3.c5
  have t6 := x3.c6
  have t7 := x3.c7
  have hD := x3.lt
  clear x0 bA b3 x3
  have HB := Lib.hid bel3
  clear bel3
  go_wp2_with (go_at_call 32; refine (vst_spec _ _).mono ?_; rintro e w' ⟨rfl, rfl⟩)
  exact bodyPost_ret (v := .tuple #[.slice none 0 0, .bool false]) (by simp [results, Try.results22, go_sem]) rfl ⟨rfl, HB.out⟩
set_option maxHeartbeats 2000000 in
theorem TAs_b (q r a b c d u f g k : Int) (hq : T.vs q = true) (hr : T.vs r = true) (hp : D.vp a b c d u f g k = true) (hb : ¬ b = 4) (w : World) : Calls Try.prog 22 #[.int .i64 q, .agg #[.int .i64 a, .int .i64 b, .int .i64 c, .int .i64 d, .int .i64 u, .int .i64 f, .int .i64 g, .int .i64 k], .int .i64 r] w fun e w' => e = .returned (.tuple #[.slice none 0 0, .bool false]) ∧ Below w.heap.size w w' := by
  have x0 := C8.new w a b c d u f g k 25
  have bA := (Below.refl w.heap.size w).alloc (Nat.le_refl _) (.cells #[.int .i64 a, .int .i64 b, .int .i64 c, .int .i64 d, .int .i64 u, .int .i64 f, .int .i64 g, .int .i64 k] 25)
  have k1 := fun w' => vp_spec a b c d u f g k w'
  simp only [hp] at k1
  have K1 := Lib.hid k1
  clear k1
  have hb1 : (b == 4) = false := by rw [beq_eq_false_iff_ne]; exact hb
  have hb2 : (b != 4) = true := by rw [bne_iff_ne]; exact hb
  clear hb
  go_enter Try.func22, Try.ntmps22
  go_wp2_with (go_at_call 32; refine (vst_spec _ _).mono ?_; rintro e w' ⟨rfl, rfl⟩)
  generalize w.alloc (.cells #[.int .i64 a, .int .i64 b, .int .i64 c, .int .i64 d, .int .i64 u, .int .i64 f, .int .i64 g, .int .i64 k] 25) = W at x0 bA ⊢
  refine (K1.out _).mono ?_
  rintro e' w3 ⟨rfl, b3⟩
  have x3 := x0.bw b3
  have bel3 := bA.trans (b3.mono bA.size)
  have t0 := x3.c0
  have t1 := x3.c1
  have t2 := x3.c2
  have t5 := x3.c5
  have t6 := x3.c6
  have t7 := x3.c7
  have hD := x3.lt
  clear x0 bA b3 x3
  have HB := Lib.hid bel3
  clear bel3
  go_wp2_with (go_at_call 32; refine (vst_spec _ _).mono ?_; rintro e w' ⟨rfl, rfl⟩)
  exact bodyPost_ret (v := .tuple #[.slice none 0 0, .bool false]) (by simp [results, Try.results22, go_sem]) rfl ⟨rfl, HB.out⟩
set_option maxHeartbeats 2000000 in
theorem TAs_c (q r a b c d u f g k : Int) (hq : T.vs q = true) (hr : T.vs r = true) (hp : D.vp a b c d u f g k = true) (hb : b = 4) (hc : c = 0) (w : World) : Calls Try.prog 22 #[.int .i64 q, .agg #[.int .i64 a, .int .i64 b, .int .i64 c, .int .i64 d, .int .i64 u, .int .i64 f, .int .i64 g, .int .i64 k], .int .i64 r] w fun e w' => e = .returned (.tuple #[.slice none 0 0, .bool false]) ∧ Below w.heap.size w w' := by
  have x0 := C8.new w a b c d u f g k 25
  have bA := (Below.refl w.heap.size w).alloc (Nat.le_refl _) (.cells #[.int .i64 a, .int .i64 b, .int .i64 c, .int .i64 d, .int .i64 u, .int .i64 f, .int .i64 g, .int .i64 k] 25)
  have k1 := fun w' => vp_spec a b c d u f g k w'
  simp only [hp] at k1
  have K1 := Lib.hid k1
  clear k1
  have hb1 : (b == 4) = true := by rw [beq_iff_eq]; exact hb
  have hb2 : (b != 4) = false := by rw [bne_eq_false_iff_eq]; exact hb
  have hc1 : (c == 0) = true := by rw [beq_iff_eq]; exact hc
  have hc2 : (c != 0) = false := by rw [bne_eq_false_iff_eq]; exact hc
  clear hb hc
  go_enter Try.func22, Try.ntmps22
  go_wp2_with (go_at_call 32; refine (vst_spec _ _).mono ?_; rintro e w' ⟨rfl, rfl⟩)
  generalize w.alloc (.cells #[.int .i64 a, .int .i64 b, .int .i64 c, .int .i64 d, .int .i64 u, .int .i64 f, .int .i64 g, .int .i64 k] 25) = W at x0 bA ⊢
  refine (K1.out _).mono ?_
  rintro e' w3 ⟨rfl, b3⟩
  have x3 := x0.bw b3
  have bel3 := bA.trans (b3.mono bA.size)
  have t0 := x3.c0
  have t1 := x3.c1
  have t2 := x3.c2
  have t5 := x3.c5
  have t6 := x3.c6
  have t7 := x3.c7
  have hD := x3.lt
  clear x0 bA b3 x3
  have HB := Lib.hid bel3
  clear bel3
  go_wp2_with (go_at_call 32; refine (vst_spec _ _).mono ?_; rintro e w' ⟨rfl, rfl⟩)
  exact bodyPost_ret (v := .tuple #[.slice none 0 0, .bool false]) (by simp [results, Try.results22, go_sem]) rfl ⟨rfl, HB.out⟩
set_option maxHeartbeats 2000000 in
theorem TAs_a (q r a b c d u f g k : Int) (hq : T.vs q = true) (hr : T.vs r = true) (hp : D.vp a b c d u f g k = true) (hb : b = 4) (hc : ¬ c = 0) (ha : a = 3) (w : World) : Calls Try.prog 22 #[.int .i64 q, .agg #[.int .i64 a, .int .i64 b, .int .i64 c, .int .i64 d, .int .i64 u, .int .i64 f, .int .i64 g, .int .i64 k], .int .i64 r] w fun e w' => e = .returned (.tuple #[.slice none 0 0, .bool false]) ∧ Below w.heap.size w w' := by
  have x0 := C8.new w a b c d u f g k 25
  have bA := (Below.refl w.heap.size w).alloc (Nat.le_refl _) (.cells #[.int .i64 a, .int .i64 b, .int .i64 c, .int .i64 d, .int .i64 u, .int .i64 f, .int .i64 g, .int .i64 k] 25)
  have k1 := fun w' => vp_spec a b c d u f g k w'
  simp only [hp] at k1
  have K1 := Lib.hid k1
  clear k1
  have hb1 : (b == 4) = true := by rw [beq_iff_eq]; exact hb
  have hb2 : (b != 4) = false := by rw [bne_eq_false_iff_eq]; exact hb
  have hc1 : (c == 0) = false := by rw [beq_eq_false_iff_ne]; exact hc
  have hc2 : (c != 0) = true := by rw [bne_iff_ne]; exact hc
  have ha1 : (a == 3) = true := by rw [beq_iff_eq]; exact ha
  have ha2 : (a != 3) = false := by rw [bne_eq_false_iff_eq]; exact ha
  clear hb hc ha
  go_enter Try.func22, Try.ntmps22
  go_wp2_with (go_at_call 32; refine (vst_spec _ _).mono ?_; rintro e w' ⟨rfl, rfl⟩)
  generalize w.alloc (.cells #[.int .i64 a, .int .i64 b, .int .i64 c, .int .i64 d, .int .i64 u, .int .i64 f, .int .i64 g, .int .i64 k] 25) = W at x0 bA ⊢
  refine (K1.out _).mono ?_
  rintro e' w3 ⟨rfl, b3⟩
  have x3 := x0.bw b3
  have bel3 := bA.trans (b3.mono bA.size)
  have t0 := x3.c0
  have t1 := x3.c1
  have t2 := x3.c2
  have t5 := x3.c5
  have t6 := x3.c6
  have t7 := x3.c7
  have hD := x3.lt
  clear x0 bA b3 x3
  have HB := Lib.hid bel3
  clear bel3
  go_wp2_with (go_at_call 32; refine (vst_spec _ _).mono ?_; rintro e w' ⟨rfl, rfl⟩)
  exact bodyPost_ret (v := .tuple #[.slice none 0 0, .bool false]) (by simp [results, Try.results22, go_sem]) rfl ⟨rfl, HB.out⟩
set_option maxHeartbeats 2000000 in
theorem TAs_f (q r a b c d u f g k : Int) (hq : T.vs q = true) (hr : T.vs r = true) (hp : D.vp a b c d u f g k = true) (hb : b = 4) (hc : ¬ c = 0) (ha : ¬ a = 3) (hf : ¬ f = q) (w : World) : Calls Try.prog 22 #[.int .i64 q, .agg #[.int .i64 a, .int .i64 b, .int .i64 c, .int .i64 d, .int .i64 u, .int .i64 f, .int .i64 g, .int .i64 k], .int .i64 r] w fun e w' => e = .returned (.tuple #[.slice none 0 0, .bool false]) ∧ Below w.heap.size w w' := by
  have x0 := C8.new w a b c d u f g k 25
  have bA := (Below.refl w.heap.size w).alloc (Nat.le_refl _) (.cells #[.int .i64 a, .int .i64 b, .int .i64 c, .int .i64 d, .int .i64 u, .int .i64 f, .int .i64 g, .int .i64 k] 25)
  have k1 := fun w' => vp_spec a b c d u f g k w'
  simp only [hp] at k1
  have K1 := Lib.hid k1
  clear k1
  have hb1 : (b == 4) = true := by rw [beq_iff_eq]; exact hb
  have hb2 : (b != 4) = false := by rw [bne_eq_false_iff_eq]; exact hb
  have hc1 : (c == 0) = false := by rw [beq_eq_false_iff_ne]; exact hc
  have hc2 : (c != 0) = true := by rw [bne_iff_ne]; exact hc
  have ha1 : (a == 3) = false := by rw [beq_eq_false_iff_ne]; exact ha
  have ha2 : (a != 3) = true := by rw [bne_iff_ne]; exact ha
  have hf1 : (f == q) = false := by rw [beq_eq_false_iff_ne]; exact hf
  have hf2 : (f != q) = true := by rw [bne_iff_ne]; exact hf
  clear hb hc ha hf
  go_enter Try.func22, Try.ntmps22
  go_wp2_with (go_at_call 32; refine (vst_spec _ _).mono ?_; rintro e w' ⟨rfl, rfl⟩)
  generalize w.alloc (.cells #[.int .i64 a, .int .i64 b, .int .i64 c, .int .i64 d, .int .i64 u, .int .i64 f, .int .i64 g, .int .i64 k] 25) = W at x0 bA ⊢
  refine (K1.out _).mono ?_
  rintro e' w3 ⟨rfl, b3⟩
  have x3 := x0.bw b3
  have bel3 := bA.trans (b3.mono bA.size)
  have t0 := x3.c0
  have t1 := x3.c1
  have t2 := x3.c2
  have t5 := x3.c5
  have t6 := x3.c6
  have t7 := x3.c7
  have hD := x3.lt
  clear x0 bA b3 x3
  have HB := Lib.hid bel3
  clear bel3
  go_wp2_with (go_at_call 32; refine (vst_spec _ _).mono ?_; rintro e w' ⟨rfl, rfl⟩)
  exact bodyPost_ret (v := .tuple #[.slice none 0 0, .bool false]) (by simp [results, Try.results22, go_sem]) rfl ⟨rfl, HB.out⟩
set_option maxHeartbeats 2000000 in
theorem TAs_k (q r a b c d u f g k : Int) (hq : T.vs q = true) (hr : T.vs r = true) (hp : D.vp a b c d u f g k = true) (hb : b = 4) (hc : ¬ c = 0) (ha : ¬ a = 3) (hf : f = q) (hk : k < g) (w : World) : Calls Try.prog 22 #[.int .i64 q, .agg #[.int .i64 a, .int .i64 b, .int .i64 c, .int .i64 d, .int .i64 u, .int .i64 f, .int .i64 g, .int .i64 k], .int .i64 r] w fun e w' => e = .returned (.tuple #[.slice none 0 0, .bool false]) ∧ Below w.heap.size w w' := by
  have x0 := C8.new w a b c d u f g k 25
  have bA := (Below.refl w.heap.size w).alloc (Nat.le_refl _) (.cells #[.int .i64 a, .int .i64 b, .int .i64 c, .int .i64 d, .int .i64 u, .int .i64 f, .int .i64 g, .int .i64 k] 25)
  have k1 := fun w' => vp_spec a b c d u f g k w'
  simp only [hp] at k1
  have K1 := Lib.hid k1
  clear k1
  have hb1 : (b == 4) = true := by rw [beq_iff_eq]; exact hb
  have hb2 : (b != 4) = false := by rw [bne_eq_false_iff_eq]; exact hb
  have hc1 : (c == 0) = false := by rw [beq_eq_false_iff_ne]; exact hc
  have hc2 : (c != 0) = true := by rw [bne_iff_ne]; exact hc
  have ha1 : (a == 3) = false := by rw [beq_eq_false_iff_ne]; exact ha
  have ha2 : (a != 3) = true := by rw [bne_iff_ne]; exact ha
  have hf1 : (f == q) = true := by rw [beq_iff_eq]; exact hf
  have hf2 : (f != q) = false := by rw [bne_eq_false_iff_eq]; exact hf
  clear hb hc ha hf
  go_enter Try.func22, Try.ntmps22
  go_wp2_with (go_at_call 32; refine (vst_spec _ _).mono ?_; rintro e w' ⟨rfl, rfl⟩)
  generalize w.alloc (.cells #[.int .i64 a, .int .i64 b, .int .i64 c, .int .i64 d, .int .i64 u, .int .i64 f, .int .i64 g, .int .i64 k] 25) = W at x0 bA ⊢
  refine (K1.out _).mono ?_
  rintro e' w3 ⟨rfl, b3⟩
  have x3 := x0.bw b3
  have bel3 := bA.trans (b3.mono bA.size)
  have t0 := x3.c0
  have t1 := x3.c1
  have t2 := x3.c2
  have t5 := x3.c5
  have t6 := x3.c6
  have t7 := x3.c7
  have hD := x3.lt
  clear x0 bA b3 x3
  have HB := Lib.hid bel3
  clear bel3
  go_wp2_with (go_at_call 32; refine (vst_spec _ _).mono ?_; rintro e w' ⟨rfl, rfl⟩)
  exact bodyPost_ret (v := .tuple #[.slice none 0 0, .bool false]) (by simp [results, Try.results22, go_sem]) rfl ⟨rfl, HB.out⟩
set_option maxHeartbeats 2000000 in
theorem TAs_yes (q r a b c d u f g k : Int) (hq : T.vs q = true) (hr : T.vs r = true) (hp : D.vp a b c d u f g k = true) (hb : b = 4) (hc : ¬ c = 0) (ha : ¬ a = 3) (hf : f = q) (hk : ¬ k < g) (w : World) : Calls Try.prog 22 #[.int .i64 q, .agg #[.int .i64 a, .int .i64 b, .int .i64 c, .int .i64 d, .int .i64 u, .int .i64 f, .int .i64 g, .int .i64 k], .int .i64 r] w fun e w' => Taken w q g k r e w' := by
  have x0 := C8.new w a b c d u f g k 25
  have bA := (Below.refl w.heap.size w).alloc (Nat.le_refl _) (.cells #[.int .i64 a, .int .i64 b, .int .i64 c, .int .i64 d, .int .i64 u, .int .i64 f, .int .i64 g, .int .i64 k] 25)
  have k1 := fun w' => vp_spec a b c d u f g k w'
  simp only [hp] at k1
  have K1 := Lib.hid k1
  clear k1
  have hb1 : (b == 4) = true := by rw [beq_iff_eq]; exact hb
  have hb2 : (b != 4) = false := by rw [bne_eq_false_iff_eq]; exact hb
  have hc1 : (c == 0) = false := by rw [beq_eq_false_iff_ne]; exact hc
  have hc2 : (c != 0) = true := by rw [bne_iff_ne]; exact hc
  have ha1 : (a == 3) = false := by rw [beq_eq_false_iff_ne]; exact ha
  have ha2 : (a != 3) = true := by rw [bne_iff_ne]; exact ha
  have hf1 : (f == q) = true := by rw [beq_iff_eq]; exact hf
  have hf2 : (f != q) = false := by rw [bne_eq_false_iff_eq]; exact hf
  clear hb hc ha hf
  go_enter Try.func22, Try.ntmps22
  go_wp2_with (go_at_call 32; refine (vst_spec _ _).mono ?_; rintro e w' ⟨rfl, rfl⟩)
  generalize w.alloc (.cells #[.int .i64 a, .int .i64 b, .int .i64 c, .int .i64 d, .int .i64 u, .int .i64 f, .int .i64 g, .int .i64 k] 25) = W at x0 bA ⊢
  refine (K1.out _).mono ?_
  rintro e' w3 ⟨rfl, b3⟩
  have x3 := x0.bw b3
  have bel3 := bA.trans (b3.mono bA.size)
  have t0 := x3.c0
  have t1 := x3.c1
  have t2 := x3.c2
  have t5 := x3.c5
  have t6 := x3.c6
  have t7 := x3.c7
  have hD := x3.lt
  clear x0 bA b3 x3
  have HT : Hid (Taken w q g k r (.returned (.tuple #[.slice (some ⟨w3.heap.size, 0, none⟩) 4 4, .bool true])) (w3.alloc (.cells #[.int .i64 q, .int .i64 g, .int .i64 k, .int .i64 r] 3))) := Lib.hid ⟨w3.heap.size, bel3.size, rfl, Q4.new w3 q g k r 3, bel3.alloc bel3.size _⟩
  clear bel3
  go_wp2_with (go_at_call 32; refine (vst_spec _ _).mono ?_; rintro e w' ⟨rfl, rfl⟩)
  exact bodyPost_ret (v := .tuple #[.slice (some ⟨w3.heap.size, 0, none⟩) 4 4, .bool true]) (by simp [results, Try.results22, go_sem]) rfl HT.out
theorem TA_spec (q r a b c d u f g k : Int) (w : World) : Calls Try.prog 22 #[.int .i64 q, .agg #[.int .i64 a, .int .i64 b, .int .i64 c, .int .i64 d, .int .i64 u, .int .i64 f, .int .i64 g, .int .i64 k], .int .i64 r] w fun e w' => if D.an q a b c d u f g k = true ∧ T.vs r = true then Taken w q g k r e w' else e = .returned (.tuple #[.slice none 0 0, .bool false]) ∧ Below w.heap.size w w' := by
  by_cases hT : D.an q a b c d u f g k = true ∧ T.vs r = true
  · have hT0 := hT
    obtain ⟨hp, hb, hf, hk, hc, ha⟩ := D.an_of hT.1
    have hq : T.vs q = true := by rw [← hf]; exact (D.vp_of hp).2.2.2.2.2.1
    exact (TAs_yes q r a b c d u f g k hq hT.2 hp hb hc ha hf hk w).mono fun e w' h => by rw [if_pos hT]; exact h
  suffices hS : Calls Try.prog 22 #[.int .i64 q, .agg #[.int .i64 a, .int .i64 b, .int .i64 c, .int .i64 d, .int .i64 u, .int .i64 f, .int .i64 g, .int .i64 k], .int .i64 r] w fun e w' => e = .returned (.tuple #[.slice none 0 0, .bool false]) ∧ Below w.heap.size w w' from hS.mono fun e w' h => by rw [if_neg hT]; exact h
  rcases hq : T.vs q with _ | _
  · exact TAs_q q r a b c d u f g k  hq w
  rcases hr : T.vs r with _ | _
  · exact TAs_r q r a b c d u f g k hq hr w
  rcases hp : D.vp a b c d u f g k with _ | _
  · exact TAs_p q r a b c d u f g k hq hr hp w
  by_cases hb : b = 4
  rotate_left
  · exact TAs_b q r a b c d u f g k hq hr hp hb w
  by_cases hc : ¬ c = 0
  rotate_left
  · exact TAs_c q r a b c d u f g k hq hr hp hb (Classical.byContradiction (fun z => hc z)) w
  by_cases ha : ¬ a = 3
  rotate_left
  · exact TAs_a q r a b c d u f g k hq hr hp hb hc (Classical.byContradiction (fun z => ha z)) w
  by_cases hf : f = q
  rotate_left
  · exact TAs_f q r a b c d u f g k hq hr hp hb hc ha hf w
  by_cases hk : ¬ k < g
  rotate_left
  · exact TAs_k q r a b c d u f g k hq hr hp hb hc ha hf (Classical.byContradiction (fun z => hk z)) w
  exact absurd ⟨D.an_yes ⟨hp, hb, hf, hk, hc, ha⟩, hr⟩ hT
end Go.Proofs.Ytigaifnoicnafaa
