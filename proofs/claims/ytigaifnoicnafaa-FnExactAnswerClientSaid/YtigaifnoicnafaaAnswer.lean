/-
  Answers to questions (chapter 11): the program's and the model's functions.
-/
import Derived.Test.YtigaifnoicnafaaAsk
namespace Go.Proofs.Ytigaifnoicnafaa
open Go.RowKit
set_option linter.unusedVariables false
set_option maxRecDepth 100000
set_option maxHeartbeats 2000000 in
theorem AN_impl_no1 (a b c d u f g k r s lv sp : Int) (hp : D.vp a b c d u f g k = false) (w : World) : Calls Try.prog 17 #[.agg #[.int .i64 a, .int .i64 b, .int .i64 c, .int .i64 d, .int .i64 u, .int .i64 f, .int .i64 g, .int .i64 k], .int .i64 r, .int .i64 s, .int .i64 lv, .int .i64 sp] w fun e w' => e = .returned (.tuple #[.agg #[.int .i64 0, .int .i64 0, .int .i64 0, .int .i64 0, .int .i64 0, .int .i64 0, .int .i64 0, .int .i64 0], .bool false]) ∧ Below w.heap.size w w' := by
  have x0 := (C8.new w a b c d u f g k 25).al (.cells #[.int .i64 0, .int .i64 0, .int .i64 0, .int .i64 0, .int .i64 0, .int .i64 0, .int .i64 0, .int .i64 0] 25)
  have z0 := E8.new (w.alloc (.cells #[.int .i64 a, .int .i64 b, .int .i64 c, .int .i64 d, .int .i64 u, .int .i64 f, .int .i64 g, .int .i64 k] 25)) 25
  rw [World.size_alloc] at z0
  have bA := ((Below.refl w.heap.size w).alloc (Nat.le_refl _) (.cells #[.int .i64 a, .int .i64 b, .int .i64 c, .int .i64 d, .int .i64 u, .int .i64 f, .int .i64 g, .int .i64 k] 25)).alloc (by simp) (.cells #[.int .i64 0, .int .i64 0, .int .i64 0, .int .i64 0, .int .i64 0, .int .i64 0, .int .i64 0, .int .i64 0] 25)
  have hE : w.heap.size ≤ w.heap.size + 1 := Nat.le_succ _
  have k1 := fun w' => vp_impl a b c d u f g k w'
  simp only [hp] at k1
  have K1 := Lib.hid k1
  clear k1
  go_enter Try.func17, Try.ntmps17
  go_wp2_with fail
  generalize (w.alloc (.cells #[.int .i64 a, .int .i64 b, .int .i64 c, .int .i64 d, .int .i64 u, .int .i64 f, .int .i64 g, .int .i64 k] 25)).alloc (.cells #[.int .i64 0, .int .i64 0, .int .i64 0, .int .i64 0, .int .i64 0, .int .i64 0, .int .i64 0, .int .i64 0] 25) = W at x0 z0 bA ⊢
  generalize w.heap.size + 1 = E at z0 hE ⊢
  refine (K1.out _).mono ?_
  rintro e' w3 ⟨rfl, b3⟩
  have x3 := x0.bw b3
  have z3 := z0.b b3
  have bel3 := bA.trans (b3.mono bA.size)
  clear x0 z0 bA b3
  obtain ⟨c0, c1, c2, c3, c4, c5, c6, c7, f0, f1, f2, f3, f4, f5, f6, f7, -⟩ := z3
  clear x3
  have HN := Lib.hid (fin8 bel3 hE (.int .i64 0) (.int .i64 0) (.int .i64 0) (.int .i64 0) (.int .i64 0) (.int .i64 0) (.int .i64 0) (.int .i64 0))
  clear bel3
  go_wp2_with (first | (go_at_call 33; refine (inR_impl _ _ _ _).mono ?_; rintro e w' ⟨rfl, rfl⟩))
  exact bodyPost_ret (v := .tuple #[.agg #[.int .i64 0, .int .i64 0, .int .i64 0, .int .i64 0, .int .i64 0, .int .i64 0, .int .i64 0, .int .i64 0], .bool false]) (by simp [results, Try.results17, go_sem, c0, c1, c2, c3, c4, c5, c6, c7]) rfl ⟨rfl, HN.out⟩
set_option maxHeartbeats 2000000 in
theorem AN_impl_no2 (a b c d u f g k r s lv sp : Int) (hp : D.vp a b c d u f g k = true)  (hb : ¬ b = 3) (w : World) : Calls Try.prog 17 #[.agg #[.int .i64 a, .int .i64 b, .int .i64 c, .int .i64 d, .int .i64 u, .int .i64 f, .int .i64 g, .int .i64 k], .int .i64 r, .int .i64 s, .int .i64 lv, .int .i64 sp] w fun e w' => e = .returned (.tuple #[.agg #[.int .i64 0, .int .i64 0, .int .i64 0, .int .i64 0, .int .i64 0, .int .i64 0, .int .i64 0, .int .i64 0], .bool false]) ∧ Below w.heap.size w w' := by
  have x0 := (C8.new w a b c d u f g k 25).al (.cells #[.int .i64 0, .int .i64 0, .int .i64 0, .int .i64 0, .int .i64 0, .int .i64 0, .int .i64 0, .int .i64 0] 25)
  have z0 := E8.new (w.alloc (.cells #[.int .i64 a, .int .i64 b, .int .i64 c, .int .i64 d, .int .i64 u, .int .i64 f, .int .i64 g, .int .i64 k] 25)) 25
  rw [World.size_alloc] at z0
  have bA := ((Below.refl w.heap.size w).alloc (Nat.le_refl _) (.cells #[.int .i64 a, .int .i64 b, .int .i64 c, .int .i64 d, .int .i64 u, .int .i64 f, .int .i64 g, .int .i64 k] 25)).alloc (by simp) (.cells #[.int .i64 0, .int .i64 0, .int .i64 0, .int .i64 0, .int .i64 0, .int .i64 0, .int .i64 0, .int .i64 0] 25)
  have hE : w.heap.size ≤ w.heap.size + 1 := Nat.le_succ _
  have k1 := fun w' => vp_impl a b c d u f g k w'
  simp only [hp] at k1
  have K1 := Lib.hid k1
  clear k1
  go_enter Try.func17, Try.ntmps17
  go_wp2_with fail
  generalize (w.alloc (.cells #[.int .i64 a, .int .i64 b, .int .i64 c, .int .i64 d, .int .i64 u, .int .i64 f, .int .i64 g, .int .i64 k] 25)).alloc (.cells #[.int .i64 0, .int .i64 0, .int .i64 0, .int .i64 0, .int .i64 0, .int .i64 0, .int .i64 0, .int .i64 0] 25) = W at x0 z0 bA ⊢
  generalize w.heap.size + 1 = E at z0 hE ⊢
  refine (K1.out _).mono ?_
  rintro e' w3 ⟨rfl, b3⟩
  have x3 := x0.bw b3
  have z3 := z0.b b3
  have bel3 := bA.trans (b3.mono bA.size)
  clear x0 z0 bA b3
  obtain ⟨c0, c1, c2, c3, c4, c5, c6, c7, f0, f1, f2, f3, f4, f5, f6, f7, -⟩ := z3
  have y1 := x3.c1
  clear x3
  have hb1 : (b == 3) = false := by rw [beq_eq_false_iff_ne]; exact hb
  have hb2 : (b != 3) = true := by rw [bne_iff_ne]; exact hb
  clear hb
  have HN := Lib.hid (fin8 bel3 hE (.int .i64 0) (.int .i64 0) (.int .i64 0) (.int .i64 0) (.int .i64 0) (.int .i64 0) (.int .i64 0) (.int .i64 0))
  clear bel3
  go_wp2_with (first | (go_at_call 33; refine (inR_impl _ _ _ _).mono ?_; rintro e w' ⟨rfl, rfl⟩))
  exact bodyPost_ret (v := .tuple #[.agg #[.int .i64 0, .int .i64 0, .int .i64 0, .int .i64 0, .int .i64 0, .int .i64 0, .int .i64 0, .int .i64 0], .bool false]) (by simp [results, Try.results17, go_sem, c0, c1, c2, c3, c4, c5, c6, c7]) rfl ⟨rfl, HN.out⟩
set_option maxHeartbeats 2000000 in
theorem AN_impl_no3 (a b c d u f g k r s lv sp : Int) (hp : D.vp a b c d u f g k = true) (hb : b = 3) (hl : inR lv 0 2 = false) (w : World) : Calls Try.prog 17 #[.agg #[.int .i64 a, .int .i64 b, .int .i64 c, .int .i64 d, .int .i64 u, .int .i64 f, .int .i64 g, .int .i64 k], .int .i64 r, .int .i64 s, .int .i64 lv, .int .i64 sp] w fun e w' => e = .returned (.tuple #[.agg #[.int .i64 0, .int .i64 0, .int .i64 0, .int .i64 0, .int .i64 0, .int .i64 0, .int .i64 0, .int .i64 0], .bool false]) ∧ Below w.heap.size w w' := by
  subst hb
  have x0 := (C8.new w a 3 c d u f g k 25).al (.cells #[.int .i64 0, .int .i64 0, .int .i64 0, .int .i64 0, .int .i64 0, .int .i64 0, .int .i64 0, .int .i64 0] 25)
  have z0 := E8.new (w.alloc (.cells #[.int .i64 a, .int .i64 3, .int .i64 c, .int .i64 d, .int .i64 u, .int .i64 f, .int .i64 g, .int .i64 k] 25)) 25
  rw [World.size_alloc] at z0
  have bA := ((Below.refl w.heap.size w).alloc (Nat.le_refl _) (.cells #[.int .i64 a, .int .i64 3, .int .i64 c, .int .i64 d, .int .i64 u, .int .i64 f, .int .i64 g, .int .i64 k] 25)).alloc (by simp) (.cells #[.int .i64 0, .int .i64 0, .int .i64 0, .int .i64 0, .int .i64 0, .int .i64 0, .int .i64 0, .int .i64 0] 25)
  have hE : w.heap.size ≤ w.heap.size + 1 := Nat.le_succ _
  have k1 := fun w' => vp_impl a 3 c d u f g k w'
  simp only [hp] at k1
  have K1 := Lib.hid k1
  clear k1
  go_enter Try.func17, Try.ntmps17
  go_wp2_with fail
  generalize (w.alloc (.cells #[.int .i64 a, .int .i64 3, .int .i64 c, .int .i64 d, .int .i64 u, .int .i64 f, .int .i64 g, .int .i64 k] 25)).alloc (.cells #[.int .i64 0, .int .i64 0, .int .i64 0, .int .i64 0, .int .i64 0, .int .i64 0, .int .i64 0, .int .i64 0] 25) = W at x0 z0 bA ⊢
  generalize w.heap.size + 1 = E at z0 hE ⊢
  refine (K1.out _).mono ?_
  rintro e' w3 ⟨rfl, b3⟩
  have x3 := x0.bw b3
  have z3 := z0.b b3
  have bel3 := bA.trans (b3.mono bA.size)
  clear x0 z0 bA b3
  obtain ⟨c0, c1, c2, c3, c4, c5, c6, c7, f0, f1, f2, f3, f4, f5, f6, f7, -⟩ := z3
  have y1 := x3.c1
  clear x3
  have HN := Lib.hid (fin8 bel3 hE (.int .i64 0) (.int .i64 0) (.int .i64 0) (.int .i64 0) (.int .i64 0) (.int .i64 0) (.int .i64 0) (.int .i64 0))
  clear bel3
  go_wp2_with (first | (go_at_call 33; refine (inR_impl _ _ _ _).mono ?_; rintro e w' ⟨rfl, rfl⟩))
  exact bodyPost_ret (v := .tuple #[.agg #[.int .i64 0, .int .i64 0, .int .i64 0, .int .i64 0, .int .i64 0, .int .i64 0, .int .i64 0, .int .i64 0], .bool false]) (by simp [results, Try.results17, go_sem, c0, c1, c2, c3, c4, c5, c6, c7]) rfl ⟨rfl, HN.out⟩
set_option maxHeartbeats 4000000 in
theorem AN_impl_no4_0 (a c d u f g k r s sp : Int) (hp : D.vp a 3 c d u f g k = true) (hl : inR 0 0 2 = true) (hv2 : D.vp 3 4 0 d sp k r s = false) (w : World) : Calls Try.prog 17 #[.agg #[.int .i64 a, .int .i64 3, .int .i64 c, .int .i64 d, .int .i64 u, .int .i64 f, .int .i64 g, .int .i64 k], .int .i64 r, .int .i64 s, .int .i64 0, .int .i64 sp] w fun e w' => e = .returned (.tuple #[.agg #[.int .i64 0, .int .i64 0, .int .i64 0, .int .i64 0, .int .i64 0, .int .i64 0, .int .i64 0, .int .i64 0], .bool false]) ∧ Below w.heap.size w w' := by
  have k2 := fun w' => vp_impl 3 4 0 d sp k r s w'
  simp only [hv2] at k2
  have K2 := Lib.hid k2
  clear k2 hv2
  have x0 := (C8.new w a 3 c d u f g k 25).al (.cells #[.int .i64 0, .int .i64 0, .int .i64 0, .int .i64 0, .int .i64 0, .int .i64 0, .int .i64 0, .int .i64 0] 25)
  have z0 := E8.new (w.alloc (.cells #[.int .i64 a, .int .i64 3, .int .i64 c, .int .i64 d, .int .i64 u, .int .i64 f, .int .i64 g, .int .i64 k] 25)) 25
  rw [World.size_alloc] at z0
  have bA := ((Below.refl w.heap.size w).alloc (Nat.le_refl _) (.cells #[.int .i64 a, .int .i64 3, .int .i64 c, .int .i64 d, .int .i64 u, .int .i64 f, .int .i64 g, .int .i64 k] 25)).alloc (by simp) (.cells #[.int .i64 0, .int .i64 0, .int .i64 0, .int .i64 0, .int .i64 0, .int .i64 0, .int .i64 0, .int .i64 0] 25)
  have hE : w.heap.size ≤ w.heap.size + 1 := Nat.le_succ _
  have k1 := fun w' => vp_impl a 3 c d u f g k w'
  simp only [hp] at k1
  have K1 := Lib.hid k1
  clear k1
  go_enter Try.func17, Try.ntmps17
  go_wp2_with fail
  generalize (w.alloc (.cells #[.int .i64 a, .int .i64 3, .int .i64 c, .int .i64 d, .int .i64 u, .int .i64 f, .int .i64 g, .int .i64 k] 25)).alloc (.cells #[.int .i64 0, .int .i64 0, .int .i64 0, .int .i64 0, .int .i64 0, .int .i64 0, .int .i64 0, .int .i64 0] 25) = W at x0 z0 bA ⊢
  generalize w.heap.size + 1 = E at z0 hE ⊢
  refine (K1.out _).mono ?_
  rintro e' w3 ⟨rfl, b3⟩
  have x3 := x0.bw b3
  have z3 := z0.b b3
  have bel3 := bA.trans (b3.mono bA.size)
  clear x0 z0 bA b3
  have hEl := z3.lt
  have y1 := x3.c1
  have y3 := x3.c3
  have y7 := x3.c7
  have hD := x3.lt
  clear x3
  have x4 := C8.new w3 3 4 0 d sp k r s 25
  have z4 := z3.al (.cells #[.int .i64 3, .int .i64 4, .int .i64 0, .int .i64 d, .int .i64 sp, .int .i64 k, .int .i64 r, .int .i64 s] 25)
  have bel4 := bel3.alloc bel3.size (.cells #[.int .i64 3, .int .i64 4, .int .i64 0, .int .i64 d, .int .i64 sp, .int .i64 k, .int .i64 r, .int .i64 s] 25)
  clear z3 bel3
  go_upto_region 6 with (first | (go_at_call 33; refine (inR_impl _ _ _ _).mono ?_; rintro e w' ⟨rfl, rfl⟩))
  clear y1 y3 y7
  generalize w3.alloc (.cells #[.int .i64 3, .int .i64 4, .int .i64 0, .int .i64 d, .int .i64 sp, .int .i64 k, .int .i64 r, .int .i64 s] 25) = W4 at x4 z4 bel4 ⊢
  generalize w3.heap.size = F at x4 ⊢
  clear hEl
  have t0 := x4.c0
  have t1 := x4.c1
  have t2 := x4.c2
  have t3 := x4.c3
  have t4 := x4.c4
  have t5 := x4.c5
  have t6 := x4.c6
  have t7 := x4.c7
  go_wp2_with fail
  refine (K2.out _).mono ?_
  rintro e' w5 ⟨rfl, b5⟩
  have x5 := x4.bw b5
  have z5 := z4.b b5
  have bel5 := bel4.trans (b5.mono bel4.size)
  clear x4 z4 bel4 b5 t0 t1 t2 t3 t4 t5 t6 t7
  obtain ⟨c0, c1, c2, c3, c4, c5, c6, c7, f0, f1, f2, f3, f4, f5, f6, f7, -⟩ := z5
  clear x5
  have HN := Lib.hid (fin8 bel5 hE (.int .i64 0) (.int .i64 0) (.int .i64 0) (.int .i64 0) (.int .i64 0) (.int .i64 0) (.int .i64 0) (.int .i64 0))
  clear bel5
  go_wp2_with (first | (go_at_call 33; refine (inR_impl _ _ _ _).mono ?_; rintro e w' ⟨rfl, rfl⟩))
  exact bodyPost_ret (v := .tuple #[.agg #[.int .i64 0, .int .i64 0, .int .i64 0, .int .i64 0, .int .i64 0, .int .i64 0, .int .i64 0, .int .i64 0], .bool false]) (by simp [results, Try.results17, go_sem, c0, c1, c2, c3, c4, c5, c6, c7]) rfl ⟨rfl, HN.out⟩
set_option maxHeartbeats 4000000 in
theorem AN_impl_no5_0 (a c d u f g k r s sp : Int) (hp : D.vp a 3 c d u f g k = true) (hl : inR 0 0 2 = true) (hv2 : D.vp 3 4 0 d sp k r s = true) (hlt : s < r) (w : World) : Calls Try.prog 17 #[.agg #[.int .i64 a, .int .i64 3, .int .i64 c, .int .i64 d, .int .i64 u, .int .i64 f, .int .i64 g, .int .i64 k], .int .i64 r, .int .i64 s, .int .i64 0, .int .i64 sp] w fun e w' => e = .returned (.tuple #[.agg #[.int .i64 0, .int .i64 0, .int .i64 0, .int .i64 0, .int .i64 0, .int .i64 0, .int .i64 0, .int .i64 0], .bool false]) ∧ Below w.heap.size w w' := by
  have k2 := fun w' => vp_impl 3 4 0 d sp k r s w'
  simp only [hv2] at k2
  have K2 := Lib.hid k2
  clear k2 hv2
  have x0 := (C8.new w a 3 c d u f g k 25).al (.cells #[.int .i64 0, .int .i64 0, .int .i64 0, .int .i64 0, .int .i64 0, .int .i64 0, .int .i64 0, .int .i64 0] 25)
  have z0 := E8.new (w.alloc (.cells #[.int .i64 a, .int .i64 3, .int .i64 c, .int .i64 d, .int .i64 u, .int .i64 f, .int .i64 g, .int .i64 k] 25)) 25
  rw [World.size_alloc] at z0
  have bA := ((Below.refl w.heap.size w).alloc (Nat.le_refl _) (.cells #[.int .i64 a, .int .i64 3, .int .i64 c, .int .i64 d, .int .i64 u, .int .i64 f, .int .i64 g, .int .i64 k] 25)).alloc (by simp) (.cells #[.int .i64 0, .int .i64 0, .int .i64 0, .int .i64 0, .int .i64 0, .int .i64 0, .int .i64 0, .int .i64 0] 25)
  have hE : w.heap.size ≤ w.heap.size + 1 := Nat.le_succ _
  have k1 := fun w' => vp_impl a 3 c d u f g k w'
  simp only [hp] at k1
  have K1 := Lib.hid k1
  clear k1
  go_enter Try.func17, Try.ntmps17
  go_wp2_with fail
  generalize (w.alloc (.cells #[.int .i64 a, .int .i64 3, .int .i64 c, .int .i64 d, .int .i64 u, .int .i64 f, .int .i64 g, .int .i64 k] 25)).alloc (.cells #[.int .i64 0, .int .i64 0, .int .i64 0, .int .i64 0, .int .i64 0, .int .i64 0, .int .i64 0, .int .i64 0] 25) = W at x0 z0 bA ⊢
  generalize w.heap.size + 1 = E at z0 hE ⊢
  refine (K1.out _).mono ?_
  rintro e' w3 ⟨rfl, b3⟩
  have x3 := x0.bw b3
  have z3 := z0.b b3
  have bel3 := bA.trans (b3.mono bA.size)
  clear x0 z0 bA b3
  have hEl := z3.lt
  have y1 := x3.c1
  have y3 := x3.c3
  have y7 := x3.c7
  have hD := x3.lt
  clear x3
  have x4 := C8.new w3 3 4 0 d sp k r s 25
  have z4 := z3.al (.cells #[.int .i64 3, .int .i64 4, .int .i64 0, .int .i64 d, .int .i64 sp, .int .i64 k, .int .i64 r, .int .i64 s] 25)
  have bel4 := bel3.alloc bel3.size (.cells #[.int .i64 3, .int .i64 4, .int .i64 0, .int .i64 d, .int .i64 sp, .int .i64 k, .int .i64 r, .int .i64 s] 25)
  clear z3 bel3
  go_upto_region 6 with (first | (go_at_call 33; refine (inR_impl _ _ _ _).mono ?_; rintro e w' ⟨rfl, rfl⟩))
  clear y1 y3 y7
  generalize w3.alloc (.cells #[.int .i64 3, .int .i64 4, .int .i64 0, .int .i64 d, .int .i64 sp, .int .i64 k, .int .i64 r, .int .i64 s] 25) = W4 at x4 z4 bel4 ⊢
  generalize w3.heap.size = F at x4 ⊢
  clear hEl
  have t0 := x4.c0
  have t1 := x4.c1
  have t2 := x4.c2
  have t3 := x4.c3
  have t4 := x4.c4
  have t5 := x4.c5
  have t6 := x4.c6
  have t7 := x4.c7
  go_wp2_with fail
  refine (K2.out _).mono ?_
  rintro e' w5 ⟨rfl, b5⟩
  have x5 := x4.bw b5
  have z5 := z4.b b5
  have bel5 := bel4.trans (b5.mono bel4.size)
  clear x4 z4 bel4 b5 t0 t1 t2 t3 t4 t5 t6 t7
  obtain ⟨c0, c1, c2, c3, c4, c5, c6, c7, f0, f1, f2, f3, f4, f5, f6, f7, -⟩ := z5
  clear x5
  have HN := Lib.hid (fin8 bel5 hE (.int .i64 0) (.int .i64 0) (.int .i64 0) (.int .i64 0) (.int .i64 0) (.int .i64 0) (.int .i64 0) (.int .i64 0))
  clear bel5
  go_wp2_with (first | (go_at_call 33; refine (inR_impl _ _ _ _).mono ?_; rintro e w' ⟨rfl, rfl⟩))
  exact bodyPost_ret (v := .tuple #[.agg #[.int .i64 0, .int .i64 0, .int .i64 0, .int .i64 0, .int .i64 0, .int .i64 0, .int .i64 0, .int .i64 0], .bool false]) (by simp [results, Try.results17, go_sem, c0, c1, c2, c3, c4, c5, c6, c7]) rfl ⟨rfl, HN.out⟩
set_option maxHeartbeats 4000000 in
theorem AN_impl_yes_0 (a c d u f g k r s sp : Int) (hp : D.vp a 3 c d u f g k = true) (hl : inR 0 0 2 = true) (hv2 : D.vp 3 4 0 d sp k r s = true) (hge : ¬ s < r) (w : World) : Calls Try.prog 17 #[.agg #[.int .i64 a, .int .i64 3, .int .i64 c, .int .i64 d, .int .i64 u, .int .i64 f, .int .i64 g, .int .i64 k], .int .i64 r, .int .i64 s, .int .i64 0, .int .i64 sp] w fun e w' => e = .returned (.tuple #[.agg #[.int .i64 3, .int .i64 4, .int .i64 0, .int .i64 d, .int .i64 sp, .int .i64 k, .int .i64 r, .int .i64 s], .bool true]) ∧ Below w.heap.size w w' := by
  have k2 := fun w' => vp_impl 3 4 0 d sp k r s w'
  simp only [hv2] at k2
  have K2 := Lib.hid k2
  clear k2 hv2
  have x0 := (C8.new w a 3 c d u f g k 25).al (.cells #[.int .i64 0, .int .i64 0, .int .i64 0, .int .i64 0, .int .i64 0, .int .i64 0, .int .i64 0, .int .i64 0] 25)
  have z0 := E8.new (w.alloc (.cells #[.int .i64 a, .int .i64 3, .int .i64 c, .int .i64 d, .int .i64 u, .int .i64 f, .int .i64 g, .int .i64 k] 25)) 25
  rw [World.size_alloc] at z0
  have bA := ((Below.refl w.heap.size w).alloc (Nat.le_refl _) (.cells #[.int .i64 a, .int .i64 3, .int .i64 c, .int .i64 d, .int .i64 u, .int .i64 f, .int .i64 g, .int .i64 k] 25)).alloc (by simp) (.cells #[.int .i64 0, .int .i64 0, .int .i64 0, .int .i64 0, .int .i64 0, .int .i64 0, .int .i64 0, .int .i64 0] 25)
  have hE : w.heap.size ≤ w.heap.size + 1 := Nat.le_succ _
  have k1 := fun w' => vp_impl a 3 c d u f g k w'
  simp only [hp] at k1
  have K1 := Lib.hid k1
  clear k1
  go_enter Try.func17, Try.ntmps17
  go_wp2_with fail
  generalize (w.alloc (.cells #[.int .i64 a, .int .i64 3, .int .i64 c, .int .i64 d, .int .i64 u, .int .i64 f, .int .i64 g, .int .i64 k] 25)).alloc (.cells #[.int .i64 0, .int .i64 0, .int .i64 0, .int .i64 0, .int .i64 0, .int .i64 0, .int .i64 0, .int .i64 0] 25) = W at x0 z0 bA ⊢
  generalize w.heap.size + 1 = E at z0 hE ⊢
  refine (K1.out _).mono ?_
  rintro e' w3 ⟨rfl, b3⟩
  have x3 := x0.bw b3
  have z3 := z0.b b3
  have bel3 := bA.trans (b3.mono bA.size)
  clear x0 z0 bA b3
  have hEl := z3.lt
  have y1 := x3.c1
  have y3 := x3.c3
  have y7 := x3.c7
  have hD := x3.lt
  clear x3
  have x4 := C8.new w3 3 4 0 d sp k r s 25
  have z4 := z3.al (.cells #[.int .i64 3, .int .i64 4, .int .i64 0, .int .i64 d, .int .i64 sp, .int .i64 k, .int .i64 r, .int .i64 s] 25)
  have bel4 := bel3.alloc bel3.size (.cells #[.int .i64 3, .int .i64 4, .int .i64 0, .int .i64 d, .int .i64 sp, .int .i64 k, .int .i64 r, .int .i64 s] 25)
  clear z3 bel3
  go_upto_region 6 with (first | (go_at_call 33; refine (inR_impl _ _ _ _).mono ?_; rintro e w' ⟨rfl, rfl⟩))
  clear y1 y3 y7
  generalize w3.alloc (.cells #[.int .i64 3, .int .i64 4, .int .i64 0, .int .i64 d, .int .i64 sp, .int .i64 k, .int .i64 r, .int .i64 s] 25) = W4 at x4 z4 bel4 ⊢
  generalize w3.heap.size = F at x4 ⊢
  clear hEl
  have t0 := x4.c0
  have t1 := x4.c1
  have t2 := x4.c2
  have t3 := x4.c3
  have t4 := x4.c4
  have t5 := x4.c5
  have t6 := x4.c6
  have t7 := x4.c7
  go_wp2_with fail
  refine (K2.out _).mono ?_
  rintro e' w5 ⟨rfl, b5⟩
  have x5 := x4.bw b5
  have z5 := z4.b b5
  have bel5 := bel4.trans (b5.mono bel4.size)
  clear x4 z4 bel4 b5 t0 t1 t2 t3 t4 t5 t6 t7
  have t0 := x5.c0
  have t1 := x5.c1
  have t2 := x5.c2
  have t3 := x5.c3
  have t4 := x5.c4
  have t5 := x5.c5
  have t6 := x5.c6
  have t7 := x5.c7
  obtain ⟨c0, c1, c2, c3, c4, c5, c6, c7, f0, f1, f2, f3, f4, f5, f6, f7, -⟩ := z5
  clear x5
  have HN := Lib.hid (fin8 bel5 hE (.int .i64 3) (.int .i64 4) (.int .i64 0) (.int .i64 d) (.int .i64 sp) (.int .i64 k) (.int .i64 r) (.int .i64 s))
  clear bel5
  go_wp2_with (first | (go_at_call 33; refine (inR_impl _ _ _ _).mono ?_; rintro e w' ⟨rfl, rfl⟩))
  exact bodyPost_ret (v := .tuple #[.agg #[.int .i64 3, .int .i64 4, .int .i64 0, .int .i64 d, .int .i64 sp, .int .i64 k, .int .i64 r, .int .i64 s], .bool true]) (by simp [results, Try.results17, go_sem, c0, c1, c2, c3, c4, c5, c6, c7]) rfl ⟨rfl, HN.out⟩
set_option maxHeartbeats 4000000 in
theorem AN_impl_no4_1 (a c d u f g k r s lv sp : Int) (hp : D.vp a 3 c d u f g k = true) (hl : inR lv 0 2 = true) (hz : ¬ lv = 0) (hv2 : D.vp 0 4 1 d sp k r s = false) (w : World) : Calls Try.prog 17 #[.agg #[.int .i64 a, .int .i64 3, .int .i64 c, .int .i64 d, .int .i64 u, .int .i64 f, .int .i64 g, .int .i64 k], .int .i64 r, .int .i64 s, .int .i64 lv, .int .i64 sp] w fun e w' => e = .returned (.tuple #[.agg #[.int .i64 0, .int .i64 0, .int .i64 0, .int .i64 0, .int .i64 0, .int .i64 0, .int .i64 0, .int .i64 0], .bool false]) ∧ Below w.heap.size w w' := by
  have k2 := fun w' => vp_impl 0 4 1 d sp k r s w'
  simp only [hv2] at k2
  have K2 := Lib.hid k2
  clear k2 hv2
  have x0 := (C8.new w a 3 c d u f g k 25).al (.cells #[.int .i64 0, .int .i64 0, .int .i64 0, .int .i64 0, .int .i64 0, .int .i64 0, .int .i64 0, .int .i64 0] 25)
  have z0 := E8.new (w.alloc (.cells #[.int .i64 a, .int .i64 3, .int .i64 c, .int .i64 d, .int .i64 u, .int .i64 f, .int .i64 g, .int .i64 k] 25)) 25
  rw [World.size_alloc] at z0
  have bA := ((Below.refl w.heap.size w).alloc (Nat.le_refl _) (.cells #[.int .i64 a, .int .i64 3, .int .i64 c, .int .i64 d, .int .i64 u, .int .i64 f, .int .i64 g, .int .i64 k] 25)).alloc (by simp) (.cells #[.int .i64 0, .int .i64 0, .int .i64 0, .int .i64 0, .int .i64 0, .int .i64 0, .int .i64 0, .int .i64 0] 25)
  have hE : w.heap.size ≤ w.heap.size + 1 := Nat.le_succ _
  have k1 := fun w' => vp_impl a 3 c d u f g k w'
  simp only [hp] at k1
  have K1 := Lib.hid k1
  clear k1
  go_enter Try.func17, Try.ntmps17
  go_wp2_with fail
  generalize (w.alloc (.cells #[.int .i64 a, .int .i64 3, .int .i64 c, .int .i64 d, .int .i64 u, .int .i64 f, .int .i64 g, .int .i64 k] 25)).alloc (.cells #[.int .i64 0, .int .i64 0, .int .i64 0, .int .i64 0, .int .i64 0, .int .i64 0, .int .i64 0, .int .i64 0] 25) = W at x0 z0 bA ⊢
  generalize w.heap.size + 1 = E at z0 hE ⊢
  refine (K1.out _).mono ?_
  rintro e' w3 ⟨rfl, b3⟩
  have x3 := x0.bw b3
  have z3 := z0.b b3
  have bel3 := bA.trans (b3.mono bA.size)
  clear x0 z0 bA b3
  have hEl := z3.lt
  have y1 := x3.c1
  have y3 := x3.c3
  have y7 := x3.c7
  have hD := x3.lt
  clear x3
  have hz1 : (lv == 0) = false := by rw [beq_eq_false_iff_ne]; exact hz
  clear hz
  have x4 := C8.new w3 0 4 1 d sp k r s 25
  have z4 := z3.al (.cells #[.int .i64 0, .int .i64 4, .int .i64 1, .int .i64 d, .int .i64 sp, .int .i64 k, .int .i64 r, .int .i64 s] 25)
  have bel4 := bel3.alloc bel3.size (.cells #[.int .i64 0, .int .i64 4, .int .i64 1, .int .i64 d, .int .i64 sp, .int .i64 k, .int .i64 r, .int .i64 s] 25)
  clear z3 bel3
  go_upto_region 6 with (first | (go_at_call 33; refine (inR_impl _ _ _ _).mono ?_; rintro e w' ⟨rfl, rfl⟩))
  clear y1 y3 y7
  generalize w3.alloc (.cells #[.int .i64 0, .int .i64 4, .int .i64 1, .int .i64 d, .int .i64 sp, .int .i64 k, .int .i64 r, .int .i64 s] 25) = W4 at x4 z4 bel4 ⊢
  generalize w3.heap.size = F at x4 ⊢
  clear hEl
  have t0 := x4.c0
  have t1 := x4.c1
  have t2 := x4.c2
  have t3 := x4.c3
  have t4 := x4.c4
  have t5 := x4.c5
  have t6 := x4.c6
  have t7 := x4.c7
  go_wp2_with fail
  refine (K2.out _).mono ?_
  rintro e' w5 ⟨rfl, b5⟩
  have x5 := x4.bw b5
  have z5 := z4.b b5
  have bel5 := bel4.trans (b5.mono bel4.size)
  clear x4 z4 bel4 b5 t0 t1 t2 t3 t4 t5 t6 t7
  obtain ⟨c0, c1, c2, c3, c4, c5, c6, c7, f0, f1, f2, f3, f4, f5, f6, f7, -⟩ := z5
  clear x5
  have HN := Lib.hid (fin8 bel5 hE (.int .i64 0) (.int .i64 0) (.int .i64 0) (.int .i64 0) (.int .i64 0) (.int .i64 0) (.int .i64 0) (.int .i64 0))
  clear bel5
  go_wp2_with (first | (go_at_call 33; refine (inR_impl _ _ _ _).mono ?_; rintro e w' ⟨rfl, rfl⟩))
  exact bodyPost_ret (v := .tuple #[.agg #[.int .i64 0, .int .i64 0, .int .i64 0, .int .i64 0, .int .i64 0, .int .i64 0, .int .i64 0, .int .i64 0], .bool false]) (by simp [results, Try.results17, go_sem, c0, c1, c2, c3, c4, c5, c6, c7]) rfl ⟨rfl, HN.out⟩
set_option maxHeartbeats 4000000 in
theorem AN_impl_no5_1 (a c d u f g k r s lv sp : Int) (hp : D.vp a 3 c d u f g k = true) (hl : inR lv 0 2 = true) (hz : ¬ lv = 0) (hv2 : D.vp 0 4 1 d sp k r s = true) (hlt : s < r) (w : World) : Calls Try.prog 17 #[.agg #[.int .i64 a, .int .i64 3, .int .i64 c, .int .i64 d, .int .i64 u, .int .i64 f, .int .i64 g, .int .i64 k], .int .i64 r, .int .i64 s, .int .i64 lv, .int .i64 sp] w fun e w' => e = .returned (.tuple #[.agg #[.int .i64 0, .int .i64 0, .int .i64 0, .int .i64 0, .int .i64 0, .int .i64 0, .int .i64 0, .int .i64 0], .bool false]) ∧ Below w.heap.size w w' := by
  have k2 := fun w' => vp_impl 0 4 1 d sp k r s w'
  simp only [hv2] at k2
  have K2 := Lib.hid k2
  clear k2 hv2
  have x0 := (C8.new w a 3 c d u f g k 25).al (.cells #[.int .i64 0, .int .i64 0, .int .i64 0, .int .i64 0, .int .i64 0, .int .i64 0, .int .i64 0, .int .i64 0] 25)
  have z0 := E8.new (w.alloc (.cells #[.int .i64 a, .int .i64 3, .int .i64 c, .int .i64 d, .int .i64 u, .int .i64 f, .int .i64 g, .int .i64 k] 25)) 25
  rw [World.size_alloc] at z0
  have bA := ((Below.refl w.heap.size w).alloc (Nat.le_refl _) (.cells #[.int .i64 a, .int .i64 3, .int .i64 c, .int .i64 d, .int .i64 u, .int .i64 f, .int .i64 g, .int .i64 k] 25)).alloc (by simp) (.cells #[.int .i64 0, .int .i64 0, .int .i64 0, .int .i64 0, .int .i64 0, .int .i64 0, .int .i64 0, .int .i64 0] 25)
  have hE : w.heap.size ≤ w.heap.size + 1 := Nat.le_succ _
  have k1 := fun w' => vp_impl a 3 c d u f g k w'
  simp only [hp] at k1
  have K1 := Lib.hid k1
  clear k1
  go_enter Try.func17, Try.ntmps17
  go_wp2_with fail
  generalize (w.alloc (.cells #[.int .i64 a, .int .i64 3, .int .i64 c, .int .i64 d, .int .i64 u, .int .i64 f, .int .i64 g, .int .i64 k] 25)).alloc (.cells #[.int .i64 0, .int .i64 0, .int .i64 0, .int .i64 0, .int .i64 0, .int .i64 0, .int .i64 0, .int .i64 0] 25) = W at x0 z0 bA ⊢
  generalize w.heap.size + 1 = E at z0 hE ⊢
  refine (K1.out _).mono ?_
  rintro e' w3 ⟨rfl, b3⟩
  have x3 := x0.bw b3
  have z3 := z0.b b3
  have bel3 := bA.trans (b3.mono bA.size)
  clear x0 z0 bA b3
  have hEl := z3.lt
  have y1 := x3.c1
  have y3 := x3.c3
  have y7 := x3.c7
  have hD := x3.lt
  clear x3
  have hz1 : (lv == 0) = false := by rw [beq_eq_false_iff_ne]; exact hz
  clear hz
  have x4 := C8.new w3 0 4 1 d sp k r s 25
  have z4 := z3.al (.cells #[.int .i64 0, .int .i64 4, .int .i64 1, .int .i64 d, .int .i64 sp, .int .i64 k, .int .i64 r, .int .i64 s] 25)
  have bel4 := bel3.alloc bel3.size (.cells #[.int .i64 0, .int .i64 4, .int .i64 1, .int .i64 d, .int .i64 sp, .int .i64 k, .int .i64 r, .int .i64 s] 25)
  clear z3 bel3
  go_upto_region 6 with (first | (go_at_call 33; refine (inR_impl _ _ _ _).mono ?_; rintro e w' ⟨rfl, rfl⟩))
  clear y1 y3 y7
  generalize w3.alloc (.cells #[.int .i64 0, .int .i64 4, .int .i64 1, .int .i64 d, .int .i64 sp, .int .i64 k, .int .i64 r, .int .i64 s] 25) = W4 at x4 z4 bel4 ⊢
  generalize w3.heap.size = F at x4 ⊢
  clear hEl
  have t0 := x4.c0
  have t1 := x4.c1
  have t2 := x4.c2
  have t3 := x4.c3
  have t4 := x4.c4
  have t5 := x4.c5
  have t6 := x4.c6
  have t7 := x4.c7
  go_wp2_with fail
  refine (K2.out _).mono ?_
  rintro e' w5 ⟨rfl, b5⟩
  have x5 := x4.bw b5
  have z5 := z4.b b5
  have bel5 := bel4.trans (b5.mono bel4.size)
  clear x4 z4 bel4 b5 t0 t1 t2 t3 t4 t5 t6 t7
  obtain ⟨c0, c1, c2, c3, c4, c5, c6, c7, f0, f1, f2, f3, f4, f5, f6, f7, -⟩ := z5
  clear x5
  have HN := Lib.hid (fin8 bel5 hE (.int .i64 0) (.int .i64 0) (.int .i64 0) (.int .i64 0) (.int .i64 0) (.int .i64 0) (.int .i64 0) (.int .i64 0))
  clear bel5
  go_wp2_with (first | (go_at_call 33; refine (inR_impl _ _ _ _).mono ?_; rintro e w' ⟨rfl, rfl⟩))
  exact bodyPost_ret (v := .tuple #[.agg #[.int .i64 0, .int .i64 0, .int .i64 0, .int .i64 0, .int .i64 0, .int .i64 0, .int .i64 0, .int .i64 0], .bool false]) (by simp [results, Try.results17, go_sem, c0, c1, c2, c3, c4, c5, c6, c7]) rfl ⟨rfl, HN.out⟩
set_option maxHeartbeats 4000000 in
theorem AN_impl_yes_1 (a c d u f g k r s lv sp : Int) (hp : D.vp a 3 c d u f g k = true) (hl : inR lv 0 2 = true) (hz : ¬ lv = 0) (hv2 : D.vp 0 4 1 d sp k r s = true) (hge : ¬ s < r) (w : World) : Calls Try.prog 17 #[.agg #[.int .i64 a, .int .i64 3, .int .i64 c, .int .i64 d, .int .i64 u, .int .i64 f, .int .i64 g, .int .i64 k], .int .i64 r, .int .i64 s, .int .i64 lv, .int .i64 sp] w fun e w' => e = .returned (.tuple #[.agg #[.int .i64 0, .int .i64 4, .int .i64 1, .int .i64 d, .int .i64 sp, .int .i64 k, .int .i64 r, .int .i64 s], .bool true]) ∧ Below w.heap.size w w' := by
  have k2 := fun w' => vp_impl 0 4 1 d sp k r s w'
  simp only [hv2] at k2
  have K2 := Lib.hid k2
  clear k2 hv2
  have x0 := (C8.new w a 3 c d u f g k 25).al (.cells #[.int .i64 0, .int .i64 0, .int .i64 0, .int .i64 0, .int .i64 0, .int .i64 0, .int .i64 0, .int .i64 0] 25)
  have z0 := E8.new (w.alloc (.cells #[.int .i64 a, .int .i64 3, .int .i64 c, .int .i64 d, .int .i64 u, .int .i64 f, .int .i64 g, .int .i64 k] 25)) 25
  rw [World.size_alloc] at z0
  have bA := ((Below.refl w.heap.size w).alloc (Nat.le_refl _) (.cells #[.int .i64 a, .int .i64 3, .int .i64 c, .int .i64 d, .int .i64 u, .int .i64 f, .int .i64 g, .int .i64 k] 25)).alloc (by simp) (.cells #[.int .i64 0, .int .i64 0, .int .i64 0, .int .i64 0, .int .i64 0, .int .i64 0, .int .i64 0, .int .i64 0] 25)
  have hE : w.heap.size ≤ w.heap.size + 1 := Nat.le_succ _
  have k1 := fun w' => vp_impl a 3 c d u f g k w'
  simp only [hp] at k1
  have K1 := Lib.hid k1
  clear k1
  go_enter Try.func17, Try.ntmps17
  go_wp2_with fail
  generalize (w.alloc (.cells #[.int .i64 a, .int .i64 3, .int .i64 c, .int .i64 d, .int .i64 u, .int .i64 f, .int .i64 g, .int .i64 k] 25)).alloc (.cells #[.int .i64 0, .int .i64 0, .int .i64 0, .int .i64 0, .int .i64 0, .int .i64 0, .int .i64 0, .int .i64 0] 25) = W at x0 z0 bA ⊢
  generalize w.heap.size + 1 = E at z0 hE ⊢
  refine (K1.out _).mono ?_
  rintro e' w3 ⟨rfl, b3⟩
  have x3 := x0.bw b3
  have z3 := z0.b b3
  have bel3 := bA.trans (b3.mono bA.size)
  clear x0 z0 bA b3
  have hEl := z3.lt
  have y1 := x3.c1
  have y3 := x3.c3
  have y7 := x3.c7
  have hD := x3.lt
  clear x3
  have hz1 : (lv == 0) = false := by rw [beq_eq_false_iff_ne]; exact hz
  clear hz
  have x4 := C8.new w3 0 4 1 d sp k r s 25
  have z4 := z3.al (.cells #[.int .i64 0, .int .i64 4, .int .i64 1, .int .i64 d, .int .i64 sp, .int .i64 k, .int .i64 r, .int .i64 s] 25)
  have bel4 := bel3.alloc bel3.size (.cells #[.int .i64 0, .int .i64 4, .int .i64 1, .int .i64 d, .int .i64 sp, .int .i64 k, .int .i64 r, .int .i64 s] 25)
  clear z3 bel3
  go_upto_region 6 with (first | (go_at_call 33; refine (inR_impl _ _ _ _).mono ?_; rintro e w' ⟨rfl, rfl⟩))
  clear y1 y3 y7
  generalize w3.alloc (.cells #[.int .i64 0, .int .i64 4, .int .i64 1, .int .i64 d, .int .i64 sp, .int .i64 k, .int .i64 r, .int .i64 s] 25) = W4 at x4 z4 bel4 ⊢
  generalize w3.heap.size = F at x4 ⊢
  clear hEl
  have t0 := x4.c0
  have t1 := x4.c1
  have t2 := x4.c2
  have t3 := x4.c3
  have t4 := x4.c4
  have t5 := x4.c5
  have t6 := x4.c6
  have t7 := x4.c7
  go_wp2_with fail
  refine (K2.out _).mono ?_
  rintro e' w5 ⟨rfl, b5⟩
  have x5 := x4.bw b5
  have z5 := z4.b b5
  have bel5 := bel4.trans (b5.mono bel4.size)
  clear x4 z4 bel4 b5 t0 t1 t2 t3 t4 t5 t6 t7
  have t0 := x5.c0
  have t1 := x5.c1
  have t2 := x5.c2
  have t3 := x5.c3
  have t4 := x5.c4
  have t5 := x5.c5
  have t6 := x5.c6
  have t7 := x5.c7
  obtain ⟨c0, c1, c2, c3, c4, c5, c6, c7, f0, f1, f2, f3, f4, f5, f6, f7, -⟩ := z5
  clear x5
  have HN := Lib.hid (fin8 bel5 hE (.int .i64 0) (.int .i64 4) (.int .i64 1) (.int .i64 d) (.int .i64 sp) (.int .i64 k) (.int .i64 r) (.int .i64 s))
  clear bel5
  go_wp2_with (first | (go_at_call 33; refine (inR_impl _ _ _ _).mono ?_; rintro e w' ⟨rfl, rfl⟩))
  exact bodyPost_ret (v := .tuple #[.agg #[.int .i64 0, .int .i64 4, .int .i64 1, .int .i64 d, .int .i64 sp, .int .i64 k, .int .i64 r, .int .i64 s], .bool true]) (by simp [results, Try.results17, go_sem, c0, c1, c2, c3, c4, c5, c6, c7]) rfl ⟨rfl, HN.out⟩
set_option maxHeartbeats 2000000 in
theorem AN_spec_no1 (a b c d u f g k r s lv sp : Int) (hp : D.vp a b c d u f g k = false) (w : World) : Calls Try.prog 18 #[.agg #[.int .i64 a, .int .i64 b, .int .i64 c, .int .i64 d, .int .i64 u, .int .i64 f, .int .i64 g, .int .i64 k], .int .i64 r, .int .i64 s, .int .i64 lv, .int .i64 sp] w fun e w' => e = .returned (.tuple #[.agg #[.int .i64 0, .int .i64 0, .int .i64 0, .int .i64 0, .int .i64 0, .int .i64 0, .int .i64 0, .int .i64 0], .bool false]) ∧ Below w.heap.size w w' := by
  have x0 := (C8.new w a b c d u f g k 25).al (.cells #[.int .i64 0, .int .i64 0, .int .i64 0, .int .i64 0, .int .i64 0, .int .i64 0, .int .i64 0, .int .i64 0] 25)
  have z0 := E8.new (w.alloc (.cells #[.int .i64 a, .int .i64 b, .int .i64 c, .int .i64 d, .int .i64 u, .int .i64 f, .int .i64 g, .int .i64 k] 25)) 25
  rw [World.size_alloc] at z0
  have bA := ((Below.refl w.heap.size w).alloc (Nat.le_refl _) (.cells #[.int .i64 a, .int .i64 b, .int .i64 c, .int .i64 d, .int .i64 u, .int .i64 f, .int .i64 g, .int .i64 k] 25)).alloc (by simp) (.cells #[.int .i64 0, .int .i64 0, .int .i64 0, .int .i64 0, .int .i64 0, .int .i64 0, .int .i64 0, .int .i64 0] 25)
  have hE : w.heap.size ≤ w.heap.size + 1 := Nat.le_succ _
  have k1 := fun w' => vp_spec a b c d u f g k w'
  simp only [hp] at k1
  have K1 := Lib.hid k1
  clear k1
  go_enter Try.func18, Try.ntmps18
  go_wp2_with fail
  generalize (w.alloc (.cells #[.int .i64 a, .int .i64 b, .int .i64 c, .int .i64 d, .int .i64 u, .int .i64 f, .int .i64 g, .int .i64 k] 25)).alloc (.cells #[.int .i64 0, .int .i64 0, .int .i64 0, .int .i64 0, .int .i64 0, .int .i64 0, .int .i64 0, .int .i64 0] 25) = W at x0 z0 bA ⊢
  generalize w.heap.size + 1 = E at z0 hE ⊢
  refine (K1.out _).mono ?_
  rintro e' w3 ⟨rfl, b3⟩
  have x3 := x0.bw b3
  have z3 := z0.b b3
  have bel3 := bA.trans (b3.mono bA.size)
  clear x0 z0 bA b3
  obtain ⟨c0, c1, c2, c3, c4, c5, c6, c7, f0, f1, f2, f3, f4, f5, f6, f7, -⟩ := z3
  clear x3
  have HN := Lib.hid (fin8 bel3 hE (.int .i64 0) (.int .i64 0) (.int .i64 0) (.int .i64 0) (.int .i64 0) (.int .i64 0) (.int .i64 0) (.int .i64 0))
  clear bel3
  go_wp2_with (first | (go_at_call 40; refine (inR_spec _ _ _ _).mono ?_; rintro e w' ⟨rfl, rfl⟩) | (go_at_call 32; refine (vst_spec _ _).mono ?_; rintro e w' ⟨rfl, rfl⟩))
  exact bodyPost_ret (v := .tuple #[.agg #[.int .i64 0, .int .i64 0, .int .i64 0, .int .i64 0, .int .i64 0, .int .i64 0, .int .i64 0, .int .i64 0], .bool false]) (by simp [results, Try.results18, go_sem, c0, c1, c2, c3, c4, c5, c6, c7]) rfl ⟨rfl, HN.out⟩
set_option maxHeartbeats 2000000 in
theorem AN_spec_no2 (a b c d u f g k r s lv sp : Int) (hp : D.vp a b c d u f g k = true)  (hb : ¬ b = 3) (w : World) : Calls Try.prog 18 #[.agg #[.int .i64 a, .int .i64 b, .int .i64 c, .int .i64 d, .int .i64 u, .int .i64 f, .int .i64 g, .int .i64 k], .int .i64 r, .int .i64 s, .int .i64 lv, .int .i64 sp] w fun e w' => e = .returned (.tuple #[.agg #[.int .i64 0, .int .i64 0, .int .i64 0, .int .i64 0, .int .i64 0, .int .i64 0, .int .i64 0, .int .i64 0], .bool false]) ∧ Below w.heap.size w w' := by
  have x0 := (C8.new w a b c d u f g k 25).al (.cells #[.int .i64 0, .int .i64 0, .int .i64 0, .int .i64 0, .int .i64 0, .int .i64 0, .int .i64 0, .int .i64 0] 25)
  have z0 := E8.new (w.alloc (.cells #[.int .i64 a, .int .i64 b, .int .i64 c, .int .i64 d, .int .i64 u, .int .i64 f, .int .i64 g, .int .i64 k] 25)) 25
  rw [World.size_alloc] at z0
  have bA := ((Below.refl w.heap.size w).alloc (Nat.le_refl _) (.cells #[.int .i64 a, .int .i64 b, .int .i64 c, .int .i64 d, .int .i64 u, .int .i64 f, .int .i64 g, .int .i64 k] 25)).alloc (by simp) (.cells #[.int .i64 0, .int .i64 0, .int .i64 0, .int .i64 0, .int .i64 0, .int .i64 0, .int .i64 0, .int .i64 0] 25)
  have hE : w.heap.size ≤ w.heap.size + 1 := Nat.le_succ _
  have k1 := fun w' => vp_spec a b c d u f g k w'
  simp only [hp] at k1
  have K1 := Lib.hid k1
  clear k1
  go_enter Try.func18, Try.ntmps18
  go_wp2_with fail
  generalize (w.alloc (.cells #[.int .i64 a, .int .i64 b, .int .i64 c, .int .i64 d, .int .i64 u, .int .i64 f, .int .i64 g, .int .i64 k] 25)).alloc (.cells #[.int .i64 0, .int .i64 0, .int .i64 0, .int .i64 0, .int .i64 0, .int .i64 0, .int .i64 0, .int .i64 0] 25) = W at x0 z0 bA ⊢
  generalize w.heap.size + 1 = E at z0 hE ⊢
  refine (K1.out _).mono ?_
  rintro e' w3 ⟨rfl, b3⟩
  have x3 := x0.bw b3
  have z3 := z0.b b3
  have bel3 := bA.trans (b3.mono bA.size)
  clear x0 z0 bA b3
  obtain ⟨c0, c1, c2, c3, c4, c5, c6, c7, f0, f1, f2, f3, f4, f5, f6, f7, -⟩ := z3
  have y1 := x3.c1
  clear x3
  have hb1 : (b == 3) = false := by rw [beq_eq_false_iff_ne]; exact hb
  have hb2 : (b != 3) = true := by rw [bne_iff_ne]; exact hb
  clear hb
  have HN := Lib.hid (fin8 bel3 hE (.int .i64 0) (.int .i64 0) (.int .i64 0) (.int .i64 0) (.int .i64 0) (.int .i64 0) (.int .i64 0) (.int .i64 0))
  clear bel3
  go_wp2_with (first | (go_at_call 40; refine (inR_spec _ _ _ _).mono ?_; rintro e w' ⟨rfl, rfl⟩) | (go_at_call 32; refine (vst_spec _ _).mono ?_; rintro e w' ⟨rfl, rfl⟩))
  exact bodyPost_ret (v := .tuple #[.agg #[.int .i64 0, .int .i64 0, .int .i64 0, .int .i64 0, .int .i64 0, .int .i64 0, .int .i64 0, .int .i64 0], .bool false]) (by simp [results, Try.results18, go_sem, c0, c1, c2, c3, c4, c5, c6, c7]) rfl ⟨rfl, HN.out⟩
set_option maxHeartbeats 2000000 in
theorem AN_spec_no3 (a b c d u f g k r s lv sp : Int) (hp : D.vp a b c d u f g k = true) (hb : b = 3) (hr : T.vs r = false) (w : World) : Calls Try.prog 18 #[.agg #[.int .i64 a, .int .i64 b, .int .i64 c, .int .i64 d, .int .i64 u, .int .i64 f, .int .i64 g, .int .i64 k], .int .i64 r, .int .i64 s, .int .i64 lv, .int .i64 sp] w fun e w' => e = .returned (.tuple #[.agg #[.int .i64 0, .int .i64 0, .int .i64 0, .int .i64 0, .int .i64 0, .int .i64 0, .int .i64 0, .int .i64 0], .bool false]) ∧ Below w.heap.size w w' := by
  subst hb
  have x0 := (C8.new w a 3 c d u f g k 25).al (.cells #[.int .i64 0, .int .i64 0, .int .i64 0, .int .i64 0, .int .i64 0, .int .i64 0, .int .i64 0, .int .i64 0] 25)
  have z0 := E8.new (w.alloc (.cells #[.int .i64 a, .int .i64 3, .int .i64 c, .int .i64 d, .int .i64 u, .int .i64 f, .int .i64 g, .int .i64 k] 25)) 25
  rw [World.size_alloc] at z0
  have bA := ((Below.refl w.heap.size w).alloc (Nat.le_refl _) (.cells #[.int .i64 a, .int .i64 3, .int .i64 c, .int .i64 d, .int .i64 u, .int .i64 f, .int .i64 g, .int .i64 k] 25)).alloc (by simp) (.cells #[.int .i64 0, .int .i64 0, .int .i64 0, .int .i64 0, .int .i64 0, .int .i64 0, .int .i64 0, .int .i64 0] 25)
  have hE : w.heap.size ≤ w.heap.size + 1 := Nat.le_succ _
  have k1 := fun w' => vp_spec a 3 c d u f g k w'
  simp only [hp] at k1
  have K1 := Lib.hid k1
  clear k1
  go_enter Try.func18, Try.ntmps18
  go_wp2_with fail
  generalize (w.alloc (.cells #[.int .i64 a, .int .i64 3, .int .i64 c, .int .i64 d, .int .i64 u, .int .i64 f, .int .i64 g, .int .i64 k] 25)).alloc (.cells #[.int .i64 0, .int .i64 0, .int .i64 0, .int .i64 0, .int .i64 0, .int .i64 0, .int .i64 0, .int .i64 0] 25) = W at x0 z0 bA ⊢
  generalize w.heap.size + 1 = E at z0 hE ⊢
  refine (K1.out _).mono ?_
  rintro e' w3 ⟨rfl, b3⟩
  have x3 := x0.bw b3
  have z3 := z0.b b3
  have bel3 := bA.trans (b3.mono bA.size)
  clear x0 z0 bA b3
  obtain ⟨c0, c1, c2, c3, c4, c5, c6, c7, f0, f1, f2, f3, f4, f5, f6, f7, -⟩ := z3
  have y1 := x3.c1
  clear x3
  have HN := Lib.hid (fin8 bel3 hE (.int .i64 0) (.int .i64 0) (.int .i64 0) (.int .i64 0) (.int .i64 0) (.int .i64 0) (.int .i64 0) (.int .i64 0))
  clear bel3
  go_wp2_with (first | (go_at_call 40; refine (inR_spec _ _ _ _).mono ?_; rintro e w' ⟨rfl, rfl⟩) | (go_at_call 32; refine (vst_spec _ _).mono ?_; rintro e w' ⟨rfl, rfl⟩))
  exact bodyPost_ret (v := .tuple #[.agg #[.int .i64 0, .int .i64 0, .int .i64 0, .int .i64 0, .int .i64 0, .int .i64 0, .int .i64 0, .int .i64 0], .bool false]) (by simp [results, Try.results18, go_sem, c0, c1, c2, c3, c4, c5, c6, c7]) rfl ⟨rfl, HN.out⟩
set_option maxHeartbeats 2000000 in
theorem AN_spec_no4 (a b c d u f g k r s lv sp : Int) (hp : D.vp a b c d u f g k = true) (hb : b = 3) (hr : T.vs r = true) (hs : inR s r 200000000999999 = false) (w : World) : Calls Try.prog 18 #[.agg #[.int .i64 a, .int .i64 b, .int .i64 c, .int .i64 d, .int .i64 u, .int .i64 f, .int .i64 g, .int .i64 k], .int .i64 r, .int .i64 s, .int .i64 lv, .int .i64 sp] w fun e w' => e = .returned (.tuple #[.agg #[.int .i64 0, .int .i64 0, .int .i64 0, .int .i64 0, .int .i64 0, .int .i64 0, .int .i64 0, .int .i64 0], .bool false]) ∧ Below w.heap.size w w' := by
  subst hb
  have x0 := (C8.new w a 3 c d u f g k 25).al (.cells #[.int .i64 0, .int .i64 0, .int .i64 0, .int .i64 0, .int .i64 0, .int .i64 0, .int .i64 0, .int .i64 0] 25)
  have z0 := E8.new (w.alloc (.cells #[.int .i64 a, .int .i64 3, .int .i64 c, .int .i64 d, .int .i64 u, .int .i64 f, .int .i64 g, .int .i64 k] 25)) 25
  rw [World.size_alloc] at z0
  have bA := ((Below.refl w.heap.size w).alloc (Nat.le_refl _) (.cells #[.int .i64 a, .int .i64 3, .int .i64 c, .int .i64 d, .int .i64 u, .int .i64 f, .int .i64 g, .int .i64 k] 25)).alloc (by simp) (.cells #[.int .i64 0, .int .i64 0, .int .i64 0, .int .i64 0, .int .i64 0, .int .i64 0, .int .i64 0, .int .i64 0] 25)
  have hE : w.heap.size ≤ w.heap.size + 1 := Nat.le_succ _
  have k1 := fun w' => vp_spec a 3 c d u f g k w'
  simp only [hp] at k1
  have K1 := Lib.hid k1
  clear k1
  go_enter Try.func18, Try.ntmps18
  go_wp2_with fail
  generalize (w.alloc (.cells #[.int .i64 a, .int .i64 3, .int .i64 c, .int .i64 d, .int .i64 u, .int .i64 f, .int .i64 g, .int .i64 k] 25)).alloc (.cells #[.int .i64 0, .int .i64 0, .int .i64 0, .int .i64 0, .int .i64 0, .int .i64 0, .int .i64 0, .int .i64 0] 25) = W at x0 z0 bA ⊢
  generalize w.heap.size + 1 = E at z0 hE ⊢
  refine (K1.out _).mono ?_
  rintro e' w3 ⟨rfl, b3⟩
  have x3 := x0.bw b3
  have z3 := z0.b b3
  have bel3 := bA.trans (b3.mono bA.size)
  clear x0 z0 bA b3
  obtain ⟨c0, c1, c2, c3, c4, c5, c6, c7, f0, f1, f2, f3, f4, f5, f6, f7, -⟩ := z3
  have y1 := x3.c1
  clear x3
  have HN := Lib.hid (fin8 bel3 hE (.int .i64 0) (.int .i64 0) (.int .i64 0) (.int .i64 0) (.int .i64 0) (.int .i64 0) (.int .i64 0) (.int .i64 0))
  clear bel3
  go_wp2_with (first | (go_at_call 40; refine (inR_spec _ _ _ _).mono ?_; rintro e w' ⟨rfl, rfl⟩) | (go_at_call 32; refine (vst_spec _ _).mono ?_; rintro e w' ⟨rfl, rfl⟩))
  exact bodyPost_ret (v := .tuple #[.agg #[.int .i64 0, .int .i64 0, .int .i64 0, .int .i64 0, .int .i64 0, .int .i64 0, .int .i64 0, .int .i64 0], .bool false]) (by simp [results, Try.results18, go_sem, c0, c1, c2, c3, c4, c5, c6, c7]) rfl ⟨rfl, HN.out⟩
set_option maxHeartbeats 2000000 in
theorem AN_spec_no5 (a b c d u f g k r s lv sp : Int) (hp : D.vp a b c d u f g k = true) (hb : b = 3) (hr : T.vs r = true) (hs : inR s r 200000000999999 = true) (hl : inR lv 0 2 = false) (w : World) : Calls Try.prog 18 #[.agg #[.int .i64 a, .int .i64 b, .int .i64 c, .int .i64 d, .int .i64 u, .int .i64 f, .int .i64 g, .int .i64 k], .int .i64 r, .int .i64 s, .int .i64 lv, .int .i64 sp] w fun e w' => e = .returned (.tuple #[.agg #[.int .i64 0, .int .i64 0, .int .i64 0, .int .i64 0, .int .i64 0, .int .i64 0, .int .i64 0, .int .i64 0], .bool false]) ∧ Below w.heap.size w w' := by
  subst hb
  have x0 := (C8.new w a 3 c d u f g k 25).al (.cells #[.int .i64 0, .int .i64 0, .int .i64 0, .int .i64 0, .int .i64 0, .int .i64 0, .int .i64 0, .int .i64 0] 25)
  have z0 := E8.new (w.alloc (.cells #[.int .i64 a, .int .i64 3, .int .i64 c, .int .i64 d, .int .i64 u, .int .i64 f, .int .i64 g, .int .i64 k] 25)) 25
  rw [World.size_alloc] at z0
  have bA := ((Below.refl w.heap.size w).alloc (Nat.le_refl _) (.cells #[.int .i64 a, .int .i64 3, .int .i64 c, .int .i64 d, .int .i64 u, .int .i64 f, .int .i64 g, .int .i64 k] 25)).alloc (by simp) (.cells #[.int .i64 0, .int .i64 0, .int .i64 0, .int .i64 0, .int .i64 0, .int .i64 0, .int .i64 0, .int .i64 0] 25)
  have hE : w.heap.size ≤ w.heap.size + 1 := Nat.le_succ _
  have k1 := fun w' => vp_spec a 3 c d u f g k w'
  simp only [hp] at k1
  have K1 := Lib.hid k1
  clear k1
  go_enter Try.func18, Try.ntmps18
  go_wp2_with fail
  generalize (w.alloc (.cells #[.int .i64 a, .int .i64 3, .int .i64 c, .int .i64 d, .int .i64 u, .int .i64 f, .int .i64 g, .int .i64 k] 25)).alloc (.cells #[.int .i64 0, .int .i64 0, .int .i64 0, .int .i64 0, .int .i64 0, .int .i64 0, .int .i64 0, .int .i64 0] 25) = W at x0 z0 bA ⊢
  generalize w.heap.size + 1 = E at z0 hE ⊢
  refine (K1.out _).mono ?_
  rintro e' w3 ⟨rfl, b3⟩
  have x3 := x0.bw b3
  have z3 := z0.b b3
  have bel3 := bA.trans (b3.mono bA.size)
  clear x0 z0 bA b3
  obtain ⟨c0, c1, c2, c3, c4, c5, c6, c7, f0, f1, f2, f3, f4, f5, f6, f7, -⟩ := z3
  have y1 := x3.c1
  clear x3
  have HN := Lib.hid (fin8 bel3 hE (.int .i64 0) (.int .i64 0) (.int .i64 0) (.int .i64 0) (.int .i64 0) (.int .i64 0) (.int .i64 0) (.int .i64 0))
  clear bel3
  go_wp2_with (first | (go_at_call 40; refine (inR_spec _ _ _ _).mono ?_; rintro e w' ⟨rfl, rfl⟩) | (go_at_call 32; refine (vst_spec _ _).mono ?_; rintro e w' ⟨rfl, rfl⟩))
  exact bodyPost_ret (v := .tuple #[.agg #[.int .i64 0, .int .i64 0, .int .i64 0, .int .i64 0, .int .i64 0, .int .i64 0, .int .i64 0, .int .i64 0], .bool false]) (by simp [results, Try.results18, go_sem, c0, c1, c2, c3, c4, c5, c6, c7]) rfl ⟨rfl, HN.out⟩
set_option maxHeartbeats 2000000 in
theorem AN_spec_no6 (a b c d u f g k r s lv sp : Int) (hp : D.vp a b c d u f g k = true) (hb : b = 3) (hr : T.vs r = true) (hs : inR s r 200000000999999 = true) (hl : inR lv 0 2 = true) (hsp : inR sp 0 65535 = false) (w : World) : Calls Try.prog 18 #[.agg #[.int .i64 a, .int .i64 b, .int .i64 c, .int .i64 d, .int .i64 u, .int .i64 f, .int .i64 g, .int .i64 k], .int .i64 r, .int .i64 s, .int .i64 lv, .int .i64 sp] w fun e w' => e = .returned (.tuple #[.agg #[.int .i64 0, .int .i64 0, .int .i64 0, .int .i64 0, .int .i64 0, .int .i64 0, .int .i64 0, .int .i64 0], .bool false]) ∧ Below w.heap.size w w' := by
  subst hb
  have x0 := (C8.new w a 3 c d u f g k 25).al (.cells #[.int .i64 0, .int .i64 0, .int .i64 0, .int .i64 0, .int .i64 0, .int .i64 0, .int .i64 0, .int .i64 0] 25)
  have z0 := E8.new (w.alloc (.cells #[.int .i64 a, .int .i64 3, .int .i64 c, .int .i64 d, .int .i64 u, .int .i64 f, .int .i64 g, .int .i64 k] 25)) 25
  rw [World.size_alloc] at z0
  have bA := ((Below.refl w.heap.size w).alloc (Nat.le_refl _) (.cells #[.int .i64 a, .int .i64 3, .int .i64 c, .int .i64 d, .int .i64 u, .int .i64 f, .int .i64 g, .int .i64 k] 25)).alloc (by simp) (.cells #[.int .i64 0, .int .i64 0, .int .i64 0, .int .i64 0, .int .i64 0, .int .i64 0, .int .i64 0, .int .i64 0] 25)
  have hE : w.heap.size ≤ w.heap.size + 1 := Nat.le_succ _
  have k1 := fun w' => vp_spec a 3 c d u f g k w'
  simp only [hp] at k1
  have K1 := Lib.hid k1
  clear k1
  go_enter Try.func18, Try.ntmps18
  go_wp2_with fail
  generalize (w.alloc (.cells #[.int .i64 a, .int .i64 3, .int .i64 c, .int .i64 d, .int .i64 u, .int .i64 f, .int .i64 g, .int .i64 k] 25)).alloc (.cells #[.int .i64 0, .int .i64 0, .int .i64 0, .int .i64 0, .int .i64 0, .int .i64 0, .int .i64 0, .int .i64 0] 25) = W at x0 z0 bA ⊢
  generalize w.heap.size + 1 = E at z0 hE ⊢
  refine (K1.out _).mono ?_
  rintro e' w3 ⟨rfl, b3⟩
  have x3 := x0.bw b3
  have z3 := z0.b b3
  have bel3 := bA.trans (b3.mono bA.size)
  clear x0 z0 bA b3
  obtain ⟨c0, c1, c2, c3, c4, c5, c6, c7, f0, f1, f2, f3, f4, f5, f6, f7, -⟩ := z3
  have y1 := x3.c1
  clear x3
  have HN := Lib.hid (fin8 bel3 hE (.int .i64 0) (.int .i64 0) (.int .i64 0) (.int .i64 0) (.int .i64 0) (.int .i64 0) (.int .i64 0) (.int .i64 0))
  clear bel3
  go_wp2_with (first | (go_at_call 40; refine (inR_spec _ _ _ _).mono ?_; rintro e w' ⟨rfl, rfl⟩) | (go_at_call 32; refine (vst_spec _ _).mono ?_; rintro e w' ⟨rfl, rfl⟩))
  exact bodyPost_ret (v := .tuple #[.agg #[.int .i64 0, .int .i64 0, .int .i64 0, .int .i64 0, .int .i64 0, .int .i64 0, .int .i64 0, .int .i64 0], .bool false]) (by simp [results, Try.results18, go_sem, c0, c1, c2, c3, c4, c5, c6, c7]) rfl ⟨rfl, HN.out⟩
set_option maxHeartbeats 4000000 in
theorem AN_spec_yes0 (a c d u f g k r s sp : Int) (hp : D.vp a 3 c d u f g k = true) (hr : T.vs r = true) (hs : inR s r 200000000999999 = true) (hl : inR 0 0 2 = true) (hsp : inR sp 0 65535 = true) (w : World) : Calls Try.prog 18 #[.agg #[.int .i64 a, .int .i64 3, .int .i64 c, .int .i64 d, .int .i64 u, .int .i64 f, .int .i64 g, .int .i64 k], .int .i64 r, .int .i64 s, .int .i64 0, .int .i64 sp] w fun e w' => e = .returned (.tuple #[.agg #[.int .i64 3, .int .i64 4, .int .i64 0, .int .i64 d, .int .i64 sp, .int .i64 k, .int .i64 r, .int .i64 s], .bool true]) ∧ Below w.heap.size w w' := by
  have x0 := (C8.new w a 3 c d u f g k 25).al (.cells #[.int .i64 0, .int .i64 0, .int .i64 0, .int .i64 0, .int .i64 0, .int .i64 0, .int .i64 0, .int .i64 0] 25)
  have z0 := E8.new (w.alloc (.cells #[.int .i64 a, .int .i64 3, .int .i64 c, .int .i64 d, .int .i64 u, .int .i64 f, .int .i64 g, .int .i64 k] 25)) 25
  rw [World.size_alloc] at z0
  have bA := ((Below.refl w.heap.size w).alloc (Nat.le_refl _) (.cells #[.int .i64 a, .int .i64 3, .int .i64 c, .int .i64 d, .int .i64 u, .int .i64 f, .int .i64 g, .int .i64 k] 25)).alloc (by simp) (.cells #[.int .i64 0, .int .i64 0, .int .i64 0, .int .i64 0, .int .i64 0, .int .i64 0, .int .i64 0, .int .i64 0] 25)
  have hE : w.heap.size ≤ w.heap.size + 1 := Nat.le_succ _
  have k1 := fun w' => vp_spec a 3 c d u f g k w'
  simp only [hp] at k1
  have K1 := Lib.hid k1
  clear k1
  go_enter Try.func18, Try.ntmps18
  go_wp2_with fail
  generalize (w.alloc (.cells #[.int .i64 a, .int .i64 3, .int .i64 c, .int .i64 d, .int .i64 u, .int .i64 f, .int .i64 g, .int .i64 k] 25)).alloc (.cells #[.int .i64 0, .int .i64 0, .int .i64 0, .int .i64 0, .int .i64 0, .int .i64 0, .int .i64 0, .int .i64 0] 25) = W at x0 z0 bA ⊢
  generalize w.heap.size + 1 = E at z0 hE ⊢
  refine (K1.out _).mono ?_
  rintro e' w3 ⟨rfl, b3⟩
  have x3 := x0.bw b3
  have z3 := z0.b b3
  have bel3 := bA.trans (b3.mono bA.size)
  clear x0 z0 bA b3
  have hEl := z3.lt
  have y1 := x3.c1
  have y3 := x3.c3
  have y7 := x3.c7
  have hD := x3.lt
  clear x3
  have x4 := C8.new w3 3 4 0 d sp k r s 25
  have z4 := z3.al (.cells #[.int .i64 3, .int .i64 4, .int .i64 0, .int .i64 d, .int .i64 sp, .int .i64 k, .int .i64 r, .int .i64 s] 25)
  have bel4 := bel3.alloc bel3.size (.cells #[.int .i64 3, .int .i64 4, .int .i64 0, .int .i64 d, .int .i64 sp, .int .i64 k, .int .i64 r, .int .i64 s] 25)
  clear z3 bel3
  go_upto_region 7 with (first | (go_at_call 40; refine (inR_spec _ _ _ _).mono ?_; rintro e w' ⟨rfl, rfl⟩) | (go_at_call 32; refine (vst_spec _ _).mono ?_; rintro e w' ⟨rfl, rfl⟩))
  clear y1 y3 y7
  generalize w3.alloc (.cells #[.int .i64 3, .int .i64 4, .int .i64 0, .int .i64 d, .int .i64 sp, .int .i64 k, .int .i64 r, .int .i64 s] 25) = W4 at x4 z4 bel4 ⊢
  generalize w3.heap.size = F at x4 ⊢
  clear hEl
  have t0 := x4.c0
  have t1 := x4.c1
  have t2 := x4.c2
  have t3 := x4.c3
  have t4 := x4.c4
  have t5 := x4.c5
  have t6 := x4.c6
  have t7 := x4.c7
  obtain ⟨c0, c1, c2, c3, c4, c5, c6, c7, f0, f1, f2, f3, f4, f5, f6, f7, -⟩ := z4
  clear x4
  have HN := Lib.hid (fin8 bel4 hE (.int .i64 3) (.int .i64 4) (.int .i64 0) (.int .i64 d) (.int .i64 sp) (.int .i64 k) (.int .i64 r) (.int .i64 s))
  clear bel4
  go_wp2_with (first | (go_at_call 40; refine (inR_spec _ _ _ _).mono ?_; rintro e w' ⟨rfl, rfl⟩) | (go_at_call 32; refine (vst_spec _ _).mono ?_; rintro e w' ⟨rfl, rfl⟩))
  exact bodyPost_ret (v := .tuple #[.agg #[.int .i64 3, .int .i64 4, .int .i64 0, .int .i64 d, .int .i64 sp, .int .i64 k, .int .i64 r, .int .i64 s], .bool true]) (by simp [results, Try.results18, go_sem, c0, c1, c2, c3, c4, c5, c6, c7]) rfl ⟨rfl, HN.out⟩
set_option maxHeartbeats 4000000 in
theorem AN_spec_yes1 (a c d u f g k r s lv sp : Int) (hp : D.vp a 3 c d u f g k = true) (hr : T.vs r = true) (hs : inR s r 200000000999999 = true) (hl : inR lv 0 2 = true) (hsp : inR sp 0 65535 = true) (hz : ¬ lv = 0) (w : World) : Calls Try.prog 18 #[.agg #[.int .i64 a, .int .i64 3, .int .i64 c, .int .i64 d, .int .i64 u, .int .i64 f, .int .i64 g, .int .i64 k], .int .i64 r, .int .i64 s, .int .i64 lv, .int .i64 sp] w fun e w' => e = .returned (.tuple #[.agg #[.int .i64 0, .int .i64 4, .int .i64 1, .int .i64 d, .int .i64 sp, .int .i64 k, .int .i64 r, .int .i64 s], .bool true]) ∧ Below w.heap.size w w' := by
  have x0 := (C8.new w a 3 c d u f g k 25).al (.cells #[.int .i64 0, .int .i64 0, .int .i64 0, .int .i64 0, .int .i64 0, .int .i64 0, .int .i64 0, .int .i64 0] 25)
  have z0 := E8.new (w.alloc (.cells #[.int .i64 a, .int .i64 3, .int .i64 c, .int .i64 d, .int .i64 u, .int .i64 f, .int .i64 g, .int .i64 k] 25)) 25
  rw [World.size_alloc] at z0
  have bA := ((Below.refl w.heap.size w).alloc (Nat.le_refl _) (.cells #[.int .i64 a, .int .i64 3, .int .i64 c, .int .i64 d, .int .i64 u, .int .i64 f, .int .i64 g, .int .i64 k] 25)).alloc (by simp) (.cells #[.int .i64 0, .int .i64 0, .int .i64 0, .int .i64 0, .int .i64 0, .int .i64 0, .int .i64 0, .int .i64 0] 25)
  have hE : w.heap.size ≤ w.heap.size + 1 := Nat.le_succ _
  have k1 := fun w' => vp_spec a 3 c d u f g k w'
  simp only [hp] at k1
  have K1 := Lib.hid k1
  clear k1
  go_enter Try.func18, Try.ntmps18
  go_wp2_with fail
  generalize (w.alloc (.cells #[.int .i64 a, .int .i64 3, .int .i64 c, .int .i64 d, .int .i64 u, .int .i64 f, .int .i64 g, .int .i64 k] 25)).alloc (.cells #[.int .i64 0, .int .i64 0, .int .i64 0, .int .i64 0, .int .i64 0, .int .i64 0, .int .i64 0, .int .i64 0] 25) = W at x0 z0 bA ⊢
  generalize w.heap.size + 1 = E at z0 hE ⊢
  refine (K1.out _).mono ?_
  rintro e' w3 ⟨rfl, b3⟩
  have x3 := x0.bw b3
  have z3 := z0.b b3
  have bel3 := bA.trans (b3.mono bA.size)
  clear x0 z0 bA b3
  have hEl := z3.lt
  have y1 := x3.c1
  have y3 := x3.c3
  have y7 := x3.c7
  have hD := x3.lt
  clear x3
  have hz1 : (lv == 0) = false := by rw [beq_eq_false_iff_ne]; exact hz
  clear hz
  have x4 := C8.new w3 0 4 1 d sp k r s 25
  have z4 := z3.al (.cells #[.int .i64 0, .int .i64 4, .int .i64 1, .int .i64 d, .int .i64 sp, .int .i64 k, .int .i64 r, .int .i64 s] 25)
  have bel4 := bel3.alloc bel3.size (.cells #[.int .i64 0, .int .i64 4, .int .i64 1, .int .i64 d, .int .i64 sp, .int .i64 k, .int .i64 r, .int .i64 s] 25)
  clear z3 bel3
  go_upto_region 7 with (first | (go_at_call 40; refine (inR_spec _ _ _ _).mono ?_; rintro e w' ⟨rfl, rfl⟩) | (go_at_call 32; refine (vst_spec _ _).mono ?_; rintro e w' ⟨rfl, rfl⟩))
  clear y1 y3 y7
  generalize w3.alloc (.cells #[.int .i64 0, .int .i64 4, .int .i64 1, .int .i64 d, .int .i64 sp, .int .i64 k, .int .i64 r, .int .i64 s] 25) = W4 at x4 z4 bel4 ⊢
  generalize w3.heap.size = F at x4 ⊢
  clear hEl
  have t0 := x4.c0
  have t1 := x4.c1
  have t2 := x4.c2
  have t3 := x4.c3
  have t4 := x4.c4
  have t5 := x4.c5
  have t6 := x4.c6
  have t7 := x4.c7
  obtain ⟨c0, c1, c2, c3, c4, c5, c6, c7, f0, f1, f2, f3, f4, f5, f6, f7, -⟩ := z4
  clear x4
  have HN := Lib.hid (fin8 bel4 hE (.int .i64 0) (.int .i64 4) (.int .i64 1) (.int .i64 d) (.int .i64 sp) (.int .i64 k) (.int .i64 r) (.int .i64 s))
  clear bel4
  go_wp2_with (first | (go_at_call 40; refine (inR_spec _ _ _ _).mono ?_; rintro e w' ⟨rfl, rfl⟩) | (go_at_call 32; refine (vst_spec _ _).mono ?_; rintro e w' ⟨rfl, rfl⟩))
  exact bodyPost_ret (v := .tuple #[.agg #[.int .i64 0, .int .i64 4, .int .i64 1, .int .i64 d, .int .i64 sp, .int .i64 k, .int .i64 r, .int .i64 s], .bool true]) (by simp [results, Try.results18, go_sem, c0, c1, c2, c3, c4, c5, c6, c7]) rfl ⟨rfl, HN.out⟩
theorem AN_impl_yes (a b c d u f g k r s lv sp : Int) (q : D.Ak a b c d u f g k r s lv sp) (w : World) : Calls Try.prog 17 #[.agg #[.int .i64 a, .int .i64 b, .int .i64 c, .int .i64 d, .int .i64 u, .int .i64 f, .int .i64 g, .int .i64 k], .int .i64 r, .int .i64 s, .int .i64 lv, .int .i64 sp] w fun e w' => e = .returned (.tuple #[.agg #[.int .i64 (D.le lv), .int .i64 4, .int .i64 (D.su lv), .int .i64 d, .int .i64 sp, .int .i64 k, .int .i64 r, .int .i64 s], .bool true]) ∧ Below w.heap.size w w' := by
  have hv2 := D.ans_vp q
  obtain ⟨hp, rfl, hlv, hr, hs, hrs, hsp⟩ := q
  have hr' := T.vs_of hr
  have hs' := T.vs_of hs
  have hl : inR lv 0 2 = true := inR_yes hlv
  by_cases hz : lv = 0
  · subst hz
    exact AN_impl_yes_0 _ _ _ _ _ _ _ _ _ _ hp hl hv2 (by omega) w
  · have e1 : D.le lv = 0 := if_neg hz
    have e2 : D.su lv = 1 := if_neg hz
    rw [e1, e2] at hv2 ⊢
    exact AN_impl_yes_1 _ _ _ _ _ _ _ _ _ _ _ hp hl hz hv2 (by omega) w
theorem AN_impl_no (a b c d u f g k r s lv sp : Int) (q : ¬ D.Ak a b c d u f g k r s lv sp) (w : World) : Calls Try.prog 17 #[.agg #[.int .i64 a, .int .i64 b, .int .i64 c, .int .i64 d, .int .i64 u, .int .i64 f, .int .i64 g, .int .i64 k], .int .i64 r, .int .i64 s, .int .i64 lv, .int .i64 sp] w fun e w' => e = .returned (.tuple #[.agg #[.int .i64 0, .int .i64 0, .int .i64 0, .int .i64 0, .int .i64 0, .int .i64 0, .int .i64 0, .int .i64 0], .bool false]) ∧ Below w.heap.size w w' := by
  rcases hp : D.vp a b c d u f g k with _ | _
  · exact AN_impl_no1 _ _ _ _ _ _ _ _ _ _ _ _ hp w
  by_cases hb : b = 3
  rotate_left
  · exact AN_impl_no2 _ _ _ _ _ _ _ _ _ _ _ _ hp hb w
  rcases inR_cases lv 0 2 with ⟨hl, hl'⟩ | ⟨hl, hl'⟩
  rotate_left
  · exact AN_impl_no3 _ _ _ _ _ _ _ _ _ _ _ _ hp hb hl w
  rcases hv2 : D.vp (D.le lv) 4 (D.su lv) d sp k r s with _ | _
  · subst hb
    by_cases hz : lv = 0
    · subst hz
      exact AN_impl_no4_0 _ _ _ _ _ _ _ _ _ _ hp hl hv2 w
    · have e1 : D.le lv = 0 := if_neg hz
      have e2 : D.su lv = 1 := if_neg hz
      rw [e1, e2] at hv2
      exact AN_impl_no4_1 _ _ _ _ _ _ _ _ _ _ _ hp hl hz hv2 w
  by_cases hlt : s < r
  · subst hb
    by_cases hz : lv = 0
    · subst hz
      exact AN_impl_no5_0 _ _ _ _ _ _ _ _ _ _ hp hl hv2 hlt w
    · have e1 : D.le lv = 0 := if_neg hz
      have e2 : D.su lv = 1 := if_neg hz
      rw [e1, e2] at hv2
      exact AN_impl_no5_1 _ _ _ _ _ _ _ _ _ _ _ hp hl hz hv2 hlt w
  · obtain ⟨_, _, _, _, v5, _, v7, v8⟩ := D.vp_of hv2
    exact absurd ⟨hp, hb, hl', v7, v8, by omega, v5⟩ q
theorem AN_spec_yes (a b c d u f g k r s lv sp : Int) (q : D.Ak a b c d u f g k r s lv sp) (w : World) : Calls Try.prog 18 #[.agg #[.int .i64 a, .int .i64 b, .int .i64 c, .int .i64 d, .int .i64 u, .int .i64 f, .int .i64 g, .int .i64 k], .int .i64 r, .int .i64 s, .int .i64 lv, .int .i64 sp] w fun e w' => e = .returned (.tuple #[.agg #[.int .i64 (D.le lv), .int .i64 4, .int .i64 (D.su lv), .int .i64 d, .int .i64 sp, .int .i64 k, .int .i64 r, .int .i64 s], .bool true]) ∧ Below w.heap.size w w' := by
  have hv2 := D.ans_vp q
  obtain ⟨hp, rfl, hlv, hr, hs, hrs, hsp⟩ := q
  have hr' := T.vs_of hr
  have hs' := T.vs_of hs
  have hl : inR lv 0 2 = true := inR_yes hlv
  have hs2 : inR s r 200000000999999 = true := inR_yes (by omega)
  have hsp2 : inR sp 0 65535 = true := inR_yes hsp
  by_cases hz : lv = 0
  · subst hz
    exact AN_spec_yes0 _ _ _ _ _ _ _ _ _ _ hp hr hs2 hl hsp2 w
  · have e1 : D.le lv = 0 := if_neg hz
    have e2 : D.su lv = 1 := if_neg hz
    rw [e1, e2]
    exact AN_spec_yes1 _ _ _ _ _ _ _ _ _ _ _ hp hr hs2 hl hsp2 hz w
theorem AN_spec_no (a b c d u f g k r s lv sp : Int) (q : ¬ D.Ak a b c d u f g k r s lv sp) (w : World) : Calls Try.prog 18 #[.agg #[.int .i64 a, .int .i64 b, .int .i64 c, .int .i64 d, .int .i64 u, .int .i64 f, .int .i64 g, .int .i64 k], .int .i64 r, .int .i64 s, .int .i64 lv, .int .i64 sp] w fun e w' => e = .returned (.tuple #[.agg #[.int .i64 0, .int .i64 0, .int .i64 0, .int .i64 0, .int .i64 0, .int .i64 0, .int .i64 0, .int .i64 0], .bool false]) ∧ Below w.heap.size w w' := by
  rcases hp : D.vp a b c d u f g k with _ | _
  · exact AN_spec_no1 _ _ _ _ _ _ _ _ _ _ _ _ hp w
  by_cases hb : b = 3
  rotate_left
  · exact AN_spec_no2 _ _ _ _ _ _ _ _ _ _ _ _ hp hb w
  rcases hr : T.vs r with _ | _
  · exact AN_spec_no3 _ _ _ _ _ _ _ _ _ _ _ _ hp hb hr w
  rcases inR_cases s r 200000000999999 with ⟨hs, hs'⟩ | ⟨hs, hs'⟩
  rotate_left
  · exact AN_spec_no4 _ _ _ _ _ _ _ _ _ _ _ _ hp hb hr hs w
  rcases inR_cases lv 0 2 with ⟨hl, hl'⟩ | ⟨hl, hl'⟩
  rotate_left
  · exact AN_spec_no5 _ _ _ _ _ _ _ _ _ _ _ _ hp hb hr hs hl w
  rcases inR_cases sp 0 65535 with ⟨hsp, hsp'⟩ | ⟨hsp, hsp'⟩
  rotate_left
  · exact AN_spec_no6 _ _ _ _ _ _ _ _ _ _ _ _ hp hb hr hs hl hsp w
  have := T.vs_of hr
  exact absurd ⟨hp, hb, hl', hr, T.vs_yes (by omega), hs'.1, hsp'⟩ q
end Go.Proofs.Ytigaifnoicnafaa
