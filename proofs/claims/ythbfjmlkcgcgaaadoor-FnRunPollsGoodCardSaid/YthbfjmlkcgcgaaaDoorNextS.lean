/-
  The next state of polls (chapter 13): the model's function.
-/
import Derived.Test.YthbfjmlkcgcgaaaDoorNext
namespace Go.Proofs.YthbfjmlkcgcgaaaDoor
open Go.RowKit
set_option linter.unusedVariables false
set_option maxRecDepth 100000
set_option maxHeartbeats 2000000 in
theorem NP_spec_no (p c o j : Int) (w : World) (hk : ¬ J.Ok p c o j) : Calls Tryd.prog 13 #[.agg #[.int .i64 p, .int .i64 c], .int .i64 o, .int .i64 j] w fun e w' => e = .returned (.tuple #[.agg #[.int .i64 0, .int .i64 0], .bool false]) ∧ Below w.heap.size w w' := by
  have N0 := NB.new w p c 24 24
  have k1 := fun w' => vp_spec.validPoll p c w'
  rcases hv : J.vp p c with _ | _
  · simp only [hv] at k1
    have K1 := Lib.hid k1
    clear k1 hv hk
    go_enter Tryd.func13, Tryd.ntmps13
    go_wp2_with fail
    generalize (w.alloc (.cells #[.int .i64 p, .int .i64 c] 24)).alloc (.cells #[.int .i64 0, .int .i64 0] 24) = W at N0 ⊢
    generalize w.heap.size + 1 = E at N0 ⊢
    refine (K1.out _).mono ?_
    rintro e w3 ⟨rfl, b3⟩
    obtain ⟨-, -, e0, e1, f0, f1, -, -, -, -, -⟩ := N0.b b3
    have HN := Lib.hid ((N0.b b3).fin (.int .i64 0) (.int .i64 0))
    clear N0 b3
    go_wp2
    exact bodyPost_ret (v := .tuple #[.agg #[.int .i64 0, .int .i64 0], .bool false]) (by simp [results, Tryd.results13, go_sem, e0, e1]) rfl ⟨rfl, HN.out⟩
  simp only [hv] at k1
  have K1 := Lib.hid k1
  clear k1
  rcases inR_cases o (-1000000) 1000000 with ⟨a0, a1⟩ | ⟨a0, a1⟩ <;> rcases inR_cases j 0 1000000 with ⟨b0, b1⟩ | ⟨b0, b1⟩
  · exact absurd ⟨hv, a1, b1⟩ hk
  all_goals
    clear hv hk a1 b1
    go_enter Tryd.func13, Tryd.ntmps13
    go_wp2_with fail
    generalize (w.alloc (.cells #[.int .i64 p, .int .i64 c] 24)).alloc (.cells #[.int .i64 0, .int .i64 0] 24) = W at N0 ⊢
    generalize w.heap.size + 1 = E at N0 ⊢
    refine (K1.out _).mono ?_
    rintro e w3 ⟨rfl, b3⟩
    obtain ⟨-, -, e0, e1, f0, f1, -, -, -, -, -⟩ := N0.b b3
    have HN := Lib.hid ((N0.b b3).fin (.int .i64 0) (.int .i64 0))
    clear N0 b3
    go_wp2_with (go_at_call 32; refine (inR_spec _ _ _ _).mono ?_; rintro e w' ⟨rfl, rfl⟩)
    exact bodyPost_ret (v := .tuple #[.agg #[.int .i64 0, .int .i64 0], .bool false]) (by simp [results, Tryd.results13, go_sem, e0, e1]) rfl ⟨rfl, HN.out⟩
set_option maxHeartbeats 4000000 in
theorem NP_spec_yes (p c o j : Int) (w : World) (hk : J.Ok p c o j) : Calls Tryd.prog 13 #[.agg #[.int .i64 p, .int .i64 c], .int .i64 o, .int .i64 j] w fun e w' => e = .returned (.tuple #[.agg #[.int .i64 (J.np p c o j), .int .i64 (J.nc p c o j)], .bool true]) ∧ Below w.heap.size w w' := by
  have N0 := NB.new w p c 24 24
  obtain ⟨hv, ho, hj⟩ := hk
  have k1 := fun w' => vp_spec.validPoll p c w'
  simp only [hv] at k1
  have K1 := Lib.hid k1
  clear k1
  have a0 : inR o (-1000000) 1000000 = true := inR_yes ho
  have b0 : inR j 0 1000000 = true := inR_yes hj
  obtain ⟨h1, h2⟩ := J.vp_of hv
  clear hv
  obtain ⟨X, Y, hX, hw⟩ : ∃ X Y : Int, (J.np p c o j = X ∧ J.nc p c o j = Y) ∧ ((K.abs o ≤ 4 * j ∧ 30 ≤ c + p ∧ p = 10 ∧ X = 10 ∧ Y = 0) ∨ (K.abs o ≤ 4 * j ∧ 30 ≤ c + p ∧ p < 10 ∧ X = p + 1 ∧ Y = 0) ∨ (K.abs o ≤ 4 * j ∧ c + p < 30 ∧ X = p ∧ Y = c + p) ∨
      (4 * j < K.abs o ∧ c - 2 * p ≤ -30 ∧ p = 4 ∧ X = 4 ∧ Y = 0) ∨ (4 * j < K.abs o ∧ c - 2 * p ≤ -30 ∧ 4 < p ∧ X = p - 1 ∧ Y = 0) ∨ (4 * j < K.abs o ∧ -30 < c - 2 * p ∧ X = p ∧ Y = c - 2 * p)) := by
    refine ⟨_, _, ⟨rfl, rfl⟩, ?_⟩
    by_cases hn : K.abs o ≤ 4 * j
    · rw [(J.near_yes hn).1, (J.near_yes hn).2]
      unfold J.gp J.gc
      split <;> omega
    · rw [(J.near_no hn).1, (J.near_no hn).2]
      unfold J.bp J.bc
      split <;> omega
  rw [hX.1, hX.2]
  clear hX
  have K2 := Lib.hid (fun w' => siz_spec.size o (by omega) w')
  rcases hw with ⟨q1, q2, q3, rfl, rfl⟩ | ⟨q1, q2, q3, rfl, rfl⟩ | ⟨q1, q2, rfl, rfl⟩ | ⟨q1, q2, q3, rfl, rfl⟩ | ⟨q1, q2, q3, rfl, rfl⟩ | ⟨q1, q2, rfl, rfl⟩
  case' inl => subst q3
  case' inr.inr.inr.inl => subst q3
  all_goals
    go_enter Tryd.func13, Tryd.ntmps13
    go_wp2_with fail
    generalize (w.alloc _).alloc (.cells #[.int .i64 0, .int .i64 0] 24) = W at N0 ⊢
    generalize w.heap.size + 1 = E at N0 ⊢
    refine (K1.out _).mono ?_
    rintro e w3 ⟨rfl, b3⟩
    obtain ⟨d0, d1, e0, e1, f0, f1, ltD, ltE, -, hDE, -⟩ := N0.b b3
    have HN := Lib.hid (fun u v => (N0.b b3).fin (.int .i64 u) (.int .i64 v))
    clear N0 b3
    go_wp2_with (first | (go_at_call 32; refine (inR_spec _ _ _ _).mono ?_; rintro e w' ⟨rfl, rfl⟩) | (go_at_call 33; refine (K2.out _).mono ?_; rintro e w' ⟨rfl, rfl⟩))
    first
    | exact bodyPost_ret (v := .tuple #[.agg #[.int .i64 4, .int .i64 0], .bool true]) (by simp [results, Tryd.results13, go_sem, e0, e1]) rfl ⟨rfl, HN.out _ _⟩
    | exact bodyPost_ret (v := .tuple #[.agg #[.int .i64 10, .int .i64 0], .bool true]) (by simp [results, Tryd.results13, go_sem, e0, e1]) rfl ⟨rfl, HN.out _ _⟩
    | exact bodyPost_ret (v := .tuple #[.agg #[.int .i64 (p + 1), .int .i64 0], .bool true]) (by simp [results, Tryd.results13, go_sem, e0, e1]) rfl ⟨rfl, HN.out _ _⟩
    | exact bodyPost_ret (v := .tuple #[.agg #[.int .i64 X, .int .i64 (c + X)], .bool true]) (by simp [results, Tryd.results13, go_sem, e0, e1]) rfl ⟨rfl, HN.out _ _⟩
    | exact bodyPost_ret (v := .tuple #[.agg #[.int .i64 (p - 1), .int .i64 0], .bool true]) (by simp [results, Tryd.results13, go_sem, e0, e1]) rfl ⟨rfl, HN.out _ _⟩
    | exact bodyPost_ret (v := .tuple #[.agg #[.int .i64 X, .int .i64 (c - 2 * X)], .bool true]) (by simp [results, Tryd.results13, go_sem, e0, e1]) rfl ⟨rfl, HN.out _ _⟩
end Go.Proofs.YthbfjmlkcgcgaaaDoor
