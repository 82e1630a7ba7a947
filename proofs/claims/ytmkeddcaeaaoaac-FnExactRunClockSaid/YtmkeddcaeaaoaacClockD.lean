/-
  Clocks (chapter 7): the program's offset at a time, the corrected clock, whether a clock nears zero.
-/
import Derived.Test.YtmkeddcaeaaoaacClockB
namespace Go.Proofs.Ytmkeddcaeaaoaac
open Go.RowKit
set_option linter.unusedVariables false
set_option maxRecDepth 100000
set_option maxRecDepth 100000 in
theorem field_0 (x y z : Int) (W : World) : (Instr.field 24 (.agg #[.int .i64 x, .int .i64 y, .int .i64 z]) 0).run Try.prog W = .ok (.int .i64 (#[x, y, z][0])) W := by
  first
  | rfl
  | (simp [go_sem, Try.underlying24]; done)
set_option maxRecDepth 100000 in
theorem field_1 (x y z : Int) (W : World) : (Instr.field 24 (.agg #[.int .i64 x, .int .i64 y, .int .i64 z]) 1).run Try.prog W = .ok (.int .i64 (#[x, y, z][1])) W := by
  first
  | rfl
  | (simp [go_sem, Try.underlying24]; done)
set_option maxRecDepth 100000 in
theorem field_2 (x y z : Int) (W : World) : (Instr.field 24 (.agg #[.int .i64 x, .int .i64 y, .int .i64 z]) 2).run Try.prog W = .ok (.int .i64 (#[x, y, z][2])) W := by
  first
  | rfl
  | (simp [go_sem, Try.underlying24]; done)
set_option maxHeartbeats 2000000 in
theorem OA_impl (o r a t : Int) (w : World) : Calls Try.prog 18 #[.agg #[.int .i64 o, .int .i64 r, .int .i64 a], .int .i64 t] w fun e w' => e = .returned (.tuple #[.int .i64 (K.oa o r a t), .bool (K.told o r a t)]) ∧ Below w.heap.size w w' := by
  have k1 := fun w' => vc_impl o r a w'
  have bA := (Below.refl w.heap.size w).alloc (Nat.le_refl _) (.cells #[.int .i64 o, .int .i64 r, .int .i64 a] 24)
  have xA := C3.new w o r a 24
  rcases hv : K.vc o r a with _ | _
  · have HT := Lib.hid (K.told_no (o := o) (r := r) (a := a) (t := t) (fun h => by rw [hv] at h; exact absurd h.1 (by decide)))
    simp only [hv] at k1
    have K1 := Lib.hid k1
    clear hv k1
    have d0 := xA.c0
    have d1 := xA.c1
    have d2 := xA.c2
    have hD2 := xA.lt
    have s2 := bA.size
    clear xA
    go_enter Try.func18, Try.ntmps18
    go_wp2_with fail
    generalize w.alloc (Obj.cells #[.int .i64 o, .int .i64 r, .int .i64 a] 24) = W at d0 d1 d2 bA hD2 s2 ⊢
    refine wp_region_held_drew (S := (fun w' => Below w.heap.size w w' ∧ w.heap.size < w'.heap.size ∧ w'.cell? ⟨w.heap.size, 0, none⟩ = some (.int .i64 o) ∧ w'.cell? ⟨w.heap.size, 1, none⟩ = some (.int .i64 r) ∧ w'.cell? ⟨w.heap.size, 2, none⟩ = some (.int .i64 a))) (by kernel_rfl) (⟨bA.drew, hD2, d0, d1, d2⟩) (fun hHeld => ?_)
    refine wpAnyH_take (i := 0) (v := ?_) rfl (by kernel_rfl) (by kernel_rfl) (by kernel_rfl) (fun _ _ _ h => h) (Or.inl ⟨by rfl, ?_⟩) (by assumption) ?_
    rotate_left
    · intro w hSw
      (try dsimp only at hSw)
      go_simp
      all_goals with_reducible rfl
    try simp only [Act.put, List.setIfInBounds_toArray, List.set_cons_zero, List.set_cons_succ, List.getElem_toArray, List.getElem_cons_zero]
    refine wpAnyH_ready (rs := [1]) (by kernel_rfl) (by simp) ?_
    refine AllReadyH.cons rfl (fun K hK => ?_) AllReadyH.nil
    go_simp
    (go_at_call 24; refine (K1.out _).mono ?_; rintro e w4 ⟨rfl, hb⟩)
    refine hK.out _ _ (keepC hb (by assumption)) (fun hHeld => ?_)
    clear hK K
    try simp only [Act.put, List.setIfInBounds_toArray, List.set_cons_zero, List.set_cons_succ, List.getElem_toArray, List.getElem_cons_zero, List.getElem_cons_succ]
    refine wpAnyH_take (i := 2) (v := ?_) rfl (by kernel_rfl) (by kernel_rfl) (by kernel_rfl) (fun _ _ _ h => h) (Or.inl ⟨by rfl, ?_⟩) (by assumption) ?_
    rotate_left
    · intro w hSw
      (try dsimp only at hSw)
      go_simp
      all_goals with_reducible rfl
    try simp only [Act.put, List.setIfInBounds_toArray, List.set_cons_zero, List.set_cons_succ, List.getElem_toArray, List.getElem_cons_zero, List.getElem_cons_succ]
    refine wpAnyH_take (i := 3) (v := ?_) rfl (by kernel_rfl) (by kernel_rfl) (by kernel_rfl) (fun _ _ _ h => h) (Or.inl ⟨by rfl, ?_⟩) (by assumption) ?_
    rotate_left
    · intro w hSw
      (try dsimp only at hSw)
      go_simp
      all_goals with_reducible rfl
    try simp only [Act.put, List.setIfInBounds_toArray, List.set_cons_zero, List.set_cons_succ, List.getElem_toArray, List.getElem_cons_zero, List.getElem_cons_succ]
    refine wpAnyH_take (i := 4) (v := undef) rfl (by kernel_rfl) (by kernel_rfl) (by kernel_rfl) (fun _ _ _ h => h) (Or.inr ⟨by rfl, rfl⟩) (by assumption) ?_
    try simp only [Act.put, List.setIfInBounds_toArray, List.set_cons_zero, List.set_cons_succ, List.getElem_toArray, List.getElem_cons_zero, List.getElem_cons_succ]
    refine wpAnyH_take (i := 5) (v := undef) rfl (by kernel_rfl) (by kernel_rfl) (by kernel_rfl) (fun _ _ _ h => h) (Or.inr ⟨by rfl, rfl⟩) (by assumption) ?_
    try simp only [Act.put, List.setIfInBounds_toArray, List.set_cons_zero, List.set_cons_succ, List.getElem_toArray, List.getElem_cons_zero, List.getElem_cons_succ]
    refine wpAnyH_take (i := 6) (v := undef) rfl (by kernel_rfl) (by kernel_rfl) (by kernel_rfl) (fun _ _ _ h => h) (Or.inr ⟨by rfl, rfl⟩) (by assumption) ?_
    try simp only [Act.put, List.setIfInBounds_toArray, List.set_cons_zero, List.set_cons_succ, List.getElem_toArray, List.getElem_cons_zero, List.getElem_cons_succ]
    refine wpAnyH_take (i := 7) (v := undef) rfl (by kernel_rfl) (by kernel_rfl) (by kernel_rfl) (fun _ _ _ h => h) (Or.inr ⟨by rfl, rfl⟩) (by assumption) ?_
    try simp only [Act.put, List.setIfInBounds_toArray, List.set_cons_zero, List.set_cons_succ, List.getElem_toArray, List.getElem_cons_zero, List.getElem_cons_succ]
    refine wpAnyH_take (i := 8) (v := undef) rfl (by kernel_rfl) (by kernel_rfl) (by kernel_rfl) (fun _ _ _ h => h) (Or.inr ⟨by rfl, rfl⟩) (by assumption) ?_
    try simp only [Act.put, List.setIfInBounds_toArray, List.set_cons_zero, List.set_cons_succ, List.getElem_toArray, List.getElem_cons_zero, List.getElem_cons_succ]
    refine wpAnyH_take (i := 9) (v := undef) rfl (by kernel_rfl) (by kernel_rfl) (by kernel_rfl) (fun _ _ _ h => h) (Or.inr ⟨by rfl, rfl⟩) (by assumption) ?_
    try simp only [Act.put, List.setIfInBounds_toArray, List.set_cons_zero, List.set_cons_succ, List.getElem_toArray, List.getElem_cons_zero, List.getElem_cons_succ]
    refine wpAnyH_take (i := 10) (v := undef) rfl (by kernel_rfl) (by kernel_rfl) (by kernel_rfl) (fun _ _ _ h => h) (Or.inr ⟨by rfl, rfl⟩) (by assumption) ?_
    try simp only [Act.put, List.setIfInBounds_toArray, List.set_cons_zero, List.set_cons_succ, List.getElem_toArray, List.getElem_cons_zero, List.getElem_cons_succ]
    refine wpAnyH_take (i := 11) (v := ?_) rfl (by kernel_rfl) (by kernel_rfl) (by kernel_rfl) (fun _ _ _ h => h) (Or.inl ⟨by rfl, ?_⟩) (by assumption) ?_
    rotate_left
    · intro w hSw
      (try dsimp only at hSw)
      go_simp
      all_goals with_reducible rfl
    try simp only [Act.put, List.setIfInBounds_toArray, List.set_cons_zero, List.set_cons_succ, List.getElem_toArray, List.getElem_cons_zero, List.getElem_cons_succ]
    refine wpAnyH_done (by kernel_rfl) ?_ _
    go_wp2
    go_ret2
    exact ⟨by rw [HT.out, K.oa_no HT.out]; first | done | rfl, hHeld.1⟩
  · have hvc := K.vc_of hv
    have hl := K.last_bd hv
    have HV := Lib.hid hv
    simp only [hv] at k1
    have K1 := Lib.hid k1
    have K3 := Lib.hid (fun w' => last_impl o r a hvc.2.2 w')
    clear hv k1
    have d0 := xA.c0
    have d1 := xA.c1
    have d2 := xA.c2
    have hD2 := xA.lt
    have s2 := bA.size
    clear xA
    rcases inR_cases t a (K.last a) with ⟨c0, c1⟩ | ⟨c0, c1⟩
    · have HT := Lib.hid (K.told_yes (t := t) ⟨HV.out, c1⟩)
      have K4 := Lib.hid (fun w' => at_impl o r a t hvc.1 hvc.2.1 hvc.2.2 (by omega) w')
      have k2 := fun w' => inR_impl t a (K.last a) w'
      simp only [c0] at k2
      have K2 := Lib.hid k2
      clear c0 k2 hl hvc c1
      go_enter Try.func18, Try.ntmps18
      go_wp2_with fail
      generalize w.alloc (Obj.cells #[.int .i64 o, .int .i64 r, .int .i64 a] 24) = W at d0 d1 d2 bA hD2 s2 ⊢
      go_region_held3 (fun w' => Below w.heap.size w w' ∧ w.heap.size < w'.heap.size ∧ w'.cell? ⟨w.heap.size, 0, none⟩ = some (.int .i64 o) ∧ w'.cell? ⟨w.heap.size, 1, none⟩ = some (.int .i64 r) ∧ w'.cell? ⟨w.heap.size, 2, none⟩ = some (.int .i64 a))
        (first | assumption | exact ⟨bA, hD2, d0, d1, d2⟩ | exact ⟨bA.drew, hD2, d0, d1, d2⟩ | exact keepC hb (by assumption))
        ((first | (go_at_call 24; refine (K1.out _).mono ?_; rintro e w4 ⟨rfl, hb⟩) | (go_at_call 52; refine (K3.out _).mono ?_; rintro e w5 ⟨rfl, hb⟩) | (go_at_call 55; refine (K2.out _).mono ?_; rintro e w6 ⟨rfl, rfl⟩)))
      have HB := ‹Below w.heap.size w w5 ∧ _›
      obtain ⟨g0, g1, g2, g3, g4⟩ := HB
      go_wp2_with fail
      refine (K4.out _).mono ?_
      rintro e w7 ⟨rfl, hb7⟩
      have g7 := g0.trans (hb7.mono g0.size)
      clear hb7 g0 g1 g2 g3 g4
      have hfld : ∀ W : World, (Instr.field 24 (.agg #[.int .i64 (K.off o r a t), .int .i64 r, .int .i64 t]) 0).run Try.prog W = .ok (.int .i64 (K.off o r a t)) W := field_0 _ _ _
      go_wp2
      go_ret2
      exact ⟨by rw [HT.out, K.oa_yes HT.out]; first | done | rfl, g7⟩
    · have HT := Lib.hid (K.told_no (o := o) (r := r) (a := a) (t := t) (fun h => c1 h.2))
      have k2 := fun w' => inR_impl t a (K.last a) w'
      simp only [c0] at k2
      have K2 := Lib.hid k2
      clear c0 k2 hl hvc c1
      go_enter Try.func18, Try.ntmps18
      go_wp2_with fail
      generalize w.alloc (Obj.cells #[.int .i64 o, .int .i64 r, .int .i64 a] 24) = W at d0 d1 d2 bA hD2 s2 ⊢
      go_region_held3 (fun w' => Below w.heap.size w w' ∧ w.heap.size < w'.heap.size ∧ w'.cell? ⟨w.heap.size, 0, none⟩ = some (.int .i64 o) ∧ w'.cell? ⟨w.heap.size, 1, none⟩ = some (.int .i64 r) ∧ w'.cell? ⟨w.heap.size, 2, none⟩ = some (.int .i64 a))
        (first | assumption | exact ⟨bA, hD2, d0, d1, d2⟩ | exact ⟨bA.drew, hD2, d0, d1, d2⟩ | exact keepC hb (by assumption))
        ((first | (go_at_call 24; refine (K1.out _).mono ?_; rintro e w4 ⟨rfl, hb⟩) | (go_at_call 52; refine (K3.out _).mono ?_; rintro e w5 ⟨rfl, hb⟩) | (go_at_call 55; refine (K2.out _).mono ?_; rintro e w6 ⟨rfl, rfl⟩)))
      have HB := ‹Below w.heap.size w w5 ∧ _›
      obtain ⟨g0, g1, g2, g3, g4⟩ := HB
      go_wp2
      go_ret2
      exact ⟨by rw [HT.out, K.oa_no HT.out]; first | done | rfl, g0⟩
theorem near_impl (o r a : Int) (w : World) : Calls Try.prog 48 #[.agg #[.int .i64 o, .int .i64 r, .int .i64 a]] w fun e w' => e = .returned (.bool (K.near o r)) ∧ Below w.heap.size w w' := by
  rcases Int.lt_trichotomy o 0 with h | h | h <;> rcases Int.lt_trichotomy r 0 with k | k | k
  all_goals
    have HV := Lib.hid (show K.near o r = _ by first | exact decide_eq_true (show o < 0 ∧ 0 < r ∨ 0 < o ∧ r < 0 by omega) | exact decide_eq_false (show ¬ (o < 0 ∧ 0 < r ∨ 0 < o ∧ r < 0) by omega))
    (first | have x1 : decide (0 < o) = true := decide_eq_true (by omega) | have x1 : decide (0 < o) = false := decide_eq_false (by omega))
    (first | have x2 : decide (o < 0) = true := decide_eq_true (by omega) | have x2 : decide (o < 0) = false := decide_eq_false (by omega))
    (first | have x3 : decide (0 < r) = true := decide_eq_true (by omega) | have x3 : decide (0 < r) = false := decide_eq_false (by omega))
    (first | have x4 : decide (r < 0) = true := decide_eq_true (by omega) | have x4 : decide (r < 0) = false := decide_eq_false (by omega))
    clear h k
    go_enter Try.func48, Try.ntmps48
    go_wp2
    go_ret
    exact ⟨ret_bool HV.out.symm, (Below.refl _ _).alloc (Nat.le_refl _) _⟩
end Go.Proofs.Ytmkeddcaeaaoaac
