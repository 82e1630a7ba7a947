/-
  Clocks (chapter 7): a clock that is set; the program's functions.
-/
import Derived.Test.YtljdnncodgnpcaaClockD
import Derived.StillTailTactics
namespace Go.Proofs.Ytljdnncodgnpcaa
open Go.RowKit
set_option linter.unusedVariables false
set_option maxRecDepth 100000
theorem distK_impl (x : Int) (hx : -1000000000 ≤ x ∧ x ≤ 1000000000) (w : World) : Calls Try.prog 60 #[.int .i64 x, .int .i64 0] w fun e w' => e = .returned (.int .i64 (K.abs x)) ∧ w = w' := by
  go_enter Try.func60, Try.ntmps60
  go_wp2
  all_goals
    go_ret
    exact ⟨ret_int (by unfold K.abs; split <;> omega), rfl⟩
set_option maxHeartbeats 2000000 in
theorem corr_impl (o r a x : Int) (ho : -60000000 ≤ o ∧ o ≤ 60000000) (hr : -500000 ≤ r ∧ r ≤ 500000) (hx : -1000000 ≤ x ∧ x ≤ 1000000) (w : World) :
    Calls Try.prog 56 #[.agg #[.int .i64 o, .int .i64 r, .int .i64 a], .int .i64 x] w fun e w' => e = .returned (.agg #[.int .i64 (K.co o x), .int .i64 (K.cr r x), .int .i64 a]) ∧ Below w.heap.size w w' := by
  have K1 := Lib.hid (fun w' => distK_impl x (by omega) w')
  by_cases h : 128000 < K.abs x
  · have hc : K.co o x = K.lim (o - x) 1000000 := if_pos h
    have hcr : K.cr r x = r := if_pos h
    have K2 := Lib.hid (fun w' => lim_impl (o - x) 1000000 (by omega) w')
    rw [hc, hcr]
    clear hc hcr
    go_enter Try.func56, Try.ntmps56
    go_wp2_with (first | (go_at_call 60; refine (K1.out _).mono ?_; rintro e w' ⟨rfl, rfl⟩) | (go_at_call 73; refine (K2.out _).mono ?_; rintro e w' ⟨rfl, rfl⟩))
    refine bodyPost_ret (v := .agg #[.int .i64 (K.lim (o - x) 1000000), .int .i64 r, .int .i64 a]) (by simp [results, Try.results56, go_sem]) rfl ⟨rfl, ?_⟩
    repeat (first | exact Below.refl _ _ | refine Below.drew ?_ | refine below_drewN ?_ _ | refine Below.alloc ?_ (by first | exact Nat.le_refl _ | (simp; done) | (simp; omega)) _)
  · have hc : K.co o x = K.lim (o - x / 4) 1000000 := if_neg h
    have hcr : K.cr r x = K.lim (r - x * 1000 / 4096) 500000 := if_neg h
    have K2 := Lib.hid (fun w' => fdiv_impl x 4 (by omega) (by omega) w')
    have K3 := Lib.hid (fun w' => lim_impl (o - x / 4) 1000000 (by omega) w')
    have K4 := Lib.hid (fun w' => fdiv_impl (x * 1000) 4096 (by omega) (by omega) w')
    have K5 := Lib.hid (fun w' => lim_impl (r - x * 1000 / 4096) 500000 (by omega) w')
    have h2 : decide (128000 < K.abs x) = false := decide_eq_false h
    have e1 : IntKind.i64.wrap (o - x / 4) = o - x / 4 := IntWalk.i64_in _ (by omega)
    have e2 : IntKind.i64.wrap (x * 1000) = x * 1000 := IntWalk.i64_in _ (by omega)
    have e3 : IntKind.i64.wrap (r - x * 1000 / 4096) = r - x * 1000 / 4096 := IntWalk.i64_in _ (by omega)
    have hb1 := K.lim_bd (o - x / 4) (m := 1000000) (by omega)
    rw [hc, hcr]
    clear hc hcr h ho
    generalize hL : K.lim (o - x / 4) 1000000 = L at *
    go_enter Try.func56, Try.ntmps56
    go_wp2_with (go_at_call 60; refine (K1.out _).mono ?_; rintro e w' ⟨rfl, rfl⟩)
    refine wp_region_still_tail 7 (by kernel_rfl) (by kernel_rfl) ?_
    simp only [List.take_succ_cons, List.take_zero, List.drop_succ_cons, List.drop_zero]
    obtain ⟨WS, hWS⟩ : ∃ WS : World, WS = ((w.alloc (Obj.cells #[.int .i64 o, .int .i64 r, .int .i64 a] 24)).alloc (Obj.cells #[.int .i64 0, .int .i64 0, .int .i64 0] 24)).drew := ⟨_, rfl⟩
    change wpStill _ _ (((w.alloc (Obj.cells #[.int .i64 o, .int .i64 r, .int .i64 a] 24)).alloc (Obj.cells #[.int .i64 0, .int .i64 0, .int .i64 0] 24)).drew) (fun a' => wpList _ _ _ _ a' (((w.alloc (Obj.cells #[.int .i64 o, .int .i64 r, .int .i64 a] 24)).alloc (Obj.cells #[.int .i64 0, .int .i64 0, .int .i64 0] 24)).drew)) _ _
    rw [← hWS]
    have xs0 : WS.cell? ⟨w.heap.size, 0, none⟩ = some (.int .i64 o) := by rw [hWS]; simp
    have HWS := Lib.hid hWS
    clear hWS
    repeat still_step
    still_call ((K2.out _).mono (fun _ _ h => ⟨h.1, h.2.symm⟩))
    repeat still_step
    still_call ((K3.out _).mono (fun _ _ h => ⟨h.1, h.2.symm⟩))
    repeat still_step
    try refine wpStill_nil ?_
    rw [HWS.out]
    clear HWS xs0
    go_wp2_with fail
    refine wp_region_still_tail 8 (by kernel_rfl) (by kernel_rfl) ?_
    simp only [List.take_succ_cons, List.take_zero, List.drop_succ_cons, List.drop_zero]
    obtain ⟨WS, hWS⟩ : ∃ WS : World, WS = (((w.alloc (Obj.cells #[.int .i64 L, .int .i64 r, .int .i64 a] 24)).alloc (Obj.cells #[.int .i64 0, .int .i64 0, .int .i64 0] 24)).drew).drew := ⟨_, rfl⟩
    change wpStill _ _ ((((w.alloc (Obj.cells #[.int .i64 L, .int .i64 r, .int .i64 a] 24)).alloc (Obj.cells #[.int .i64 0, .int .i64 0, .int .i64 0] 24)).drew).drew) (fun a' => wpList _ _ _ _ a' ((((w.alloc (Obj.cells #[.int .i64 L, .int .i64 r, .int .i64 a] 24)).alloc (Obj.cells #[.int .i64 0, .int .i64 0, .int .i64 0] 24)).drew).drew)) _ _
    rw [← hWS]
    have xs0 : WS.cell? ⟨w.heap.size, 1, none⟩ = some (.int .i64 r) := by rw [hWS]; simp
    have HWS := Lib.hid hWS
    clear hWS
    repeat still_step
    still_call ((K4.out _).mono (fun _ _ h => ⟨h.1, h.2.symm⟩))
    repeat still_step
    still_call ((K5.out _).mono (fun _ _ h => ⟨h.1, h.2.symm⟩))
    repeat still_step
    try refine wpStill_nil ?_
    rw [HWS.out]
    clear HWS xs0
    go_wp2
    refine bodyPost_ret (v := .agg #[.int .i64 L, .int .i64 (K.lim (r - x * 1000 / 4096) 500000), .int .i64 a]) (by simp [results, Try.results56, go_sem]) rfl ⟨rfl, ?_⟩
    repeat (first | exact Below.refl _ _ | refine Below.drew ?_ | refine below_drewN ?_ _ | refine Below.alloc ?_ (by first | exact Nat.le_refl _ | (simp; done) | (simp; omega)) _)
end Go.Proofs.Ytljdnncodgnpcaa
