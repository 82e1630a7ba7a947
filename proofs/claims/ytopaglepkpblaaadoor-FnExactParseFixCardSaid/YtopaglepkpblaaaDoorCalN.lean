/-
  The number of a date, and the date of a number: the program's answer and the model's are the same plain numbers; what was there is as it was.
-/
import Derived.Test.YtopaglepkpblaaaDoorCalM
namespace Go.Proofs.YtopaglepkpblaaaDoor
open Go.RowKit
set_option linter.unusedVariables false
set_option maxHeartbeats 2000000 in
theorem dayOf_impl_yes (y m d : Int) (w : World) (h : inR d 1 (M.mdays y m) = true) (hy : 1980 ≤ y ∧ y ≤ 2099) (hm : 1 ≤ m ∧ m ≤ 12) (hd : 1 ≤ d ∧ d ≤ 31) : Calls Tryd.prog 37 #[.agg #[.int .i64 y, .int .i64 m, .int .i64 d]] w fun e w' => e = .returned (.int .i64 (M.num y m d)) ∧ Below w.heap.size w w' := by
  by_cases h3 : m < 3
  · have hx := M.march_lo y m d hy (by omega)
    have HX := Lib.hid hx
    clear hx
    have mi := fun w' => march_impl y m w' (by omega) hm
    rw [if_pos h3, if_pos h3] at mi
    have MI := Lib.hid mi
    clear mi
    have b1 : (1979 : Int) ≤ y - 1 := by omega
    have b2 : 0 ≤ (y - 1) % 400 ∧ (y - 1) % 400 ≤ 400 := by omega
    have b3 : 0 ≤ 365 * ((y - 1) % 400) + (y - 1) % 400 / 4 - (y - 1) % 400 / 100 ∧ 365 * ((y - 1) % 400) + (y - 1) % 400 / 4 - (y - 1) % 400 / 100 ≤ 150000 := by omega
    have b4 : 0 ≤ (y - 1) / 400 * 146097 ∧ (y - 1) / 400 * 146097 ≤ 1000000 := by omega
    go_enter Tryd.func37, Tryd.ntmps37
    go_wp2_with fail
    go_quiet ((first | (go_at_call 60; exact qs (mdays_impl _ _)) | (go_at_call 38; exact qs (inR_impl _ _ _))))
    go_wp2_with (first | (go_at_call 61; refine (MI.out _).mono ?_; rintro e w' ⟨rfl, rfl⟩) | (go_at_call 62; refine (dby_impl _ _ b2).mono ?_; rintro e w' ⟨rfl, rfl⟩))
    have g2 : ((w.alloc (Obj.cells #[.int .i64 y, .int .i64 m, .int .i64 d] 24)).drewN nq).cell? ⟨w.heap.size, 2, none⟩ = some (.int .i64 d) := by simp
    have gb : Below w.heap.size w ((w.alloc (Obj.cells #[.int .i64 y, .int .i64 m, .int .i64 d] 24)).drewN nq) := below_drewN ((Below.refl _ _).alloc (Nat.le_refl _) _) _
    generalize (w.alloc (Obj.cells #[.int .i64 y, .int .i64 m, .int .i64 d] 24)).drewN nq = W1 at g2 gb ⊢
    go_quiet ((go_at_call 63; exact qs (fun w' => dbm_impl _ w' (by omega))))
    go_wp2
    go_ret
    exact ⟨ret_int HX.out, below_drewN gb _⟩
  · have hx := M.march_hi y m d hy (by omega)
    have HX := Lib.hid hx
    clear hx
    have mi := fun w' => march_impl y m w' (by omega) hm
    rw [if_neg h3, if_neg h3] at mi
    have MI := Lib.hid mi
    clear mi
    have b1 : (1980 : Int) ≤ y := by omega
    have b2 : 0 ≤ y % 400 ∧ y % 400 ≤ 400 := by omega
    have b3 : 0 ≤ 365 * (y % 400) + y % 400 / 4 - y % 400 / 100 ∧ 365 * (y % 400) + y % 400 / 4 - y % 400 / 100 ≤ 150000 := by omega
    have b4 : 0 ≤ y / 400 * 146097 ∧ y / 400 * 146097 ≤ 1000000 := by omega
    go_enter Tryd.func37, Tryd.ntmps37
    go_wp2_with fail
    go_quiet ((first | (go_at_call 60; exact qs (mdays_impl _ _)) | (go_at_call 38; exact qs (inR_impl _ _ _))))
    go_wp2_with (first | (go_at_call 61; refine (MI.out _).mono ?_; rintro e w' ⟨rfl, rfl⟩) | (go_at_call 62; refine (dby_impl _ _ b2).mono ?_; rintro e w' ⟨rfl, rfl⟩))
    have g2 : ((w.alloc (Obj.cells #[.int .i64 y, .int .i64 m, .int .i64 d] 24)).drewN nq).cell? ⟨w.heap.size, 2, none⟩ = some (.int .i64 d) := by simp
    have gb : Below w.heap.size w ((w.alloc (Obj.cells #[.int .i64 y, .int .i64 m, .int .i64 d] 24)).drewN nq) := below_drewN ((Below.refl _ _).alloc (Nat.le_refl _) _) _
    generalize (w.alloc (Obj.cells #[.int .i64 y, .int .i64 m, .int .i64 d] 24)).drewN nq = W1 at g2 gb ⊢
    go_quiet ((go_at_call 63; exact qs (fun w' => dbm_impl _ w' (by omega))))
    go_wp2
    go_ret
    exact ⟨ret_int HX.out, below_drewN gb _⟩
theorem dayOf_impl (y m d : Int) (w : World) : Calls Tryd.prog 37 #[.agg #[.int .i64 y, .int .i64 m, .int .i64 d]] w fun e w' => e = .returned (.int .i64 (M.dayOf y m d)) ∧ Below w.heap.size w w' := by
  by_cases hv : M.vld y m d = true
  · have e0 : M.dayOf y m d = M.num y m d := by unfold M.dayOf; rw [if_pos hv]
    rw [e0]
    simp only [M.vld, decide_eq_true_eq] at hv
    obtain ⟨v1, v2, v3, v4⟩ := hv
    have hdm := M.dim_bd y m
    exact dayOf_impl_yes y m d w (inR_yes ⟨v3, by unfold M.mdays; rw [if_pos ⟨v1, v2⟩]; exact v4⟩) v1 v2 ⟨v3, by omega⟩
  · have e0 : M.dayOf y m d = -1 := by unfold M.dayOf; rw [if_neg hv]
    rw [e0]
    refine dayOf_impl_no y m d w (inR_no fun h => hv ?_)
    simp only [M.vld, decide_eq_true_eq]
    unfold M.mdays at h
    split at h
    · rename_i c; exact ⟨c.1, c.2, h⟩
    · omega
end Go.Proofs.YtopaglepkpblaaaDoor
