/-
  The number of a date, and the date of a number: the program's answer and the model's are the same plain numbers; what was there is as it was.
-/
import Derived.Test.YtjlplnflhleohaaCalM
namespace Go.Proofs.Ytjlplnflhleohaa
open Go.RowKit
set_option linter.unusedVariables false
set_option maxHeartbeats 2000000 in
theorem dayOf_impl_yes (y m d : Int) (w : World) (h : inR d 1 (M.mdays y m) = true) (hy : 1980 ≤ y ∧ y ≤ 2099) (hm : 1 ≤ m ∧ m ≤ 12) (hd : 1 ≤ d ∧ d ≤ 31) : Calls Try.prog 20 #[.agg #[.int .i64 y, .int .i64 m, .int .i64 d]] w fun e w' => e = .returned (.int .i64 (M.num y m d)) ∧ Below w.heap.size w w' := by
  by_cases h3 : m < 3
  · have hx := M.march_lo y m d hy (by omega)
    have HX := Lib.hid hx
    clear hx
    have mi := fun w' => march_impl y m w' (by omega) hm
    rw [if_pos h3, if_pos h3] at mi
    have MI := Lib.hid mi
    clear mi
    have b1 : (1979 : Int) ≤ y - 1 := by omega
    have b2 : 0 ≤ (y - 1) % 400 ∧ (y - 1) % 400 ≤ 400 := by omega
    have b3 : 0 ≤ 365 * ((y - 1) % 400) + (y - 1) % 400 / 4 - (y - 1) % 400 / 100 ∧ 365 * ((y - 1) % 400) + (y - 1) % 400 / 4 - (y - 1) % 400 / 100 ≤ 150000 := by omega
    have b4 : 0 ≤ (y - 1) / 400 * 146097 ∧ (y - 1) / 400 * 146097 ≤ 1000000 := by omega
    go_enter Try.func20, Try.ntmps20
    go_wp2_with fail
    go_quiet ((first | (go_at_call 39; exact qs (mdays_impl _ _)) | (go_at_call 32; exact qs (inR_impl _ _ _))))
    go_wp2_with (first | (go_at_call 40; refine (MI.out _).mono ?_; rintro e w' ⟨rfl, rfl⟩) | (go_at_call 41; refine (dby_impl _ _ b2).mono ?_; rintro e w' ⟨rfl, rfl⟩))
    have g2 : ((w.alloc (Obj.cells #[.int .i64 y, .int .i64 m, .int .i64 d] 24)).drewN nq).cell? ⟨w.heap.size, 2, none⟩ = some (.int .i64 d) := by simp
    have gb : Below w.heap.size w ((w.alloc (Obj.cells #[.int .i64 y, .int .i64 m, .int .i64 d] 24)).drewN nq) := below_drewN ((Below.refl _ _).alloc (Nat.le_refl _) _) _
    generalize (w.alloc (Obj.cells #[.int .i64 y, .int .i64 m, .int .i64 d] 24)).drewN nq = W1 at g2 gb ⊢
    go_quiet ((go_at_call 42; exact qs (fun w' => dbm_impl _ w' (by omega))))
    go_wp2
    go_ret
    exact ⟨ret_int HX.out, below_drewN gb _⟩
  · have hx := M.march_hi y m d hy (by omega)
    have HX := Lib.hid hx
    clear hx
    have mi := fun w' => march_impl y m w' (by omega) hm
    rw [if_neg h3, if_neg h3] at mi
    have MI := Lib.hid mi
    clear mi
    have b1 : (1980 : Int) ≤ y := by omega
    have b2 : 0 ≤ y % 400 ∧ y % 400 ≤ 400 := by omega
    have b3 : 0 ≤ 365 * (y % 400) + y % 400 / 4 - y % 400 / 100 ∧ 365 * (y % 400) + y % 400 / 4 - y % 400 / 100 ≤ 150000 := by omega
    have b4 : 0 ≤ y / 400 * 146097 ∧ y / 400 * 146097 ≤ 1000000 := by omega
    go_enter Try.func20, Try.ntmps20
    go_wp2_with fail
    go_quiet ((first | (go_at_call 39; exact qs (mdays_impl _ _)) | (go_at_call 32; exact qs (inR_impl _ _ _))))
    go_wp2_with (first | (go_at_call 40; refine (MI.out _).mono ?_; rintro e w' ⟨rfl, rfl⟩) | (go_at_call 41; refine (dby_impl _ _ b2).mono ?_; rintro e w' ⟨rfl, rfl⟩))
    have g2 : ((w.alloc (Obj.cells #[.int .i64 y, .int .i64 m, .int .i64 d] 24)).drewN nq).cell? ⟨w.heap.size, 2, none⟩ = some (.int .i64 d) := by simp
    have gb : Below w.heap.size w ((w.alloc (Obj.cells #[.int .i64 y, .int .i64 m, .int .i64 d] 24)).drewN nq) := below_drewN ((Below.refl _ _).alloc (Nat.le_refl _) _) _
    generalize (w.alloc (Obj.cells #[.int .i64 y, .int .i64 m, .int .i64 d] 24)).drewN nq = W1 at g2 gb ⊢
    go_quiet ((go_at_call 42; exact qs (fun w' => dbm_impl _ w' (by omega))))
    go_wp2
    go_ret
    exact ⟨ret_int HX.out, below_drewN gb _⟩
theorem dayOf_impl (y m d : Int) (w : World) : Calls Try.prog 20 #[.agg #[.int .i64 y, .int .i64 m, .int .i64 d]] w fun e w' => e = .returned (.int .i64 (M.dayOf y m d)) ∧ Below w.heap.size w w' := by
  by_cases hv : M.vld y m d = true
  · have e0 : M.dayOf y m d = M.num y m d := by unfold M.dayOf; rw [if_pos hv]
    rw [e0]
    simp only [M.vld, decide_eq_true_eq] at hv
    obtain ⟨v1, v2, v3, v4⟩ := hv
    have hdm := M.dim_bd y m
    exact dayOf_impl_yes y m d w (inR_yes ⟨v3, by unfold M.mdays; rw [if_pos ⟨v1, v2⟩]; exact v4⟩) v1 v2 ⟨v3, by omega⟩
  · have e0 : M.dayOf y m d = -1 := by unfold M.dayOf; rw [if_neg hv]
    rw [e0]
    refine dayOf_impl_no y m d w (inR_no fun h => hv ?_)
    simp only [M.vld, decide_eq_true_eq]
    unfold M.mdays at h
    split at h
    · rename_i c; exact ⟨c.1, c.2, h⟩
    · omega
theorem yoe_impl (e : Int) (w : World) (h : 0 ≤ e ∧ e ≤ 146096) : Calls Try.prog 52 #[.int .i64 e] w fun x w' => x = .returned (.int .i64 ((e - (e / 1460 - e / 36524 + e / 146096)) / 365)) ∧ w = w' := by
  have b1 : 0 ≤ e - (e / 1460 - e / 36524 + e / 146096) := by omega
  go_enter Try.func52, Try.ntmps52
  go_wp2
  go_ret
  exact ⟨rfl, rfl⟩
theorem mp_impl (d : Int) (w : World) (h : 0 ≤ d ∧ d ≤ 365) : Calls Try.prog 53 #[.int .i64 d] w fun x w' => x = .returned (.int .i64 ((5 * d + 2) / 153)) ∧ w = w' := by
  go_enter Try.func53, Try.ntmps53
  go_wp2
  go_ret
  exact ⟨rfl, rfl⟩
theorem dateOf_impl_out (n : Int) (w : World) (h : ¬ (0 ≤ n ∧ n ≤ 43829)) : Calls Try.prog 33 #[.int .i64 n] w fun e w' => e = .returned (.agg #[.int .i64 0, .int .i64 0, .int .i64 0]) ∧ Below w.heap.size w w' := by
  have h0 := inR_no h
  clear h
  go_enter Try.func33, Try.ntmps33
  go_wp2_with (first | (go_at_call 32; refine (inR_impl _ _ _ _).mono ?_; rintro e w' ⟨rfl, rfl⟩))
  exact bodyPost_ret (v := .agg #[.int .i64 0, .int .i64 0, .int .i64 0]) (by simp [results, Try.results33, go_sem]) rfl ⟨rfl, (Below.refl _ _).alloc (Nat.le_refl _) _⟩
set_option maxHeartbeats 4000000 in
theorem dateOf_impl_in (n : Int) (w : World) (h : 0 ≤ n ∧ n ≤ 43829) : Calls Try.prog 33 #[.int .i64 n] w fun e w' => e = .returned (.agg #[.int .i64 (M.dtY n), .int .i64 (M.dtM n), .int .i64 (M.dtD n)]) ∧ Below w.heap.size w w' := by
  have h0 := inR_yes h
  obtain ⟨d1, d2, d3⟩ := M.dt_in h
  rw [d1, d2, d3]
  have g := M.good n h.1 h.2
  obtain ⟨g1, g2, g3, g4, g5, g6, -, -, -, -, -, -, -⟩ := g
  -- the steps, each under its name
  have e1 : (n + 723120) % 146097 = M.doe n := rfl
  have e2 : (M.doe n - (M.doe n / 1460 - M.doe n / 36524 + M.doe n / 146096)) / 365 = M.yoe n := rfl
  have e3 : M.doe n - (365 * M.yoe n + M.yoe n / 4 - M.yoe n / 100) = M.doy n := rfl
  have e4 : (5 * M.doy n + 2) / 153 = M.mp n := rfl
  have e5 : (n + 723120) / 146097 * 400 + M.yoe n = M.eraY n := rfl
  have e6 : M.dateD n = M.doy n - (153 * M.mp n + 2) / 5 + 1 := rfl
  have e7 : M.dateY n = if M.mp n + 3 > 12 then M.eraY n + 1 else M.eraY n := rfl
  have e8 : M.dateM n = if M.mp n + 3 > 12 then M.mp n + 3 - 12 else M.mp n + 3 := rfl
  have b1 : 0 ≤ M.doe n ∧ M.doe n ≤ 146096 := by unfold M.doe; omega
  have b2 : 0 ≤ M.eraY n ∧ M.eraY n ≤ 10000 := by omega
  generalize M.dateD n = D at *
  generalize M.dateY n = Y at *
  generalize M.dateM n = Mo at *
  generalize M.mp n = mp at *
  generalize M.doy n = doy at *
  generalize M.eraY n = era at *
  generalize M.yoe n = yoe at *
  generalize M.doe n = doe at *
  have hyoe := fun w' => yoe_impl doe w' b1
  rw [e2] at hyoe
  have hmp := fun w' => mp_impl doy w' ⟨g1, g2⟩
  rw [e4] at hmp
  have HYOE := Lib.hid hyoe
  have HMP := Lib.hid hmp
  have E678 := Lib.hid (And.intro e6 (And.intro e7 e8))
  have hdm : 0 ≤ doy - (153 * mp + 2) / 5 + 1 := by omega
  clear hyoe hmp e2 e4 e6 e7 e8 h
  by_cases hb : mp + 3 > 12
  · have hb' : 12 < mp + 3 := hb
    go_enter Try.func33, Try.ntmps33
    go_wp2_with (first | (go_at_call 32; refine (inR_impl _ _ _ _).mono ?_; rintro e w' ⟨rfl, rfl⟩) | (go_at_call 52; refine (HYOE.out _).mono ?_; rintro e w' ⟨rfl, rfl⟩) | (go_at_call 53; refine (HMP.out _).mono ?_; rintro e w' ⟨rfl, rfl⟩) | (go_at_call 41; refine (dby_impl _ _ (by omega)).mono ?_; rintro e w' ⟨rfl, rfl⟩) | (go_at_call 42; refine (dbm_impl _ _ (by omega)).mono ?_; rintro e w' ⟨rfl, rfl⟩))
    obtain ⟨x6, x7, x8⟩ := E678.out
    rw [if_pos (by omega)] at x7 x8
    rw [x6, x7, x8]
    exact bodyPost_ret (v := .agg #[.int .i64 (era + 1), .int .i64 (mp + 3 - 12), .int .i64 (doy - (153 * mp + 2) / 5 + 1)]) (by simp [results, Try.results33, go_sem]) rfl ⟨rfl, ((Below.refl _ _).alloc (Nat.le_refl _) _).alloc (by simp) _⟩
  · have hb' : mp + 3 ≤ 12 := by omega
    go_enter Try.func33, Try.ntmps33
    go_wp2_with (first | (go_at_call 32; refine (inR_impl _ _ _ _).mono ?_; rintro e w' ⟨rfl, rfl⟩) | (go_at_call 52; refine (HYOE.out _).mono ?_; rintro e w' ⟨rfl, rfl⟩) | (go_at_call 53; refine (HMP.out _).mono ?_; rintro e w' ⟨rfl, rfl⟩) | (go_at_call 41; refine (dby_impl _ _ (by omega)).mono ?_; rintro e w' ⟨rfl, rfl⟩) | (go_at_call 42; refine (dbm_impl _ _ (by omega)).mono ?_; rintro e w' ⟨rfl, rfl⟩))
    obtain ⟨x6, x7, x8⟩ := E678.out
    rw [if_neg (by omega)] at x7 x8
    rw [x6, x7, x8]
    exact bodyPost_ret (v := .agg #[.int .i64 era, .int .i64 (mp + 3), .int .i64 (doy - (153 * mp + 2) / 5 + 1)]) (by simp [results, Try.results33, go_sem]) rfl ⟨rfl, ((Below.refl _ _).alloc (Nat.le_refl _) _).alloc (by simp) _⟩
theorem dateOf_impl (n : Int) (w : World) : Calls Try.prog 33 #[.int .i64 n] w fun e w' => e = .returned (.agg #[.int .i64 (M.dtY n), .int .i64 (M.dtM n), .int .i64 (M.dtD n)]) ∧ Below w.heap.size w w' := by
  by_cases h : 0 ≤ n ∧ n ≤ 43829
  · exact dateOf_impl_in n w h
  · obtain ⟨e1, e2, e3⟩ := M.dt_out h
    rw [e1, e2, e3]
    exact dateOf_impl_out n w h
end Go.Proofs.Ytjlplnflhleohaa
