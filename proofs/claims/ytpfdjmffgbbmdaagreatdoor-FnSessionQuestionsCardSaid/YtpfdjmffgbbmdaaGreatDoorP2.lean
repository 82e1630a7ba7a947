/-
  One text of several: CalM CalN CalV CalW CalX.
-/
import Derived.Test.YtpfdjmffgbbmdaaGreatDoorCal
import Derived.Deep.RegionHeld3
/-
  What the functions of dates return that use memory of their own: months, days and dates. The program's and the model's answer is the same plain number; what was there is as it was.
-/
namespace Go.Proofs.YtpfdjmffgbbmdaaGreatDoor
open Go.RowKit
set_option linter.unusedVariables false
/-- A quiet callee, in a region that draws its order. -/
theorem qs {P : Program} {f : FuncId} {args : Array Value} {w : World} {n : Nat} {v : Value} (h : ∀ w', Calls P f args w' fun e w'' => e = .returned v ∧ w' = w'') :
    Calls P f args (w.drewN n) fun e w'' => e = .returned v ∧ ∃ m, w'' = w.drewN m := Calls.quiet_of_same ((h _).mono fun _ _ ⟨a, b⟩ => ⟨a, b.symm⟩)
theorem leap_spec (y : Int) (w : World) (h0 : 1980 ≤ y) (h1 : y ≤ 2099) : Calls Tryz.prog 68 #[.int .i64 y] w fun e w' => e = .returned (.bool (M.leapB y)) ∧ w = w' := by
  by_cases h2 : y % 4 = 0
  · have e0 : M.leapB y = true := by simp [M.leapB, h2]
    rw [e0]
    have b4 : (y % 4 == 0) = true := by simp [h2]
    by_cases h3 : y % 100 = 0
    · have b100 : (y % 100 != 0) = false := by simp [h3]
      have b400 : (y % 400 == 0) = true := by simp; omega
      clear h2 h3
      go_enter Tryz.func68, Tryz.ntmps68
      go_wp2
      go_ret
      exact ⟨rfl, rfl⟩
    · have b100 : (y % 100 != 0) = true := by simp [h3]
      clear h2 h3
      go_enter Tryz.func68, Tryz.ntmps68
      go_wp2
      go_ret
      exact ⟨rfl, rfl⟩
  · have e0 : M.leapB y = false := by simp [M.leapB, h2]
    rw [e0]
    have b4 : (y % 4 == 0) = false := by simp [h2]
    have b400 : (y % 400 == 0) = false := by simp; omega
    clear h2
    go_enter Tryz.func68, Tryz.ntmps68
    go_wp2
    go_ret
    exact ⟨rfl, rfl⟩
set_option maxHeartbeats 2000000 in
/-- The days of a month, and new memory alone. -/
theorem dim_spec (y m : Int) (w : World) (h0 : 1980 ≤ y) (h1 : y ≤ 2099) (m0 : 1 ≤ m) (m1 : m ≤ 12) : Calls Tryz.prog 69 #[.int .i64 y, .int .i64 m] w fun e w' => e = .returned (.int .i64 (M.dim y m)) ∧ ∃ o, w' = w.alloc o := by
  rcases M.months ⟨m0, m1⟩ with rfl | rfl | rfl | rfl | rfl | rfl | rfl | rfl | rfl | rfl | rfl | rfl
  case inr.inl =>
    rcases M.lp_eq y with ⟨h2, h3⟩ | ⟨h2, h3⟩
    · have c := fun w' => leap_spec y w' h0 h1
      have e1 : M.leapB y = true := by simp [M.leapB, h2]
      have e2 : M.dim y 2 = 29 := by simp [M.dim]; omega
      rw [e1] at c
      rw [e2]
      have C := Lib.hid c
      clear c e1 e2 h2 h3
      go_enter Tryz.func69, Tryz.ntmps69
      go_wp2_with (go_at_call 68; refine (C.out _).mono ?_; rintro e w' ⟨rfl, rfl⟩)
      go_ret
      exact ⟨rfl, _, rfl⟩
    · have c := fun w' => leap_spec y w' h0 h1
      have e1 : M.leapB y = false := by simp [M.leapB, h2]
      have e2 : M.dim y 2 = 28 := by simp [M.dim]; omega
      rw [e1] at c
      rw [e2]
      have C := Lib.hid c
      clear c e1 e2 h2 h3
      go_enter Tryz.func69, Tryz.ntmps69
      go_wp2_with (go_at_call 68; refine (C.out _).mono ?_; rintro e w' ⟨rfl, rfl⟩)
      go_ret
      exact ⟨rfl, _, rfl⟩
  all_goals
    go_enter Tryz.func69, Tryz.ntmps69
    go_wp2
    go_ret
    exact ⟨ret_int (by simp [M.dim]), _, rfl⟩
theorem march_impl (y m : Int) (w : World) (h : -100000 ≤ y ∧ y ≤ 100000) (h' : 1 ≤ m ∧ m ≤ 12) : Calls Tryz.prog 88 #[.int .i64 y, .int .i64 m] w fun e w' => e = .returned (.tuple #[.int .i64 (if m < 3 then y - 1 else y), .int .i64 (if m < 3 then m + 9 else m - 3)]) ∧ w = w' := by
  by_cases h3 : m < 3
  · rw [if_pos h3, if_pos h3]
    go_enter Tryz.func88, Tryz.ntmps88
    go_wp2
    go_ret2
    exact ⟨rfl, rfl⟩
  · rw [if_neg h3, if_neg h3]
    go_enter Tryz.func88, Tryz.ntmps88
    go_wp2
    go_ret2
    exact ⟨rfl, rfl⟩
theorem dby_impl (y : Int) (w : World) (h : 0 ≤ y ∧ y ≤ 400) : Calls Tryz.prog 60 #[.int .i64 y] w fun e w' => e = .returned (.int .i64 (365 * y + y / 4 - y / 100)) ∧ w = w' := by
  go_enter Tryz.func60, Tryz.ntmps60
  go_wp2
  go_ret
  exact ⟨rfl, rfl⟩
theorem dbm_impl (m : Int) (w : World) (h : 0 ≤ m ∧ m ≤ 12) : Calls Tryz.prog 62 #[.int .i64 m] w fun e w' => e = .returned (.int .i64 ((153 * m + 2) / 5)) ∧ w = w' := by
  go_enter Tryz.func62, Tryz.ntmps62
  go_wp2
  go_ret
  exact ⟨rfl, rfl⟩
theorem dayOf_impl_no (y m d : Int) (w : World) (h : inR d 1 (M.mdays y m) = false) : Calls Tryz.prog 56 #[.agg #[.int .i64 y, .int .i64 m, .int .i64 d]] w fun e w' => e = .returned (.int .i64 (-1)) ∧ Below w.heap.size w w' := by
  go_enter Tryz.func56, Tryz.ntmps56
  go_wp2_with fail
  go_quiet ((first | (go_at_call 87; exact qs (mdays_impl _ _)) | (go_at_call 33; exact qs (inR_impl _ _ _))))
  go_wp2
  go_ret
  exact ⟨rfl, below_drewN ((Below.refl _ _).alloc (Nat.le_refl _) _) _⟩
end Go.Proofs.YtpfdjmffgbbmdaaGreatDoor

/-
  The number of a date, and the date of a number: the program's answer and the model's are the same plain numbers; what was there is as it was.
-/
namespace Go.Proofs.YtpfdjmffgbbmdaaGreatDoor
open Go.RowKit
set_option linter.unusedVariables false
set_option maxHeartbeats 2000000 in
theorem dayOf_impl_yes (y m d : Int) (w : World) (h : inR d 1 (M.mdays y m) = true) (hy : 1980 ≤ y ∧ y ≤ 2099) (hm : 1 ≤ m ∧ m ≤ 12) (hd : 1 ≤ d ∧ d ≤ 31) : Calls Tryz.prog 56 #[.agg #[.int .i64 y, .int .i64 m, .int .i64 d]] w fun e w' => e = .returned (.int .i64 (M.num y m d)) ∧ Below w.heap.size w w' := by
  by_cases h3 : m < 3
  · have hx := M.march_lo y m d hy (by omega)
    have HX := Lib.hid hx
    clear hx
    have mi := fun w' => march_impl y m w' (by omega) hm
    rw [if_pos h3, if_pos h3] at mi
    have MI := Lib.hid mi
    clear mi
    have b1 : (1979 : Int) ≤ y - 1 := by omega
    have b2 : 0 ≤ (y - 1) % 400 ∧ (y - 1) % 400 ≤ 400 := by omega
    have b3 : 0 ≤ 365 * ((y - 1) % 400) + (y - 1) % 400 / 4 - (y - 1) % 400 / 100 ∧ 365 * ((y - 1) % 400) + (y - 1) % 400 / 4 - (y - 1) % 400 / 100 ≤ 150000 := by omega
    have b4 : 0 ≤ (y - 1) / 400 * 146097 ∧ (y - 1) / 400 * 146097 ≤ 1000000 := by omega
    go_enter Tryz.func56, Tryz.ntmps56
    go_wp2_with fail
    go_quiet ((first | (go_at_call 87; exact qs (mdays_impl _ _)) | (go_at_call 33; exact qs (inR_impl _ _ _))))
    go_wp2_with (first | (go_at_call 88; refine (MI.out _).mono ?_; rintro e w' ⟨rfl, rfl⟩) | (go_at_call 60; refine (dby_impl _ _ b2).mono ?_; rintro e w' ⟨rfl, rfl⟩))
    have g2 : ((w.alloc (Obj.cells #[.int .i64 y, .int .i64 m, .int .i64 d] 29)).drewN nq).cell? ⟨w.heap.size, 2, none⟩ = some (.int .i64 d) := by simp
    have gb : Below w.heap.size w ((w.alloc (Obj.cells #[.int .i64 y, .int .i64 m, .int .i64 d] 29)).drewN nq) := below_drewN ((Below.refl _ _).alloc (Nat.le_refl _) _) _
    generalize (w.alloc (Obj.cells #[.int .i64 y, .int .i64 m, .int .i64 d] 29)).drewN nq = W1 at g2 gb ⊢
    go_quiet ((go_at_call 62; exact qs (fun w' => dbm_impl _ w' (by omega))))
    go_wp2
    go_ret
    exact ⟨ret_int HX.out, below_drewN gb _⟩
  · have hx := M.march_hi y m d hy (by omega)
    have HX := Lib.hid hx
    clear hx
    have mi := fun w' => march_impl y m w' (by omega) hm
    rw [if_neg h3, if_neg h3] at mi
    have MI := Lib.hid mi
    clear mi
    have b1 : (1980 : Int) ≤ y := by omega
    have b2 : 0 ≤ y % 400 ∧ y % 400 ≤ 400 := by omega
    have b3 : 0 ≤ 365 * (y % 400) + y % 400 / 4 - y % 400 / 100 ∧ 365 * (y % 400) + y % 400 / 4 - y % 400 / 100 ≤ 150000 := by omega
    have b4 : 0 ≤ y / 400 * 146097 ∧ y / 400 * 146097 ≤ 1000000 := by omega
    go_enter Tryz.func56, Tryz.ntmps56
    go_wp2_with fail
    go_quiet ((first | (go_at_call 87; exact qs (mdays_impl _ _)) | (go_at_call 33; exact qs (inR_impl _ _ _))))
    go_wp2_with (first | (go_at_call 88; refine (MI.out _).mono ?_; rintro e w' ⟨rfl, rfl⟩) | (go_at_call 60; refine (dby_impl _ _ b2).mono ?_; rintro e w' ⟨rfl, rfl⟩))
    have g2 : ((w.alloc (Obj.cells #[.int .i64 y, .int .i64 m, .int .i64 d] 29)).drewN nq).cell? ⟨w.heap.size, 2, none⟩ = some (.int .i64 d) := by simp
    have gb : Below w.heap.size w ((w.alloc (Obj.cells #[.int .i64 y, .int .i64 m, .int .i64 d] 29)).drewN nq) := below_drewN ((Below.refl _ _).alloc (Nat.le_refl _) _) _
    generalize (w.alloc (Obj.cells #[.int .i64 y, .int .i64 m, .int .i64 d] 29)).drewN nq = W1 at g2 gb ⊢
    go_quiet ((go_at_call 62; exact qs (fun w' => dbm_impl _ w' (by omega))))
    go_wp2
    go_ret
    exact ⟨ret_int HX.out, below_drewN gb _⟩
theorem dayOf_impl (y m d : Int) (w : World) : Calls Tryz.prog 56 #[.agg #[.int .i64 y, .int .i64 m, .int .i64 d]] w fun e w' => e = .returned (.int .i64 (M.dayOf y m d)) ∧ Below w.heap.size w w' := by
  by_cases hv : M.vld y m d = true
  · have e0 : M.dayOf y m d = M.num y m d := by unfold M.dayOf; rw [if_pos hv]
    rw [e0]
    simp only [M.vld, decide_eq_true_eq] at hv
    obtain ⟨v1, v2, v3, v4⟩ := hv
    have hdm := M.dim_bd y m
    exact dayOf_impl_yes y m d w (inR_yes ⟨v3, by unfold M.mdays; rw [if_pos ⟨v1, v2⟩]; exact v4⟩) v1 v2 ⟨v3, by omega⟩
  · have e0 : M.dayOf y m d = -1 := by unfold M.dayOf; rw [if_neg hv]
    rw [e0]
    refine dayOf_impl_no y m d w (inR_no fun h => hv ?_)
    simp only [M.vld, decide_eq_true_eq]
    unfold M.mdays at h
    split at h
    · rename_i c; exact ⟨c.1, c.2, h⟩
    · omega
theorem yoe_impl (e : Int) (w : World) (h : 0 ≤ e ∧ e ≤ 146096) : Calls Tryz.prog 59 #[.int .i64 e] w fun x w' => x = .returned (.int .i64 ((e - (e / 1460 - e / 36524 + e / 146096)) / 365)) ∧ w = w' := by
  have b1 : 0 ≤ e - (e / 1460 - e / 36524 + e / 146096) := by omega
  go_enter Tryz.func59, Tryz.ntmps59
  go_wp2
  go_ret
  exact ⟨rfl, rfl⟩
theorem mp_impl (d : Int) (w : World) (h : 0 ≤ d ∧ d ≤ 365) : Calls Tryz.prog 61 #[.int .i64 d] w fun x w' => x = .returned (.int .i64 ((5 * d + 2) / 153)) ∧ w = w' := by
  go_enter Tryz.func61, Tryz.ntmps61
  go_wp2
  go_ret
  exact ⟨rfl, rfl⟩
theorem dateOf_impl_out (n : Int) (w : World) (h : ¬ (0 ≤ n ∧ n ≤ 43829)) : Calls Tryz.prog 34 #[.int .i64 n] w fun e w' => e = .returned (.agg #[.int .i64 0, .int .i64 0, .int .i64 0]) ∧ Below w.heap.size w w' := by
  have h0 := inR_no h
  clear h
  go_enter Tryz.func34, Tryz.ntmps34
  go_wp2_with (first | (go_at_call 33; refine (inR_impl _ _ _ _).mono ?_; rintro e w' ⟨rfl, rfl⟩))
  exact bodyPost_ret (v := .agg #[.int .i64 0, .int .i64 0, .int .i64 0]) (by simp [results, Tryz.results34, go_sem]) rfl ⟨rfl, (Below.refl _ _).alloc (Nat.le_refl _) _⟩
set_option maxHeartbeats 4000000 in
theorem dateOf_impl_in (n : Int) (w : World) (h : 0 ≤ n ∧ n ≤ 43829) : Calls Tryz.prog 34 #[.int .i64 n] w fun e w' => e = .returned (.agg #[.int .i64 (M.dtY n), .int .i64 (M.dtM n), .int .i64 (M.dtD n)]) ∧ Below w.heap.size w w' := by
  have h0 := inR_yes h
  obtain ⟨d1, d2, d3⟩ := M.dt_in h
  rw [d1, d2, d3]
  have g := M.good n h.1 h.2
  obtain ⟨g1, g2, g3, g4, g5, g6, -, -, -, -, -, -, -⟩ := g
  -- the steps, each under its name
  have e1 : (n + 723120) % 146097 = M.doe n := rfl
  have e2 : (M.doe n - (M.doe n / 1460 - M.doe n / 36524 + M.doe n / 146096)) / 365 = M.yoe n := rfl
  have e3 : M.doe n - (365 * M.yoe n + M.yoe n / 4 - M.yoe n / 100) = M.doy n := rfl
  have e4 : (5 * M.doy n + 2) / 153 = M.mp n := rfl
  have e5 : (n + 723120) / 146097 * 400 + M.yoe n = M.eraY n := rfl
  have e6 : M.dateD n = M.doy n - (153 * M.mp n + 2) / 5 + 1 := rfl
  have e7 : M.dateY n = if M.mp n + 3 > 12 then M.eraY n + 1 else M.eraY n := rfl
  have e8 : M.dateM n = if M.mp n + 3 > 12 then M.mp n + 3 - 12 else M.mp n + 3 := rfl
  have b1 : 0 ≤ M.doe n ∧ M.doe n ≤ 146096 := by unfold M.doe; omega
  have b2 : 0 ≤ M.eraY n ∧ M.eraY n ≤ 10000 := by omega
  generalize M.dateD n = D at *
  generalize M.dateY n = Y at *
  generalize M.dateM n = Mo at *
  generalize M.mp n = mp at *
  generalize M.doy n = doy at *
  generalize M.eraY n = era at *
  generalize M.yoe n = yoe at *
  generalize M.doe n = doe at *
  have hyoe := fun w' => yoe_impl doe w' b1
  rw [e2] at hyoe
  have hmp := fun w' => mp_impl doy w' ⟨g1, g2⟩
  rw [e4] at hmp
  have HYOE := Lib.hid hyoe
  have HMP := Lib.hid hmp
  have E678 := Lib.hid (And.intro e6 (And.intro e7 e8))
  have hdm : 0 ≤ doy - (153 * mp + 2) / 5 + 1 := by omega
  clear hyoe hmp e2 e4 e6 e7 e8 h
  by_cases hb : mp + 3 > 12
  · have hb' : 12 < mp + 3 := hb
    go_enter Tryz.func34, Tryz.ntmps34
    go_wp2_with (first | (go_at_call 33; refine (inR_impl _ _ _ _).mono ?_; rintro e w' ⟨rfl, rfl⟩) | (go_at_call 59; refine (HYOE.out _).mono ?_; rintro e w' ⟨rfl, rfl⟩) | (go_at_call 61; refine (HMP.out _).mono ?_; rintro e w' ⟨rfl, rfl⟩) | (go_at_call 60; refine (dby_impl _ _ (by omega)).mono ?_; rintro e w' ⟨rfl, rfl⟩) | (go_at_call 62; refine (dbm_impl _ _ (by omega)).mono ?_; rintro e w' ⟨rfl, rfl⟩))
    obtain ⟨x6, x7, x8⟩ := E678.out
    rw [if_pos (by omega)] at x7 x8
    rw [x6, x7, x8]
    exact bodyPost_ret (v := .agg #[.int .i64 (era + 1), .int .i64 (mp + 3 - 12), .int .i64 (doy - (153 * mp + 2) / 5 + 1)]) (by simp [results, Tryz.results34, go_sem]) rfl ⟨rfl, ((Below.refl _ _).alloc (Nat.le_refl _) _).alloc (by simp) _⟩
  · have hb' : mp + 3 ≤ 12 := by omega
    go_enter Tryz.func34, Tryz.ntmps34
    go_wp2_with (first | (go_at_call 33; refine (inR_impl _ _ _ _).mono ?_; rintro e w' ⟨rfl, rfl⟩) | (go_at_call 59; refine (HYOE.out _).mono ?_; rintro e w' ⟨rfl, rfl⟩) | (go_at_call 61; refine (HMP.out _).mono ?_; rintro e w' ⟨rfl, rfl⟩) | (go_at_call 60; refine (dby_impl _ _ (by omega)).mono ?_; rintro e w' ⟨rfl, rfl⟩) | (go_at_call 62; refine (dbm_impl _ _ (by omega)).mono ?_; rintro e w' ⟨rfl, rfl⟩))
    obtain ⟨x6, x7, x8⟩ := E678.out
    rw [if_neg (by omega)] at x7 x8
    rw [x6, x7, x8]
    exact bodyPost_ret (v := .agg #[.int .i64 era, .int .i64 (mp + 3), .int .i64 (doy - (153 * mp + 2) / 5 + 1)]) (by simp [results, Tryz.results34, go_sem]) rfl ⟨rfl, ((Below.refl _ _).alloc (Nat.le_refl _) _).alloc (by simp) _⟩
theorem dateOf_impl (n : Int) (w : World) : Calls Tryz.prog 34 #[.int .i64 n] w fun e w' => e = .returned (.agg #[.int .i64 (M.dtY n), .int .i64 (M.dtM n), .int .i64 (M.dtD n)]) ∧ Below w.heap.size w w' := by
  by_cases h : 0 ≤ n ∧ n ≤ 43829
  · exact dateOf_impl_in n w h
  · obtain ⟨e1, e2, e3⟩ := M.dt_out h
    rw [e1, e2, e3]
    exact dateOf_impl_out n w h
end Go.Proofs.YtpfdjmffgbbmdaaGreatDoor

/-
  Whether a date is valid: what the model answers; what was there is as it was.
-/
namespace Go.Proofs.YtpfdjmffgbbmdaaGreatDoor
open Go.RowKit
set_option linter.unusedVariables false
set_option maxHeartbeats 2000000 in
theorem vld_spec (y m d : Int) (w : World) : Calls Tryz.prog 63 #[.agg #[.int .i64 y, .int .i64 m, .int .i64 d]] w fun e w' => e = .returned (.bool (M.vld y m d)) ∧ Below w.heap.size w w' := by
  rcases inR_cases y 1980 2099 with ⟨h0, a0⟩ | ⟨h0, a0⟩
  · rcases inR_cases m 1 12 with ⟨h1, a1⟩ | ⟨h1, a1⟩
    · have e0 : M.vld y m d = inR d 1 (M.dim y m) := by
        simp only [M.vld, inR]; rw [decide_eq_decide]; exact ⟨fun h => h.2.2, fun h => ⟨a0, a1, h⟩⟩
      rw [e0]
      go_enter Tryz.func63, Tryz.ntmps63
      go_wp2_with fail
      go_region_held3 (fun w' => w'.cell? ⟨w.heap.size, 0, none⟩ = some (.int .i64 y) ∧ w'.cell? ⟨w.heap.size, 1, none⟩ = some (.int .i64 m) ∧ w'.cell? ⟨w.heap.size, 2, none⟩ = some (.int .i64 d))
        (simp [go_sem, World.cell?_alloc_past])
        ((first | (go_at_call 39; refine (inR_spec _ _ _ _).mono ?_; rintro e w' ⟨rfl, rfl⟩) | (go_at_call 69; refine (dim_spec _ _ _ a0.1 a0.2 a1.1 a1.2).mono ?_; rintro e w' ⟨rfl, o, rfl⟩)))
      go_wp2
      go_ret
      exact ⟨rfl, (((Below.refl _ _).alloc (Nat.le_refl _) _).alloc (by simp) _).drew⟩
    · have e0 : M.vld y m d = false := by simp [M.vld]; omega
      rw [e0]
      go_enter Tryz.func63, Tryz.ntmps63
      go_wp2_with fail
      go_quiet ((go_at_call 39; exact qs (inR_spec _ _ _)))
      go_wp2
      go_ret
      exact ⟨rfl, below_drewN ((Below.refl _ _).alloc (Nat.le_refl _) _) _⟩
  · have e0 : M.vld y m d = false := by simp [M.vld]; omega
    rw [e0]
    go_enter Tryz.func63, Tryz.ntmps63
    go_wp2_with fail
    go_quiet ((go_at_call 39; exact qs (inR_spec _ _ _)))
    go_wp2
    go_ret
    exact ⟨rfl, below_drewN ((Below.refl _ _).alloc (Nat.le_refl _) _) _⟩
end Go.Proofs.YtpfdjmffgbbmdaaGreatDoor

/-
  The number of a date and the date of a number by the model: two loops each; what was there is as it was.
-/
namespace Go.Proofs.YtpfdjmffgbbmdaaGreatDoor
open Go.RowKit
set_option linter.unusedVariables false
theorem bcell {W w1 : World} (hb : Below W.heap.size W w1) : (∀ b o, b < W.heap.size → w1.cell? ⟨b, o, none⟩ = W.cell? ⟨b, o, none⟩) ∧ (∀ b o, b < W.heap.size → w1.frozen? ⟨b, o, none⟩ = W.frozen? ⟨b, o, none⟩) :=
  ⟨fun b o h => hb.cell (p := ⟨b, o, none⟩) h, fun b o h => hb.frozen (p := ⟨b, o, none⟩) h⟩
theorem toInt_leap (y : Int) (w : World) : Calls Tryz.prog 67 #[.bool (M.leapB y)] w fun e w' => e = .returned (.int .i64 (M.lp y)) ∧ w = w' := by
  rcases M.lp_eq y with ⟨h, h'⟩ | ⟨h, h'⟩
  · have e1 : M.leapB y = true := by simp [M.leapB, h]
    rw [e1, h']
    go_enter Tryz.func67, Tryz.ntmps67
    go_wp2
    go_ret
    exact ⟨rfl, rfl⟩
  · have e1 : M.leapB y = false := by simp [M.leapB, h]
    rw [e1, h']
    go_enter Tryz.func67, Tryz.ntmps67
    go_wp2
    go_ret
    exact ⟨rfl, rfl⟩
set_option maxHeartbeats 2000000 in
theorem num_spec (y m d : Int) (w : World) (hy : 1980 ≤ y ∧ y ≤ 2099) (hm : 1 ≤ m ∧ m ≤ 12) (hd : 1 ≤ d ∧ d ≤ 31) : Calls Tryz.prog 103 #[.agg #[.int .i64 y, .int .i64 m, .int .i64 d]] w fun e w' => e = .returned (.int .i64 (M.num y m d)) ∧ Below w.heap.size w w' := by
  go_enter Tryz.func103, Tryz.ntmps103
  go_wp2_with fail
  go_loop [3, 4] (fun n t => ∃ k : Int, 1980 ≤ k ∧ k ≤ y ∧ t = .int .i64 k ∧ n = .int .i64 (M.dby k + d - 1)) (fun _ t => (2100 - intOf t).toNat)
  case atStart => exact ⟨1980, by omega, by omega, rfl, by simp [M.dby]⟩
  case round =>
    obtain ⟨k, hk0, hk1, rfl, rfl⟩ := hrel
    have hb : 0 ≤ M.dby k ∧ M.dby k ≤ 50000 := by unfold M.dby; omega
    by_cases hlt : k < y
    · have hs := M.dby_succ k
      have hl := M.lp_bd k
      have HS := Lib.hid hs
      clear hs
      go_wp2_with (first | (go_at_call 68; refine (leap_spec _ _ (by omega) (by omega)).mono ?_; rintro e w' ⟨rfl, rfl⟩) | (go_at_call 67; refine (toInt_leap _ _).mono ?_; rintro e w' ⟨rfl, rfl⟩))
      go_round
      case rel => exact ⟨k + 1, by omega, by omega, rfl, by rw [HS.out]; go_num⟩
      case measure => simp [intOf]; omega
    · obtain rfl : k = y := by omega
      go_wp2_with fail
      go_loopw [3, 5] (fun n t wr => ∃ j : Int, 1 ≤ j ∧ j ≤ m ∧ t = .int .i64 j ∧ n = .int .i64 (M.dby k + M.cum k j + d - 1) ∧ Below (w.heap.size + 1) (w.alloc (Obj.cells #[.int .i64 k, .int .i64 m, .int .i64 d] 29)) wr) (fun _ t _ => (13 - intOf t).toNat)
      case atStart => exact ⟨1, by omega, by omega, rfl, by simp [M.cum], Below.refl _ _⟩
      case round =>
        obtain ⟨j, hj0, hj1, rfl, rfl, hw⟩ := hrel
        have hcb := M.cum_bd k j (by omega)
        have hl := M.lp_bd k
        have c0 : wr.cell? ⟨w.heap.size, 0, none⟩ = some (.int .i64 k) := (hw.cell (p := ⟨w.heap.size, 0, none⟩) (Nat.lt_succ_self _)).trans (by simp)
        have c1 : wr.cell? ⟨w.heap.size, 1, none⟩ = some (.int .i64 m) := (hw.cell (p := ⟨w.heap.size, 1, none⟩) (Nat.lt_succ_self _)).trans (by simp)
        have hsz : w.heap.size + 1 ≤ wr.heap.size := by have := hw.size; simpa using this
        by_cases hlt : j < m
        · have hs := M.cum_succ k j (by omega)
          have hdb := M.dim_bd k j
          have HS := Lib.hid hs
          clear hs
          go_wp2_with (go_at_call 69; refine (dim_spec _ _ _ hy.1 hy.2 (by omega) (by omega)).mono ?_; rintro e w' ⟨rfl, o, rfl⟩)
          go_roundw
          case rel => exact ⟨j + 1, by omega, by omega, rfl, by rw [HS.out]; go_num, hw.alloc hsz _⟩
          case measure => simp [intOf]; omega
        · obtain rfl : j = m := by omega
          have hfin : Below w.heap.size w wr := ((Below.refl w.heap.size w).alloc (Nat.le_refl _) _).trans (hw.mono (by omega))
          clear hw hsz
          go_wp2
          go_ret
          exact ⟨ret_int (by unfold M.num; omega), hfin⟩
theorem dateOf_spec_out (n : Int) (w : World) (h : ¬ (0 ≤ n ∧ n ≤ 43829)) : Calls Tryz.prog 40 #[.int .i64 n] w fun e w' => e = .returned (.agg #[.int .i64 0, .int .i64 0, .int .i64 0]) ∧ Below w.heap.size w w' := by
  have h0 := inR_no h
  clear h
  go_enter Tryz.func40, Tryz.ntmps40
  go_wp2_with (first | (go_at_call 39; refine (inR_spec _ _ _ _).mono ?_; rintro e w' ⟨rfl, rfl⟩))
  exact bodyPost_ret (v := .agg #[.int .i64 0, .int .i64 0, .int .i64 0]) (by simp [results, Tryz.results40, go_sem]) rfl ⟨rfl, (Below.refl _ _).alloc (Nat.le_refl _) _⟩
set_option maxHeartbeats 4000000 in
theorem dateOf_spec_in (n : Int) (w : World) (h : 0 ≤ n ∧ n ≤ 43829) : Calls Tryz.prog 40 #[.int .i64 n] w fun e w' => e = .returned (.agg #[.int .i64 (M.dtY n), .int .i64 (M.dtM n), .int .i64 (M.dtD n)]) ∧ Below w.heap.size w w' := by
  have h0 := inR_yes h
  go_enter Tryz.func40, Tryz.ntmps40
  go_wp2_with (first | (go_at_call 39; refine (inR_spec _ _ _ _).mono ?_; rintro e w' ⟨rfl, rfl⟩))
  go_loop [0, 3] (fun a t => ∃ k : Int, 1980 ≤ k ∧ k ≤ 2099 ∧ t = .int .i64 k ∧ a = .int .i64 (n - M.dby k) ∧ M.dby k ≤ n) (fun _ t => (2100 - intOf t).toNat)
  case atStart => exact ⟨1980, by omega, by omega, rfl, by simp [M.dby], by simp [M.dby]; omega⟩
  case round =>
    obtain ⟨k, hk0, hk1, rfl, rfl, hk2⟩ := hrel
    have hb : 0 ≤ M.dby k := by unfold M.dby; omega
    have hs := M.dby_succ k
    have hl := M.lp_bd k
    by_cases hlt : M.dby (k + 1) ≤ n
    · have hk3 : k + 1 ≤ 2099 := by unfold M.dby at hlt; omega
      have hge : 365 + M.lp k ≤ n - M.dby k := by omega
      have hk4 : M.dby (k + 1) ≤ n := hlt
      have HS := Lib.hid hs
      clear hs hlt
      go_wp2_with (first | (go_at_call 68; refine (leap_spec _ _ (by omega) (by omega)).mono ?_; rintro e w' ⟨rfl, rfl⟩) | (go_at_call 67; refine (toInt_leap _ _).mono ?_; rintro e w' ⟨rfl, rfl⟩))
      go_round
      case rel => exact ⟨k + 1, by omega, by omega, rfl, by rw [HS.out]; go_num, hk4⟩
      case measure => simp [intOf]; omega
    · have hge : n - M.dby k < 365 + M.lp k := by omega
      clear hs hlt
      go_wp2_with (first | (go_at_call 68; refine (leap_spec _ _ (by omega) (by omega)).mono ?_; rintro e w' ⟨rfl, rfl⟩) | (go_at_call 67; refine (toInt_leap _ _).mono ?_; rintro e w' ⟨rfl, rfl⟩))
      go_loopw [0, 4] (fun a t wr => ∃ j : Int, 1 ≤ j ∧ j ≤ 12 ∧ t = .int .i64 j ∧ a = .int .i64 (n - M.dby k - M.cum k j) ∧ M.cum k j ≤ n - M.dby k ∧ Below (w.heap.size + 1) (w.alloc (Obj.cells #[.int .i64 0, .int .i64 0, .int .i64 0] 29)) wr) (fun _ t _ => (13 - intOf t).toNat)
      case atStart => exact ⟨1, by omega, by omega, rfl, by simp [M.cum], by simp [M.cum]; omega, Below.refl _ _⟩
      case round =>
        obtain ⟨j, hj0, hj1, rfl, rfl, hj2, hw⟩ := hrel
        have hcb := M.cum_bd k j (by omega)
        have hdb := M.dim_bd k j
        have hs2 := M.cum_succ k j (by omega)
        have hsz : w.heap.size + 1 ≤ wr.heap.size := by have := hw.size; simpa using this
        by_cases hlt : M.cum k (j + 1) ≤ n - M.dby k
        · have hj3 : j + 1 ≤ 12 := by
            rcases Int.lt_or_le j 12 with h1 | h1
            · omega
            · have e : j = 12 := by omega
              subst e
              have := M.cum_last k
              have : M.cum k (12 + 1) = 365 + M.lp k := this
              omega
          have hge2 : M.dim k j ≤ n - M.dby k - M.cum k j := by omega
          have hj4 : M.cum k (j + 1) ≤ n - M.dby k := hlt
          have HS := Lib.hid hs2
          clear hs2 hlt
          go_wp2_with (go_at_call 69; refine (dim_spec _ _ _ hk0 hk1 (by omega) (by omega)).mono ?_; rintro e w' ⟨rfl, o, rfl⟩)
          go_roundw
          case rel => exact ⟨j + 1, by omega, by omega, rfl, by rw [HS.out]; go_num, hj4, (hw.alloc hsz _).alloc (by simp; omega) _⟩
          case measure => simp [intOf]; omega
        · have hge2 : n - M.dby k - M.cum k j < M.dim k j := by omega
          have hv : M.vld k j (n - M.dby k - M.cum k j + 1) = true := M.vld_mk ⟨hk0, hk1⟩ ⟨hj0, hj1⟩ (by omega)
          have hdt := M.dt_is hv (by unfold M.num; omega) h
          have c0 : wr.cell? ⟨w.heap.size, 0, none⟩ = some (.int .i64 0) := (hw.cell (p := ⟨w.heap.size, 0, none⟩) (Nat.lt_succ_self _)).trans (by simp)
          have c1 : wr.cell? ⟨w.heap.size, 1, none⟩ = some (.int .i64 0) := (hw.cell (p := ⟨w.heap.size, 1, none⟩) (Nat.lt_succ_self _)).trans (by simp)
          have c2 : wr.cell? ⟨w.heap.size, 2, none⟩ = some (.int .i64 0) := (hw.cell (p := ⟨w.heap.size, 2, none⟩) (Nat.lt_succ_self _)).trans (by simp)
          have f0 : wr.frozen? ⟨w.heap.size, 0, none⟩ = false := (hw.frozen (p := ⟨w.heap.size, 0, none⟩) (Nat.lt_succ_self _)).trans (by simp)
          have f1 : wr.frozen? ⟨w.heap.size, 1, none⟩ = false := (hw.frozen (p := ⟨w.heap.size, 1, none⟩) (Nat.lt_succ_self _)).trans (by simp)
          have f2 : wr.frozen? ⟨w.heap.size, 2, none⟩ = false := (hw.frozen (p := ⟨w.heap.size, 2, none⟩) (Nat.lt_succ_self _)).trans (by simp)
          have hfin : Below w.heap.size w wr := ((Below.refl w.heap.size w).alloc (Nat.le_refl _) _).trans (hw.mono (by omega))
          have hszl : w.heap.size < wr.heap.size := by omega
          have HV := Lib.hid hdt
          clear hs2 hlt hw hdt hv hsz hcb
          go_wp2_with (go_at_call 69; refine (dim_spec _ _ _ hk0 hk1 (by omega) (by omega)).mono ?_; rintro e w' ⟨rfl, o, rfl⟩)
          rw [← HV.out.1, ← HV.out.2.1, ← HV.out.2.2]
          refine bodyPost_ret (v := .agg #[.int .i64 k, .int .i64 j, .int .i64 (n - M.dby k - M.cum k j + 1)]) (by simp [results, Tryz.results40, go_sem, c0, c1, c2, hszl]) rfl ⟨rfl, ?_⟩
          exact (((hfin.setCell (Nat.le_refl _) _).setCell (Nat.le_refl _) _).setCell (Nat.le_refl _) _).alloc (by simp; omega) _
theorem dateOf_spec (n : Int) (w : World) : Calls Tryz.prog 40 #[.int .i64 n] w fun e w' => e = .returned (.agg #[.int .i64 (M.dtY n), .int .i64 (M.dtM n), .int .i64 (M.dtD n)]) ∧ Below w.heap.size w w' := by
  by_cases h : 0 ≤ n ∧ n ≤ 43829
  · exact dateOf_spec_in n w h
  · obtain ⟨e1, e2, e3⟩ := M.dt_out h
    rw [e1, e2, e3]
    exact dateOf_spec_out n w h
end Go.Proofs.YtpfdjmffgbbmdaaGreatDoor

/-
  The number of a date by the model, for every date.
-/
namespace Go.Proofs.YtpfdjmffgbbmdaaGreatDoor
open Go.RowKit
set_option linter.unusedVariables false
end Go.Proofs.YtpfdjmffgbbmdaaGreatDoor
