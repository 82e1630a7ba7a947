/-
  Smears (chapter 12): how much time is held back, smeared stamps, when it is done; the program's and the model's functions.
-/
import Derived.Test.YtealpfkandgjdaaClock
import Derived.Test.YtealpfkandgjdaaStamp
import Derived.Test.YtealpfkandgjdaaZMath
namespace Go.Proofs.Ytealpfkandgjdaa
open Go.RowKit
set_option linter.unusedVariables false
theorem va_impl (a : Int) (w : World) : Calls Try.prog 25 #[.int .i64 a] w fun e w' => e = .returned (.bool (Z.va a)) ∧ w = w' := by
  rcases inR_cases a 86400 3786393599 with ⟨c0, c1⟩ | ⟨c0, c1⟩
  all_goals
    have HV := Lib.hid (show Z.va a = _ by first | exact Z.va_yes c1 | exact Z.va_no c1)
    go_enter Try.func25, Try.ntmps25
    go_wp2_with (go_at_call 26; refine (inR_impl _ _ _ _).mono ?_; rintro e w' ⟨rfl, rfl⟩)
    go_ret
    exact ⟨ret_bool HV.out.symm, rfl⟩
theorem va_spec (a : Int) (w : World) : Calls Try.prog 28 #[.int .i64 a] w fun e w' => e = .returned (.bool (Z.va a)) ∧ w = w' := by
  rcases inR_cases a 86400 3786393599 with ⟨c0, c1⟩ | ⟨c0, c1⟩
  all_goals
    have HV := Lib.hid (show Z.va a = _ by first | exact Z.va_yes c1 | exact Z.va_no c1)
    go_enter Try.func28, Try.ntmps28
    go_wp2_with (go_at_call 32; refine (inR_spec _ _ _ _).mono ?_; rintro e w' ⟨rfl, rfl⟩)
    go_ret
    exact ⟨ret_bool HV.out.symm, rfl⟩
theorem start_impl (a : Int) (h : -1000000000000 ≤ a ∧ a ≤ 1000000000000) (w : World) : Calls Try.prog 27 #[.int .i64 a] w fun e w' => e = .returned (.int .i64 (a - 43200)) ∧ w = w' := by
  go_enter Try.func27, Try.ntmps27
  go_wp2
  go_ret
  exact ⟨rfl, rfl⟩
theorem sm_spec (a t : Int) (ha : -1000000000000 ≤ a ∧ a ≤ 1000000000000) (ht : -1000000000000 ≤ t ∧ t ≤ 1000000000000) (w : World) : Calls Try.prog 30 #[.int .i64 a, .int .i64 t] w fun e w' => e = .returned (.int .i64 (Z.hb a t)) ∧ w = w' := by
  by_cases h0 : t - (a - 43200) ≤ 0
  · rw [Z.hb_low h0]
    go_enter Try.func30, Try.ntmps30
    go_wp2
    go_ret
    exact ⟨rfl, rfl⟩
  · by_cases h1 : 86400 ≤ t - (a - 43200)
    · rw [Z.hb_high h1]
      go_enter Try.func30, Try.ntmps30
      go_wp2
      go_ret
      exact ⟨rfl, rfl⟩
    · have HV := Lib.hid (Z.hb_mid (a := a) (t := t) (by omega) (by omega))
      go_enter Try.func30, Try.ntmps30
      go_wp2
      go_ret
      exact ⟨ret_int (by rw [HV.out]; omega), rfl⟩
theorem vt_spec (t : Int) (w : World) : Calls Try.prog 29 #[.int .i64 t] w fun e w' => e = .returned (.bool (inR t 0 3786479999)) ∧ w = w' := by
  go_enter Try.func29, Try.ntmps29
  go_wp2_with (go_at_call 32; refine (inR_spec _ _ _ _).mono ?_; rintro e w' ⟨rfl, rfl⟩)
  go_ret
  exact ⟨rfl, rfl⟩
theorem sa_spec (a t : Int) (w : World) : Calls Try.prog 14 #[.int .i64 a, .int .i64 t] w fun e w' => e = .returned (.int .i64 (Z.sa a t)) ∧ w = w' := by
  rcases inR_cases t 0 3786479999 with ⟨c0, c1⟩ | ⟨c0, c1⟩ <;> rcases hv : Z.va a with _ | _
  rotate_left
  · have hv' := Z.va_of hv
    rw [Z.sa_yes (Z.ok_yes ⟨hv', c1⟩)]
    go_enter Try.func14, Try.ntmps14
    go_wp2_with (first | (go_at_call 28; refine (va_spec _ _).mono ?_; rintro e w' ⟨rfl, rfl⟩) | (go_at_call 29; refine (vt_spec _ _).mono ?_; rintro e w' ⟨rfl, rfl⟩) | (go_at_call 30; refine (sm_spec _ _ (by omega) (by omega) _).mono ?_; rintro e w' ⟨rfl, rfl⟩))
    go_ret
    exact ⟨rfl, rfl⟩
  all_goals
    have HV := Lib.hid (Z.sa_no (Z.ok_no (a := a) (t := t) (m := 3786479999) (by first | exact (fun h => c1 h.2) | exact (fun h => by rw [Z.va_yes h.1] at hv; cases hv))))
    clear c1
    go_enter Try.func14, Try.ntmps14
    go_wp2_with (first | (go_at_call 28; refine (va_spec _ _).mono ?_; rintro e w' ⟨rfl, rfl⟩) | (go_at_call 29; refine (vt_spec _ _).mono ?_; rintro e w' ⟨rfl, rfl⟩))
    go_ret
    exact ⟨ret_int HV.out.symm, rfl⟩
theorem sa_impl (a t : Int) (w : World) : Calls Try.prog 13 #[.int .i64 a, .int .i64 t] w fun e w' => e = .returned (.int .i64 (Z.sa a t)) ∧ w = w' := by
  rcases inR_cases t 0 3786479999 with ⟨c0, c1⟩ | ⟨c0, c1⟩ <;> rcases hv : Z.va a with _ | _
  rotate_left
  · have hv' := Z.va_of hv
    have HV := Lib.hid (show Z.sa a t = Z.hb a t from Z.sa_yes (Z.ok_yes ⟨hv', c1⟩))
    by_cases h0 : t - (a - 43200) ≤ 0
    · have HW := Lib.hid (Z.hb_low h0)
      go_enter Try.func13, Try.ntmps13
      go_wp2_with (first | (go_at_call 25; refine (va_impl _ _).mono ?_; rintro e w' ⟨rfl, rfl⟩) | (go_at_call 26; refine (inR_impl _ _ _ _).mono ?_; rintro e w' ⟨rfl, rfl⟩) | (go_at_call 27; refine (start_impl _ (by omega) _).mono ?_; rintro e w' ⟨rfl, rfl⟩))
      all_goals
        go_ret
        exact ⟨ret_int (by rw [HV.out, HW.out] <;> omega), rfl⟩
    by_cases h1 : 86400 ≤ t - (a - 43200)
    · have HW := Lib.hid (Z.hb_high h1)
      go_enter Try.func13, Try.ntmps13
      go_wp2_with (first | (go_at_call 25; refine (va_impl _ _).mono ?_; rintro e w' ⟨rfl, rfl⟩) | (go_at_call 26; refine (inR_impl _ _ _ _).mono ?_; rintro e w' ⟨rfl, rfl⟩) | (go_at_call 27; refine (start_impl _ (by omega) _).mono ?_; rintro e w' ⟨rfl, rfl⟩))
      all_goals
        go_ret
        exact ⟨ret_int (by rw [HV.out, HW.out] <;> omega), rfl⟩
    · have HW := Lib.hid (Z.hb_mid (a := a) (t := t) (by omega) (by omega))
      have h2 : 0 < t - (a - 43200) := by omega
      have h3 : t - (a - 43200) < 86400 := by omega
      go_enter Try.func13, Try.ntmps13
      go_wp2_with (first | (go_at_call 25; refine (va_impl _ _).mono ?_; rintro e w' ⟨rfl, rfl⟩) | (go_at_call 26; refine (inR_impl _ _ _ _).mono ?_; rintro e w' ⟨rfl, rfl⟩) | (go_at_call 27; refine (start_impl _ (by omega) _).mono ?_; rintro e w' ⟨rfl, rfl⟩))
      all_goals
        go_ret
        exact ⟨ret_int (by rw [HV.out, HW.out] <;> omega), rfl⟩
  all_goals
    have HV := Lib.hid (Z.sa_no (Z.ok_no (a := a) (t := t) (m := 3786479999) (by first | exact (fun h => c1 h.2) | exact (fun h => by rw [Z.va_yes h.1] at hv; cases hv))))
    clear c1
    go_enter Try.func13, Try.ntmps13
    go_wp2_with (first | (go_at_call 25; refine (va_impl _ _).mono ?_; rintro e w' ⟨rfl, rfl⟩) | (go_at_call 26; refine (inR_impl _ _ _ _).mono ?_; rintro e w' ⟨rfl, rfl⟩))
    go_ret
    exact ⟨ret_int HV.out.symm, rfl⟩
theorem ss_spec (a t : Int) (w : World) : Calls Try.prog 17 #[.int .i64 a, .int .i64 t] w fun e w' => e = .returned (.int .i64 (Z.ss a t)) ∧ w = w' := by
  rcases inR_cases t 0 200000000 with ⟨c0, c1⟩ | ⟨c0, c1⟩ <;> rcases hv : Z.va a with _ | _
  rotate_left
  · have hv' := Z.va_of hv
    have HV := Lib.hid (show Z.ss a t = t * 1000000 - Z.hb a t from Z.ss_yes (Z.ok_yes ⟨hv', c1⟩))
    have hb := Z.hb_bd a t
    go_enter Try.func17, Try.ntmps17
    go_wp2_with (first | (go_at_call 28; refine (va_spec _ _).mono ?_; rintro e w' ⟨rfl, rfl⟩) | (go_at_call 32; refine (inR_spec _ _ _ _).mono ?_; rintro e w' ⟨rfl, rfl⟩) | (go_at_call 30; refine (sm_spec _ _ (by omega) (by omega) _).mono ?_; rintro e w' ⟨rfl, rfl⟩))
    go_ret
    exact ⟨ret_int (by rw [HV.out] <;> omega), rfl⟩
  all_goals
    have HV := Lib.hid (Z.ss_no (Z.ok_no (a := a) (t := t) (m := 200000000) (by first | exact (fun h => c1 h.2) | exact (fun h => by rw [Z.va_yes h.1] at hv; cases hv))))
    clear c1
    go_enter Try.func17, Try.ntmps17
    go_wp2_with (first | (go_at_call 28; refine (va_spec _ _).mono ?_; rintro e w' ⟨rfl, rfl⟩) | (go_at_call 32; refine (inR_spec _ _ _ _).mono ?_; rintro e w' ⟨rfl, rfl⟩))
    go_ret
    exact ⟨ret_int HV.out.symm, rfl⟩
theorem ss_impl (a t : Int) (w : World) : Calls Try.prog 16 #[.int .i64 a, .int .i64 t] w fun e w' => e = .returned (.int .i64 (Z.ss a t)) ∧ w = w' := by
  rcases inR_cases t 0 200000000 with ⟨c0, c1⟩ | ⟨c0, c1⟩ <;> rcases hv : Z.va a with _ | _
  rotate_left
  · have hv' := Z.va_of hv
    have HV := Lib.hid (show Z.ss a t = t * 1000000 - Z.hb a t from Z.ss_yes (Z.ok_yes ⟨hv', c1⟩))
    have hs : Z.sa a t = Z.hb a t := Z.sa_yes (Z.ok_yes ⟨hv', c1.1, by omega⟩)
    have ht : T.so t 0 = t * 1000000 := by rw [T.so_yes (T.ok_yes ⟨c1, by omega⟩)]; omega
    have hb := Z.hb_bd a t
    have k1 := fun w' => sa_impl a t w'
    rw [hs] at k1
    have k2 := fun w' => sto_impl t 0 w'
    rw [ht] at k2
    have K1 := Lib.hid k1
    have K2 := Lib.hid k2
    clear k1 k2 hs ht
    go_enter Try.func16, Try.ntmps16
    go_wp2_with (first | (go_at_call 25; refine (va_impl _ _).mono ?_; rintro e w' ⟨rfl, rfl⟩) | (go_at_call 26; refine (inR_impl _ _ _ _).mono ?_; rintro e w' ⟨rfl, rfl⟩) | (go_at_call 31; refine (K2.out _).mono ?_; rintro e w' ⟨rfl, rfl⟩) | (go_at_call 13; refine (K1.out _).mono ?_; rintro e w' ⟨rfl, rfl⟩))
    go_ret
    exact ⟨ret_int (by rw [HV.out] <;> omega), rfl⟩
  all_goals
    have HV := Lib.hid (Z.ss_no (Z.ok_no (a := a) (t := t) (m := 200000000) (by first | exact (fun h => c1 h.2) | exact (fun h => by rw [Z.va_yes h.1] at hv; cases hv))))
    clear c1
    go_enter Try.func16, Try.ntmps16
    go_wp2_with (first | (go_at_call 25; refine (va_impl _ _).mono ?_; rintro e w' ⟨rfl, rfl⟩) | (go_at_call 26; refine (inR_impl _ _ _ _).mono ?_; rintro e w' ⟨rfl, rfl⟩))
    go_ret
    exact ⟨ret_int HV.out.symm, rfl⟩
theorem cdiv_impl (n d : Int) (hd : 1 ≤ d ∧ d ≤ 1000000) (hn : -1000000000000000 ≤ n ∧ n ≤ 1000000000000000) (w : World) : Calls Try.prog 33 #[.int .i64 n, .int .i64 d] w fun e w' => e = .returned (.int .i64 (-(-n / d))) ∧ w = w' := by
  have hq := K.fd_bd (-n) d hd.1 (b := 1000000000000000) (by omega)
  go_enter Try.func33, Try.ntmps33
  go_wp2_with (go_at_call 34; refine (fdiv_impl _ _ hd (by omega) _).mono ?_; rintro e w' ⟨rfl, rfl⟩)
  go_ret
  exact ⟨rfl, rfl⟩
theorem sd_spec (a m : Int) (w : World) : Calls Try.prog 20 #[.int .i64 a, .int .i64 m] w fun e w' => e = .returned (.int .i64 (Z.sd a m)) ∧ w = w' := by
  rcases inR_cases m 1 1000000 with ⟨c0, c1⟩ | ⟨c0, c1⟩ <;> rcases hv : Z.va a with _ | _
  rotate_left
  · have hv' := Z.va_of hv
    have HV := Lib.hid (show Z.sd a m = Z.dn a m from Z.sd_yes (Z.okd_yes ⟨hv', c1⟩))
    go_enter Try.func20, Try.ntmps20
    go_wp2_with (first | (go_at_call 28; refine (va_spec _ _).mono ?_; rintro e w' ⟨rfl, rfl⟩) | (go_at_call 32; refine (inR_spec _ _ _ _).mono ?_; rintro e w' ⟨rfl, rfl⟩))
    go_ret
    exact ⟨ret_int (by rw [HV.out]; unfold Z.dn; omega), rfl⟩
  all_goals
    have HV := Lib.hid (Z.sd_no (Z.okd_no (a := a) (t := m) (by first | exact (fun h => c1 h.2) | exact (fun h => by rw [Z.va_yes h.1] at hv; cases hv))))
    clear c1
    go_enter Try.func20, Try.ntmps20
    go_wp2_with (first | (go_at_call 28; refine (va_spec _ _).mono ?_; rintro e w' ⟨rfl, rfl⟩) | (go_at_call 32; refine (inR_spec _ _ _ _).mono ?_; rintro e w' ⟨rfl, rfl⟩))
    go_ret
    exact ⟨ret_int HV.out.symm, rfl⟩
theorem sd_impl (a m : Int) (w : World) : Calls Try.prog 19 #[.int .i64 a, .int .i64 m] w fun e w' => e = .returned (.int .i64 (Z.sd a m)) ∧ w = w' := by
  rcases inR_cases m 1 1000000 with ⟨c0, c1⟩ | ⟨c0, c1⟩ <;> rcases hv : Z.va a with _ | _
  rotate_left
  · have hv' := Z.va_of hv
    have HV := Lib.hid (show Z.sd a m = Z.dn a m from Z.sd_yes (Z.okd_yes ⟨hv', c1⟩))
    have hq := K.fd_bd (-(m * 86400)) 1000000 (by omega) (b := 1000000000000) (by omega)
    go_enter Try.func19, Try.ntmps19
    go_wp2_with (first | (go_at_call 25; refine (va_impl _ _).mono ?_; rintro e w' ⟨rfl, rfl⟩) | (go_at_call 26; refine (inR_impl _ _ _ _).mono ?_; rintro e w' ⟨rfl, rfl⟩) | (go_at_call 27; refine (start_impl _ (by omega) _).mono ?_; rintro e w' ⟨rfl, rfl⟩) | (go_at_call 33; refine (cdiv_impl _ _ (by omega) (by omega) _).mono ?_; rintro e w' ⟨rfl, rfl⟩))
    go_ret
    exact ⟨ret_int (by rw [HV.out, ← Z.dn_neg]), rfl⟩
  all_goals
    have HV := Lib.hid (Z.sd_no (Z.okd_no (a := a) (t := m) (by first | exact (fun h => c1 h.2) | exact (fun h => by rw [Z.va_yes h.1] at hv; cases hv))))
    clear c1
    go_enter Try.func19, Try.ntmps19
    go_wp2_with (first | (go_at_call 25; refine (va_impl _ _).mono ?_; rintro e w' ⟨rfl, rfl⟩) | (go_at_call 26; refine (inR_impl _ _ _ _).mono ?_; rintro e w' ⟨rfl, rfl⟩))
    go_ret
    exact ⟨ret_int HV.out.symm, rfl⟩
end Go.Proofs.Ytealpfkandgjdaa
