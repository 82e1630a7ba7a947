/-
  Time stamps (chapter 10): put together and split; the program's and the model's functions.
-/
import Derived.Test.YtegkmdinnkbkiaaLst
import Derived.Below
namespace Go.Proofs.Ytegkmdinnkbkiaa
open Go.RowKit
set_option linter.unusedVariables false
namespace T
def ok (c m : Int) : Bool := decide ((0 ≤ c ∧ c ≤ 200000000) ∧ 0 ≤ m ∧ m ≤ 999999)
theorem ok_of {c m : Int} (h : ok c m = true) : (0 ≤ c ∧ c ≤ 200000000) ∧ 0 ≤ m ∧ m ≤ 999999 := of_decide_eq_true h
theorem ok_yes {c m : Int} (h : (0 ≤ c ∧ c ≤ 200000000) ∧ 0 ≤ m ∧ m ≤ 999999) : ok c m = true := decide_eq_true h
theorem ok_no {c m : Int} (h : ¬ ((0 ≤ c ∧ c ≤ 200000000) ∧ 0 ≤ m ∧ m ≤ 999999)) : ok c m = false := decide_eq_false h
def so (c m : Int) : Int := if ok c m = true then c * 1000000 + m else -1
theorem so_yes {c m : Int} (h : ok c m = true) : so c m = c * 1000000 + m := if_pos h
theorem so_no {c m : Int} (h : ok c m = false) : so c m = -1 := if_neg (by simp [h])
def vs (n : Int) : Bool := decide (0 ≤ n ∧ n ≤ 200000000999999)
theorem vs_of {n : Int} (h : vs n = true) : 0 ≤ n ∧ n ≤ 200000000999999 := of_decide_eq_true h
theorem vs_yes {n : Int} (h : 0 ≤ n ∧ n ≤ 200000000999999) : vs n = true := decide_eq_true h
theorem vs_no {n : Int} (h : ¬ (0 ≤ n ∧ n ≤ 200000000999999)) : vs n = false := decide_eq_false h
def sc (n : Int) : Int := if vs n = true then n / 1000000 else 0
def sm (n : Int) : Int := if vs n = true then n % 1000000 else 0
theorem s_yes {n : Int} (h : vs n = true) : sc n = n / 1000000 ∧ sm n = n % 1000000 := ⟨if_pos h, if_pos h⟩
theorem s_no {n : Int} (h : vs n = false) : sc n = 0 ∧ sm n = 0 := ⟨if_neg (by simp [h]), if_neg (by simp [h])⟩
theorem td {n : Int} (h : 0 ≤ n) : n.tdiv 1000000 = n / 1000000 := Int.tdiv_eq_ediv_of_nonneg h
theorem tm {n : Int} (h : 0 ≤ n) : n.tmod 1000000 = n % 1000000 := Int.tmod_eq_emod_of_nonneg h
theorem there {c m : Int} (h : ok c m = true) : vs (c * 1000000 + m) = true ∧ sc (c * 1000000 + m) = c ∧ sm (c * 1000000 + m) = m := by
  have := ok_of h
  have hv : vs (c * 1000000 + m) = true := vs_yes (by omega)
  rw [(s_yes hv).1, (s_yes hv).2]
  exact ⟨hv, by omega, by omega⟩
theorem back {n : Int} (h : vs n = true) : ok (n / 1000000) (n % 1000000) = true ∧ so (n / 1000000) (n % 1000000) = n := by
  have := vs_of h
  have ho : ok (n / 1000000) (n % 1000000) = true := ok_yes (by omega)
  rw [so_yes ho]
  exact ⟨ho, by omega⟩
end T
theorem vst_impl (n : Int) (w : World) : Calls Try.prog 26 #[.int .i64 n] w fun e w' => e = .returned (.bool (T.vs n)) ∧ w = w' := by
  rcases inR_cases n 0 200000000999999 with ⟨c0, c1⟩ | ⟨c0, c1⟩
  all_goals
    have HV := Lib.hid (show T.vs n = _ by first | exact T.vs_yes c1 | exact T.vs_no c1)
    go_enter Try.func26, Try.ntmps26
    go_wp2_with (go_at_call 25; refine (inR_impl _ _ _ _).mono ?_; rintro e w' ⟨rfl, rfl⟩)
    go_ret
    exact ⟨ret_bool HV.out.symm, rfl⟩
theorem vst_spec (n : Int) (w : World) : Calls Try.prog 30 #[.int .i64 n] w fun e w' => e = .returned (.bool (T.vs n)) ∧ w = w' := by
  rcases inR_cases n 0 200000000999999 with ⟨c0, c1⟩ | ⟨c0, c1⟩
  all_goals
    have HV := Lib.hid (show T.vs n = _ by first | exact T.vs_yes c1 | exact T.vs_no c1)
    go_enter Try.func30, Try.ntmps30
    go_wp2_with (go_at_call 29; refine (inR_spec _ _ _ _).mono ?_; rintro e w' ⟨rfl, rfl⟩)
    go_ret
    exact ⟨ret_bool HV.out.symm, rfl⟩
end Go.Proofs.Ytegkmdinnkbkiaa
