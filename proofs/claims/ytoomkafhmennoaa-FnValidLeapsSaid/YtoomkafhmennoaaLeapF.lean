/-
  What the functions of leap seconds return, by the program and by the model: the same plain number.
-/
import Derived.Test.YtoomkafhmennoaaLeap
import Derived.Deep.RegionHeld3
namespace Go.Proofs.Ytoomkafhmennoaa
open Go.RowKit
set_option linter.unusedVariables false
theorem Same.cell {w w' : World} (q : Same w w') (p : Addr) : w'.cell? p = w.cell? p := by obtain ⟨k, rfl⟩ := q; rfl
theorem lb_impl (B n c : Nat) (a : Option Addr) (l : List Int) (t : Int) (w : World) (h : Lst B w a n l) : Calls Try.prog 32 #[.slice a n c, .int .i64 t] w fun e w' => e = .returned (.int .i64 (L.lb l t)) ∧ w = w' := by
  rcases hv : L.vl l with _ | _
  · have e : L.lb l t = -1 := L.lb_out (fun k => by rw [hv] at k; exact Bool.noConfusion k.1)
    rw [e]
    clear e
    go_enter Try.func32, Try.ntmps32
    go_wp2_with (first | (go_at_call 29; refine (vl_impl _ _ _ _ _ _ h).mono ?_; rintro e w' ⟨rfl, rfl⟩))
    go_ret
    exact ⟨rfl, rfl⟩
  · rcases inR_cases t 0 3786479999 with ⟨r0, r1⟩ | ⟨r0, r1⟩
    · have HE := Lib.hid (L.lb_in hv r1)
      have HV := Lib.hid hv
      go_enter Try.func32, Try.ntmps32
      go_wp2_with (first | (go_at_call 29; refine (vl_impl _ _ _ _ _ _ h).mono ?_; rintro e w' ⟨rfl, rfl⟩) | (go_at_call 43; refine (inR_impl _ _ _ _).mono ?_; rintro e w' ⟨rfl, rfl⟩) | (go_at_call 58; refine (bs_any _ _ _ _ _ _ _ h HV.out).mono ?_; rintro e w' ⟨rfl, rfl⟩))
      go_ret
      exact ⟨ret_int HE.out.symm, rfl⟩
    · have e : L.lb l t = -1 := L.lb_out (fun k => r1 k.2)
      rw [e]
      clear e
      go_enter Try.func32, Try.ntmps32
      go_wp2_with (first | (go_at_call 29; refine (vl_impl _ _ _ _ _ _ h).mono ?_; rintro e w' ⟨rfl, rfl⟩) | (go_at_call 43; refine (inR_impl _ _ _ _).mono ?_; rintro e w' ⟨rfl, rfl⟩))
      go_ret
      exact ⟨rfl, rfl⟩
theorem isl_impl (B n c : Nat) (a : Option Addr) (l : List Int) (t : Int) (w : World) (h : Lst B w a n l) : Calls Try.prog 34 #[.slice a n c, .int .i64 t] w fun e w' => e = .returned (.bool (L.isl l t)) ∧ w = w' := by
  rcases hv : L.vl l with _ | _
  · rw [L.isl_out hv]
    go_enter Try.func34, Try.ntmps34
    go_wp2_with (first | (go_at_call 29; refine (vl_impl _ _ _ _ _ _ h).mono ?_; rintro e w' ⟨rfl, rfl⟩))
    go_ret
    exact ⟨rfl, rfl⟩
  · rw [L.isl_in hv]
    have HV := Lib.hid hv
    go_enter Try.func34, Try.ntmps34
    go_wp2_with (first | (go_at_call 29; refine (vl_impl _ _ _ _ _ _ h).mono ?_; rintro e w' ⟨rfl, rfl⟩) | (go_at_call 58; refine (bs_any _ _ _ _ _ _ _ h HV.out).mono ?_; rintro e w' ⟨rfl, rfl⟩))
    go_ret
    exact ⟨rfl, rfl⟩
theorem civ_impl (B n c : Nat) (a : Option Addr) (l : List Int) (t : Int) (w : World) (h : Lst B w a n l) : Calls Try.prog 39 #[.slice a n c, .int .i64 t] w fun e w' => e = .returned (.int .i64 (L.civ l t)) ∧ w = w' := by
  by_cases hin : L.vl l = true ∧ 0 ≤ t ∧ t ≤ 3786479999
  · have e0 := L.lb_in hin.1 hin.2
    have e1 := L.civ_in hin.1 hin.2
    have e2 := L.isl_in (t := t) hin.1
    have c8 := L.cnt_le l t
    have l8 := L.len8 hin.1
    have b0 : 0 ≤ L.lb l t ∧ L.lb l t ≤ 8 := by omega
    rw [e1, ← e2, ← e0]
    have h1 := hin.2
    clear hin e0 e1 e2 c8 l8
    rcases hb : L.isl l t with _ | _
    all_goals
      go_enter Try.func39, Try.ntmps39
      go_wp2_with (first | (go_at_call 32; refine (lb_impl _ _ _ _ _ _ _ h).mono ?_; rintro e w' ⟨rfl, rfl⟩) | (go_at_call 34; refine (isl_impl _ _ _ _ _ _ _ h).mono ?_; rintro e w' ⟨rfl, rfl⟩))
      go_ret
      exact ⟨ret_int (by simp only [L.b1_t, L.b1_f] <;> omega), rfl⟩
  · have e0 := L.lb_out hin
    have e1 := L.civ_out hin
    rw [e1]
    have b0 : L.lb l t < 0 := by omega
    clear hin e0 e1
    go_enter Try.func39, Try.ntmps39
    go_wp2_with (first | (go_at_call 32; refine (lb_impl _ _ _ _ _ _ _ h).mono ?_; rintro e w' ⟨rfl, rfl⟩))
    go_ret
    exact ⟨rfl, rfl⟩
theorem isl_spec (B n c : Nat) (a : Option Addr) (l : List Int) (t : Int) (w : World) (h : Lst B w a n l) : Calls Try.prog 36 #[.slice a n c, .int .i64 t] w fun e w' => e = .returned (.bool (L.isl l t)) ∧ Same w w' := by
  rcases hv : L.vl l with _ | _
  · rw [L.isl_out hv]
    go_enter Try.func36, Try.ntmps36
    go_wp2_with (first | (go_at_call 56; refine (vl_spec _ _ _ _ _ _ h).mono ?_; rintro e w2 ⟨rfl, q⟩; have h2 := h.same q))
    go_ret
    exact ⟨rfl, q⟩
  · rw [L.isl_in hv]
    go_enter Try.func36, Try.ntmps36
    go_wp2_with (first | (go_at_call 56; refine (vl_spec _ _ _ _ _ _ h).mono ?_; rintro e w2 ⟨rfl, q⟩; have h2 := h.same q) | (go_at_call 61; refine (isIn_61 _ _ _ _ _ _ _ h2).mono ?_; rintro e w' ⟨rfl, rfl⟩))
    go_ret
    exact ⟨rfl, q⟩
theorem vlX_spec (B n c : Nat) (a : Option Addr) (l : List Int) (w : World) (h : Lst B w a n l) : Calls Try.prog 30 #[.slice a n c] w fun e w' => e = .returned (.bool (L.vl l)) ∧ Same w w' := by
  go_enter Try.func30, Try.ntmps30
  go_wp2_with (first | (go_at_call 56; refine (vl_spec _ _ _ _ _ _ h).mono ?_; rintro e w2 ⟨rfl, q⟩; have h2 := h.same q))
  go_ret
  exact ⟨rfl, q⟩
theorem lb_spec (B n c : Nat) (a : Option Addr) (l : List Int) (t : Int) (w : World) (h : Lst B w a n l) : Calls Try.prog 33 #[.slice a n c, .int .i64 t] w fun e w' => e = .returned (.int .i64 (L.lb l t)) ∧ Same w w' := by
  rcases hv : L.vl l with _ | _
  · have e : L.lb l t = -1 := L.lb_out (fun k => by rw [hv] at k; exact Bool.noConfusion k.1)
    rw [e]
    clear e
    go_enter Try.func33, Try.ntmps33
    go_wp2_with (first | (go_at_call 56; refine (vl_spec _ _ _ _ _ _ h).mono ?_; rintro e w2 ⟨rfl, q⟩; have h2 := h.same q))
    go_ret
    exact ⟨rfl, q⟩
  · rcases inR_cases t 0 3786479999 with ⟨r0, r1⟩ | ⟨r0, r1⟩
    · have HV := Lib.hid hv
      have HE := Lib.hid (L.lb_in hv r1)
      go_enter Try.func33, Try.ntmps33
      go_wp2_with (first | (go_at_call 56; refine (vl_spec _ _ _ _ _ _ h).mono ?_; rintro e w2 ⟨rfl, q⟩; have h2 := h.same q) | (go_at_call 59; refine (time_spec _ _).mono ?_; rintro e w' ⟨rfl, rfl⟩) | (go_at_call 60; refine (cnt_spec _ _ _ _ _ _ _ h2).mono ?_; rintro e w' ⟨rfl, rfl⟩))
      go_ret
      exact ⟨ret_int HE.out.symm, q⟩
    · have e : L.lb l t = -1 := L.lb_out (fun k => r1 (by first | exact k.2 | exact k.2.1))
      rw [e]
      clear e
      go_enter Try.func33, Try.ntmps33
      go_wp2_with (first | (go_at_call 56; refine (vl_spec _ _ _ _ _ _ h).mono ?_; rintro e w2 ⟨rfl, q⟩; have h2 := h.same q) | (go_at_call 59; refine (time_spec _ _).mono ?_; rintro e w' ⟨rfl, rfl⟩))
      go_ret
      exact ⟨rfl, q⟩
theorem civ_spec (B n c : Nat) (a : Option Addr) (l : List Int) (t : Int) (w : World) (h : Lst B w a n l) : Calls Try.prog 40 #[.slice a n c, .int .i64 t] w fun e w' => e = .returned (.int .i64 (L.civ l t)) ∧ Same w w' := by
  rcases hv : L.vl l with _ | _
  · have e : L.civ l t = -1 := L.civ_out (fun k => by rw [hv] at k; exact Bool.noConfusion k.1)
    rw [e]
    clear e
    go_enter Try.func40, Try.ntmps40
    go_wp2_with (first | (go_at_call 56; refine (vl_spec _ _ _ _ _ _ h).mono ?_; rintro e w2 ⟨rfl, q⟩; have h2 := h.same q))
    go_ret
    exact ⟨rfl, q⟩
  · rcases inR_cases t 0 3786479999 with ⟨r0, r1⟩ | ⟨r0, r1⟩
    · have HV := Lib.hid hv
      have HE := Lib.hid (L.civ_in hv r1)
      have b0 := L.cnt_le l t
      have l8 := L.len8 hv
      have c0 : (0 : Int) ≤ (L.cnt l t : Int) := by omega
      have c1 : (L.cnt l t : Int) ≤ 8 := by omega
      have d := L.b1_01 (L.isIn l t)
      have d0 : 0 ≤ L.b1 (L.isIn l t) := by omega
      have d1 : L.b1 (L.isIn l t) ≤ 1 := by omega
      clear d b0 l8
      go_enter Try.func40, Try.ntmps40
      go_wp2_with (first | (go_at_call 56; refine (vl_spec _ _ _ _ _ _ h).mono ?_; rintro e w2 ⟨rfl, q⟩; have h2 := h.same q) | (go_at_call 59; refine (time_spec _ _).mono ?_; rintro e w' ⟨rfl, rfl⟩) | (go_at_call 60; refine (cnt_spec _ _ _ _ _ _ _ h2).mono ?_; rintro e w' ⟨rfl, rfl⟩) | (go_at_call 61; refine (isIn_61 _ _ _ _ _ _ _ h2).mono ?_; rintro e w' ⟨rfl, rfl⟩) | (go_at_call 62; refine (toInt_b _ _).mono ?_; rintro e w' ⟨rfl, rfl⟩))
      go_ret
      exact ⟨ret_int HE.out.symm, q⟩
    · have e : L.civ l t = -1 := L.civ_out (fun k => r1 (by first | exact k.2 | exact k.2.1))
      rw [e]
      clear e
      go_enter Try.func40, Try.ntmps40
      go_wp2_with (first | (go_at_call 56; refine (vl_spec _ _ _ _ _ _ h).mono ?_; rintro e w2 ⟨rfl, q⟩; have h2 := h.same q) | (go_at_call 59; refine (time_spec _ _).mono ?_; rintro e w' ⟨rfl, rfl⟩))
      go_ret
      exact ⟨rfl, q⟩

/-! The list beside worlds that follow each other. -/
theorem Same.size {w w' : World} (q : Same w w') : w'.heap.size = w.heap.size := by obtain ⟨k, rfl⟩ := q; rfl
theorem Lst.s {w w' : World} {a : Option Addr} {n : Nat} {l : List Int} (h : Lst w.heap.size w a n l) (q : Same w w') : Lst w'.heap.size w' a n l := (h.same q).more (by rw [q.size]; exact Nat.le_refl _)
theorem Lst.b {w w' : World} {a : Option Addr} {n : Nat} {l : List Int} (h : Lst w.heap.size w a n l) (hb : Below w.heap.size w w') : Lst w'.heap.size w' a n l := (h.below hb).more hb.size
theorem bel_b {a w w' : World} (h : Below a.heap.size a w) (hb : Below w.heap.size w w') : Below a.heap.size a w' := h.trans (hb.mono h.size)
end Go.Proofs.Ytoomkafhmennoaa
