/-
  Polls (chapter 13): what is valid, and the seconds; the program's and the model's functions.
-/
import Derived.Test.YthbfjmlkcgcgaaaDoorLst
import Derived.Test.YthbfjmlkcgcgaaaDoorPlMath
import Derived.Deep.RegionHeld3
import Derived.Below
namespace Go.Proofs.YthbfjmlkcgcgaaaDoor
open Go.RowKit
set_option linter.unusedVariables false
set_option maxRecDepth 100000
theorem vp_impl.ValidPoll (p c : Int) (w : World) : Calls Tryd.prog 14 #[.agg #[.int .i64 p, .int .i64 c]] w fun e w' => e = .returned (.bool (J.vp p c)) ∧ Below w.heap.size w w' := by
  rcases inR_cases p 4 10 with ⟨a0, a1⟩ | ⟨a0, a1⟩ <;> rcases inR_cases c (-30) 30 with ⟨b0, b1⟩ | ⟨b0, b1⟩
  all_goals
    have HV := Lib.hid (show J.vp p c = _ by first | exact J.vp_yes ⟨a1, b1⟩ | exact J.vp_no (fun h => a1 h.1) | exact J.vp_no (fun h => b1 h.2))
    clear a1 b1
    go_enter Tryd.func14, Tryd.ntmps14
    go_wp2_with (first | (go_at_call 27; refine (inR_impl _ _ _ _).mono ?_; rintro e w' ⟨rfl, rfl⟩) | (go_at_call 32; refine (inR_spec _ _ _ _).mono ?_; rintro e w' ⟨rfl, rfl⟩))
    go_ret
    exact ⟨ret_bool HV.out.symm, (Below.refl _ _).alloc (Nat.le_refl _) _⟩
theorem vp_spec.validPoll (p c : Int) (w : World) : Calls Tryd.prog 31 #[.agg #[.int .i64 p, .int .i64 c]] w fun e w' => e = .returned (.bool (J.vp p c)) ∧ Below w.heap.size w w' := by
  rcases inR_cases p 4 10 with ⟨a0, a1⟩ | ⟨a0, a1⟩ <;> rcases inR_cases c (-30) 30 with ⟨b0, b1⟩ | ⟨b0, b1⟩
  all_goals
    have HV := Lib.hid (show J.vp p c = _ by first | exact J.vp_yes ⟨a1, b1⟩ | exact J.vp_no (fun h => a1 h.1) | exact J.vp_no (fun h => b1 h.2))
    clear a1 b1
    go_enter Tryd.func31, Tryd.ntmps31
    go_wp2_with (first | (go_at_call 27; refine (inR_impl _ _ _ _).mono ?_; rintro e w' ⟨rfl, rfl⟩) | (go_at_call 32; refine (inR_spec _ _ _ _).mono ?_; rintro e w' ⟨rfl, rfl⟩))
    go_ret
    exact ⟨ret_bool HV.out.symm, (Below.refl _ _).alloc (Nat.le_refl _) _⟩
theorem ps_impl (p c : Int) (w : World) : Calls Tryd.prog 36 #[.agg #[.int .i64 p, .int .i64 c]] w fun e w' => e = .returned (.int .i64 (J.ps p c)) ∧ Below w.heap.size w w' := by
  have bA := (Below.refl w.heap.size w).alloc (Nat.le_refl _) (.cells #[.int .i64 p, .int .i64 c] 24)
  have d0 : (w.alloc (.cells #[.int .i64 p, .int .i64 c] 24)).cell? ⟨w.heap.size, 0, none⟩ = some (.int .i64 p) := by simp
  have hlt : w.heap.size < (w.alloc (.cells #[.int .i64 p, .int .i64 c] 24)).heap.size := by simp
  have k1 := fun w' => vp_impl.ValidPoll p c w'
  rcases hv : J.vp p c with _ | _
  · rw [J.ps_no hv]
    simp only [hv] at k1
    have K1 := Lib.hid k1
    clear k1 hv
    go_enter Tryd.func36, Tryd.ntmps36
    go_wp2_with fail
    refine (K1.out _).mono ?_
    rintro e w1 ⟨rfl, b1⟩
    have HB := Lib.hid (bA.trans (b1.mono bA.size))
    clear bA b1 d0 hlt
    go_wp2
    go_ret
    exact ⟨rfl, HB.out⟩
  · rw [J.ps_yes hv]
    simp only [hv] at k1
    have K1 := Lib.hid k1
    have hpw := J.pw_at (J.vp_of hv).1
    clear k1 hv
    rcases hpw with ⟨rfl, e⟩ | ⟨rfl, e⟩ | ⟨rfl, e⟩ | ⟨rfl, e⟩ | ⟨rfl, e⟩ | ⟨rfl, e⟩ | ⟨rfl, e⟩
    all_goals
      rw [e]
      clear e
      go_enter Tryd.func36, Tryd.ntmps36
      go_wp2_with fail
      refine (K1.out _).mono ?_
      rintro e w1 ⟨rfl, b1⟩
      have HB := Lib.hid (bA.trans (b1.mono bA.size))
      have d1 := (b1.cell (p := ⟨w.heap.size, 0, none⟩) hlt).trans d0
      clear bA b1 d0 hlt
      go_wp2
      go_ret
      exact ⟨rfl, HB.out⟩
theorem ps_spec (p c : Int) (w : World) : Calls Tryd.prog 37 #[.agg #[.int .i64 p, .int .i64 c]] w fun e w' => e = .returned (.int .i64 (J.ps p c)) ∧ Below w.heap.size w w' := by
  have bA := (Below.refl w.heap.size w).alloc (Nat.le_refl _) (.cells #[.int .i64 p, .int .i64 c] 24)
  have d0 : (w.alloc (.cells #[.int .i64 p, .int .i64 c] 24)).cell? ⟨w.heap.size, 0, none⟩ = some (.int .i64 p) := by simp
  have hlt : w.heap.size < (w.alloc (.cells #[.int .i64 p, .int .i64 c] 24)).heap.size := by simp
  have k1 := fun w' => vp_spec.validPoll p c w'
  rcases hv : J.vp p c with _ | _
  · rw [J.ps_no hv]
    simp only [hv] at k1
    have K1 := Lib.hid k1
    clear k1 hv
    go_enter Tryd.func37, Tryd.ntmps37
    go_wp2_with fail
    refine (K1.out _).mono ?_
    rintro e w1 ⟨rfl, b1⟩
    have HB := Lib.hid (bA.trans (b1.mono bA.size))
    clear bA b1 d0 hlt
    go_wp2
    go_ret
    exact ⟨rfl, HB.out⟩
  · rw [J.ps_yes hv]
    simp only [hv] at k1
    have K1 := Lib.hid k1
    have hpw := J.pw_at (J.vp_of hv).1
    clear k1 hv
    rcases hpw with ⟨rfl, e⟩ | ⟨rfl, e⟩ | ⟨rfl, e⟩ | ⟨rfl, e⟩ | ⟨rfl, e⟩ | ⟨rfl, e⟩ | ⟨rfl, e⟩
    all_goals
      rw [e]
      clear e
      go_enter Tryd.func37, Tryd.ntmps37
      go_wp2_with fail
      refine (K1.out _).mono ?_
      rintro e w1 ⟨rfl, b1⟩
      have HB := Lib.hid (bA.trans (b1.mono bA.size))
      have d1 := (b1.cell (p := ⟨w.heap.size, 0, none⟩) hlt).trans d0
      clear bA b1 d0 hlt
      go_wp2
      go_ret
      exact ⟨rfl, HB.out⟩
end Go.Proofs.YthbfjmlkcgcgaaaDoor
