/-
  Packets (chapter 10): what is valid; the program's and the model's functions.
-/
import Derived.Test.YtegkmdinnkbkiaaStamp
namespace Go.Proofs.Ytegkmdinnkbkiaa
open Go.RowKit
set_option linter.unusedVariables false
set_option maxRecDepth 100000
namespace D
def Vp (a b c d e f g h : Int) : Prop := (0 ≤ a ∧ a ≤ 3) ∧ (0 ≤ b ∧ b ≤ 7) ∧ (0 ≤ c ∧ c ≤ 15) ∧ (0 ≤ d ∧ d ≤ 17) ∧ (0 ≤ e ∧ e ≤ 65535) ∧ T.vs f = true ∧ T.vs g = true ∧ T.vs h = true
instance (a b c d e f g h : Int) : Decidable (Vp a b c d e f g h) := by unfold Vp; infer_instance
def vp (a b c d e f g h : Int) : Bool := decide (Vp a b c d e f g h)
theorem vp_of {a b c d e f g h : Int} (k : vp a b c d e f g h = true) : Vp a b c d e f g h := of_decide_eq_true k
theorem vp_yes {a b c d e f g h : Int} (k : Vp a b c d e f g h) : vp a b c d e f g h = true := decide_eq_true k
theorem vp_no {a b c d e f g h : Int} (k : ¬ Vp a b c d e f g h) : vp a b c d e f g h = false := decide_eq_false k
end D
set_option maxHeartbeats 4000000 in
theorem vp_impl (a b c d e f g h : Int) (w : World) : Calls Try.prog 13 #[.agg #[.int .i64 a, .int .i64 b, .int .i64 c, .int .i64 d, .int .i64 e, .int .i64 f, .int .i64 g, .int .i64 h]] w fun e' w' => e' = .returned (.bool (D.vp a b c d e f g h)) ∧ Below w.heap.size w w' := by
  rcases inR_cases a 0 3 with ⟨a0, a1⟩ | ⟨a0, a1⟩
  rotate_left
  · have HV := Lib.hid (D.vp_no (fun h : D.Vp a b c d e f g h => a1 h.1))
    clear a1
    go_enter Try.func13, Try.ntmps13
    go_wp2_with (first | (go_at_call 25; refine (inR_impl _ _ _ _).mono ?_; rintro e w' ⟨rfl, rfl⟩) | (go_at_call 26; refine (vst_impl _ _).mono ?_; rintro e w' ⟨rfl, rfl⟩))
    go_ret
    exact ⟨ret_bool HV.out.symm, (Below.refl _ _).alloc (Nat.le_refl _) _⟩
  rcases inR_cases b 0 7 with ⟨b0, b1⟩ | ⟨b0, b1⟩
  rotate_left
  · have HV := Lib.hid (D.vp_no (fun h : D.Vp a b c d e f g h => b1 h.2.1))
    clear a1 b1
    go_enter Try.func13, Try.ntmps13
    go_wp2_with (first | (go_at_call 25; refine (inR_impl _ _ _ _).mono ?_; rintro e w' ⟨rfl, rfl⟩) | (go_at_call 26; refine (vst_impl _ _).mono ?_; rintro e w' ⟨rfl, rfl⟩))
    go_ret
    exact ⟨ret_bool HV.out.symm, (Below.refl _ _).alloc (Nat.le_refl _) _⟩
  rcases inR_cases c 0 15 with ⟨c0, c1⟩ | ⟨c0, c1⟩
  rotate_left
  · have HV := Lib.hid (D.vp_no (fun h : D.Vp a b c d e f g h => c1 h.2.2.1))
    clear a1 b1 c1
    go_enter Try.func13, Try.ntmps13
    go_wp2_with (first | (go_at_call 25; refine (inR_impl _ _ _ _).mono ?_; rintro e w' ⟨rfl, rfl⟩) | (go_at_call 26; refine (vst_impl _ _).mono ?_; rintro e w' ⟨rfl, rfl⟩))
    go_ret
    exact ⟨ret_bool HV.out.symm, (Below.refl _ _).alloc (Nat.le_refl _) _⟩
  rcases inR_cases d 0 17 with ⟨d0, d1⟩ | ⟨d0, d1⟩
  rotate_left
  · have HV := Lib.hid (D.vp_no (fun h : D.Vp a b c d e f g h => d1 h.2.2.2.1))
    clear a1 b1 c1 d1
    go_enter Try.func13, Try.ntmps13
    go_wp2_with (first | (go_at_call 25; refine (inR_impl _ _ _ _).mono ?_; rintro e w' ⟨rfl, rfl⟩) | (go_at_call 26; refine (vst_impl _ _).mono ?_; rintro e w' ⟨rfl, rfl⟩))
    go_ret
    exact ⟨ret_bool HV.out.symm, (Below.refl _ _).alloc (Nat.le_refl _) _⟩
  rcases inR_cases e 0 65535 with ⟨e0, e1⟩ | ⟨e0, e1⟩
  rotate_left
  · have HV := Lib.hid (D.vp_no (fun h : D.Vp a b c d e f g h => e1 h.2.2.2.2.1))
    clear a1 b1 c1 d1 e1
    go_enter Try.func13, Try.ntmps13
    go_wp2_with (first | (go_at_call 25; refine (inR_impl _ _ _ _).mono ?_; rintro e w' ⟨rfl, rfl⟩) | (go_at_call 26; refine (vst_impl _ _).mono ?_; rintro e w' ⟨rfl, rfl⟩))
    go_ret
    exact ⟨ret_bool HV.out.symm, (Below.refl _ _).alloc (Nat.le_refl _) _⟩
  rcases hf : T.vs f with _ | _
  · have HV := Lib.hid (D.vp_no (fun h : D.Vp a b c d e f g h => by have := h.2.2.2.2.2.1; rw [hf] at this; cases this))
    clear a1 b1 c1 d1 e1
    go_enter Try.func13, Try.ntmps13
    go_wp2_with (first | (go_at_call 25; refine (inR_impl _ _ _ _).mono ?_; rintro e w' ⟨rfl, rfl⟩) | (go_at_call 26; refine (vst_impl _ _).mono ?_; rintro e w' ⟨rfl, rfl⟩))
    go_ret
    exact ⟨ret_bool HV.out.symm, (Below.refl _ _).alloc (Nat.le_refl _) _⟩
  rcases hg : T.vs g with _ | _
  · have HV := Lib.hid (D.vp_no (fun h : D.Vp a b c d e f g h => by have := h.2.2.2.2.2.2.1; rw [hg] at this; cases this))
    clear a1 b1 c1 d1 e1
    go_enter Try.func13, Try.ntmps13
    go_wp2_with (first | (go_at_call 25; refine (inR_impl _ _ _ _).mono ?_; rintro e w' ⟨rfl, rfl⟩) | (go_at_call 26; refine (vst_impl _ _).mono ?_; rintro e w' ⟨rfl, rfl⟩))
    go_ret
    exact ⟨ret_bool HV.out.symm, (Below.refl _ _).alloc (Nat.le_refl _) _⟩
  rcases hh : T.vs h with _ | _
  · have HV := Lib.hid (D.vp_no (fun h : D.Vp a b c d e f g h => by have := h.2.2.2.2.2.2.2; rw [hh] at this; cases this))
    clear a1 b1 c1 d1 e1
    go_enter Try.func13, Try.ntmps13
    go_wp2_with (first | (go_at_call 25; refine (inR_impl _ _ _ _).mono ?_; rintro e w' ⟨rfl, rfl⟩) | (go_at_call 26; refine (vst_impl _ _).mono ?_; rintro e w' ⟨rfl, rfl⟩))
    go_ret
    exact ⟨ret_bool HV.out.symm, (Below.refl _ _).alloc (Nat.le_refl _) _⟩
  have HV := Lib.hid (D.vp_yes (show D.Vp a b c d e f g h from ⟨a1, b1, c1, d1, e1, hf, hg, hh⟩))
  clear a1 b1 c1 d1 e1
  go_enter Try.func13, Try.ntmps13
  go_wp2_with (first | (go_at_call 25; refine (inR_impl _ _ _ _).mono ?_; rintro e w' ⟨rfl, rfl⟩) | (go_at_call 26; refine (vst_impl _ _).mono ?_; rintro e w' ⟨rfl, rfl⟩))
  go_ret
  exact ⟨ret_bool HV.out.symm, (Below.refl _ _).alloc (Nat.le_refl _) _⟩
set_option maxHeartbeats 4000000 in
theorem vp_spec (a b c d e f g h : Int) (w : World) : Calls Try.prog 20 #[.agg #[.int .i64 a, .int .i64 b, .int .i64 c, .int .i64 d, .int .i64 e, .int .i64 f, .int .i64 g, .int .i64 h]] w fun e' w' => e' = .returned (.bool (D.vp a b c d e f g h)) ∧ Below w.heap.size w w' := by
  rcases inR_cases a 0 3 with ⟨a0, a1⟩ | ⟨a0, a1⟩
  rotate_left
  · have HV := Lib.hid (D.vp_no (fun h : D.Vp a b c d e f g h => a1 h.1))
    clear a1
    go_enter Try.func20, Try.ntmps20
    go_wp2_with (first | (go_at_call 29; refine (inR_spec _ _ _ _).mono ?_; rintro e w' ⟨rfl, rfl⟩) | (go_at_call 30; refine (vst_spec _ _).mono ?_; rintro e w' ⟨rfl, rfl⟩))
    go_ret
    exact ⟨ret_bool HV.out.symm, (Below.refl _ _).alloc (Nat.le_refl _) _⟩
  rcases inR_cases b 0 7 with ⟨b0, b1⟩ | ⟨b0, b1⟩
  rotate_left
  · have HV := Lib.hid (D.vp_no (fun h : D.Vp a b c d e f g h => b1 h.2.1))
    clear a1 b1
    go_enter Try.func20, Try.ntmps20
    go_wp2_with (first | (go_at_call 29; refine (inR_spec _ _ _ _).mono ?_; rintro e w' ⟨rfl, rfl⟩) | (go_at_call 30; refine (vst_spec _ _).mono ?_; rintro e w' ⟨rfl, rfl⟩))
    go_ret
    exact ⟨ret_bool HV.out.symm, (Below.refl _ _).alloc (Nat.le_refl _) _⟩
  rcases inR_cases c 0 15 with ⟨c0, c1⟩ | ⟨c0, c1⟩
  rotate_left
  · have HV := Lib.hid (D.vp_no (fun h : D.Vp a b c d e f g h => c1 h.2.2.1))
    clear a1 b1 c1
    go_enter Try.func20, Try.ntmps20
    go_wp2_with (first | (go_at_call 29; refine (inR_spec _ _ _ _).mono ?_; rintro e w' ⟨rfl, rfl⟩) | (go_at_call 30; refine (vst_spec _ _).mono ?_; rintro e w' ⟨rfl, rfl⟩))
    go_ret
    exact ⟨ret_bool HV.out.symm, (Below.refl _ _).alloc (Nat.le_refl _) _⟩
  rcases inR_cases d 0 17 with ⟨d0, d1⟩ | ⟨d0, d1⟩
  rotate_left
  · have HV := Lib.hid (D.vp_no (fun h : D.Vp a b c d e f g h => d1 h.2.2.2.1))
    clear a1 b1 c1 d1
    go_enter Try.func20, Try.ntmps20
    go_wp2_with (first | (go_at_call 29; refine (inR_spec _ _ _ _).mono ?_; rintro e w' ⟨rfl, rfl⟩) | (go_at_call 30; refine (vst_spec _ _).mono ?_; rintro e w' ⟨rfl, rfl⟩))
    go_ret
    exact ⟨ret_bool HV.out.symm, (Below.refl _ _).alloc (Nat.le_refl _) _⟩
  rcases inR_cases e 0 65535 with ⟨e0, e1⟩ | ⟨e0, e1⟩
  rotate_left
  · have HV := Lib.hid (D.vp_no (fun h : D.Vp a b c d e f g h => e1 h.2.2.2.2.1))
    clear a1 b1 c1 d1 e1
    go_enter Try.func20, Try.ntmps20
    go_wp2_with (first | (go_at_call 29; refine (inR_spec _ _ _ _).mono ?_; rintro e w' ⟨rfl, rfl⟩) | (go_at_call 30; refine (vst_spec _ _).mono ?_; rintro e w' ⟨rfl, rfl⟩))
    go_ret
    exact ⟨ret_bool HV.out.symm, (Below.refl _ _).alloc (Nat.le_refl _) _⟩
  rcases hf : T.vs f with _ | _
  · have HV := Lib.hid (D.vp_no (fun h : D.Vp a b c d e f g h => by have := h.2.2.2.2.2.1; rw [hf] at this; cases this))
    clear a1 b1 c1 d1 e1
    go_enter Try.func20, Try.ntmps20
    go_wp2_with (first | (go_at_call 29; refine (inR_spec _ _ _ _).mono ?_; rintro e w' ⟨rfl, rfl⟩) | (go_at_call 30; refine (vst_spec _ _).mono ?_; rintro e w' ⟨rfl, rfl⟩))
    go_ret
    exact ⟨ret_bool HV.out.symm, (Below.refl _ _).alloc (Nat.le_refl _) _⟩
  rcases hg : T.vs g with _ | _
  · have HV := Lib.hid (D.vp_no (fun h : D.Vp a b c d e f g h => by have := h.2.2.2.2.2.2.1; rw [hg] at this; cases this))
    clear a1 b1 c1 d1 e1
    go_enter Try.func20, Try.ntmps20
    go_wp2_with (first | (go_at_call 29; refine (inR_spec _ _ _ _).mono ?_; rintro e w' ⟨rfl, rfl⟩) | (go_at_call 30; refine (vst_spec _ _).mono ?_; rintro e w' ⟨rfl, rfl⟩))
    go_ret
    exact ⟨ret_bool HV.out.symm, (Below.refl _ _).alloc (Nat.le_refl _) _⟩
  rcases hh : T.vs h with _ | _
  · have HV := Lib.hid (D.vp_no (fun h : D.Vp a b c d e f g h => by have := h.2.2.2.2.2.2.2; rw [hh] at this; cases this))
    clear a1 b1 c1 d1 e1
    go_enter Try.func20, Try.ntmps20
    go_wp2_with (first | (go_at_call 29; refine (inR_spec _ _ _ _).mono ?_; rintro e w' ⟨rfl, rfl⟩) | (go_at_call 30; refine (vst_spec _ _).mono ?_; rintro e w' ⟨rfl, rfl⟩))
    go_ret
    exact ⟨ret_bool HV.out.symm, (Below.refl _ _).alloc (Nat.le_refl _) _⟩
  have HV := Lib.hid (D.vp_yes (show D.Vp a b c d e f g h from ⟨a1, b1, c1, d1, e1, hf, hg, hh⟩))
  clear a1 b1 c1 d1 e1
  go_enter Try.func20, Try.ntmps20
  go_wp2_with (first | (go_at_call 29; refine (inR_spec _ _ _ _).mono ?_; rintro e w' ⟨rfl, rfl⟩) | (go_at_call 30; refine (vst_spec _ _).mono ?_; rintro e w' ⟨rfl, rfl⟩))
  go_ret
  exact ⟨ret_bool HV.out.symm, (Below.refl _ _).alloc (Nat.le_refl _) _⟩
end Go.Proofs.Ytegkmdinnkbkiaa
