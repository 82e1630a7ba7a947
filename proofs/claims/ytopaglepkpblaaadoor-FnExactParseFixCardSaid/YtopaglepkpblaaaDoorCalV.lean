/-
  Whether a date is valid: what the model answers; what was there is as it was.
-/
import Derived.Test.YtopaglepkpblaaaDoorCalM
import Derived.Deep.RegionHeld3
namespace Go.Proofs.YtopaglepkpblaaaDoor
open Go.RowKit
set_option linter.unusedVariables false
set_option maxHeartbeats 2000000 in
theorem vld_spec (y m d : Int) (w : World) : Calls Tryd.prog 48 #[.agg #[.int .i64 y, .int .i64 m, .int .i64 d]] w fun e w' => e = .returned (.bool (M.vld y m d)) ∧ Below w.heap.size w w' := by
  rcases inR_cases y 1980 2099 with ⟨h0, a0⟩ | ⟨h0, a0⟩
  · rcases inR_cases m 1 12 with ⟨h1, a1⟩ | ⟨h1, a1⟩
    · have e0 : M.vld y m d = inR d 1 (M.dim y m) := by
        simp only [M.vld, inR]; rw [decide_eq_decide]; exact ⟨fun h => h.2.2, fun h => ⟨a0, a1, h⟩⟩
      rw [e0]
      go_enter Tryd.func48, Tryd.ntmps48
      go_wp2_with fail
      go_region_held3 (fun w' => w'.cell? ⟨w.heap.size, 0, none⟩ = some (.int .i64 y) ∧ w'.cell? ⟨w.heap.size, 1, none⟩ = some (.int .i64 m) ∧ w'.cell? ⟨w.heap.size, 2, none⟩ = some (.int .i64 d))
        (simp [go_sem, World.cell?_alloc_past])
        ((first | (go_at_call 49; refine (inR_spec _ _ _ _).mono ?_; rintro e w' ⟨rfl, rfl⟩) | (go_at_call 69; refine (dim_spec _ _ _ a0.1 a0.2 a1.1 a1.2).mono ?_; rintro e w' ⟨rfl, o, rfl⟩)))
      go_wp2
      go_ret
      exact ⟨rfl, (((Below.refl _ _).alloc (Nat.le_refl _) _).alloc (by simp) _).drew⟩
    · have e0 : M.vld y m d = false := by simp [M.vld]; omega
      rw [e0]
      go_enter Tryd.func48, Tryd.ntmps48
      go_wp2_with fail
      go_quiet ((go_at_call 49; exact qs (inR_spec _ _ _)))
      go_wp2
      go_ret
      exact ⟨rfl, below_drewN ((Below.refl _ _).alloc (Nat.le_refl _) _) _⟩
  · have e0 : M.vld y m d = false := by simp [M.vld]; omega
    rw [e0]
    go_enter Tryd.func48, Tryd.ntmps48
    go_wp2_with fail
    go_quiet ((go_at_call 49; exact qs (inR_spec _ _ _)))
    go_wp2
    go_ret
    exact ⟨rfl, below_drewN ((Below.refl _ _).alloc (Nat.le_refl _) _) _⟩
end Go.Proofs.YtopaglepkpblaaaDoor
