/-
  The number of a date by the model, for every date.
-/
import Derived.Test.YtdccajcfhhlpfaaCalV
import Derived.Test.YtdccajcfhhlpfaaCalW
namespace Go.Proofs.Ytdccajcfhhlpfaa
open Go.RowKit
set_option linter.unusedVariables false
set_option maxHeartbeats 1000000 in
theorem dayOf_spec (y m d : Int) (w : World) : Calls Try.prog 23 #[.agg #[.int .i64 y, .int .i64 m, .int .i64 d]] w fun e w' => e = .returned (.int .i64 (M.dayOf y m d)) ∧ Below w.heap.size w w' := by
  cases hv : M.vld y m d
  · have e0 : M.dayOf y m d = -1 := by unfold M.dayOf; rw [hv]; rfl
    rw [e0]
    clear e0
    go_enter Try.func23, Try.ntmps23
    go_wp2_with (first | (go_at_call 48; refine (vld_spec _ _ _ _).mono ?_; rintro e w' ⟨rfl, hb⟩))
    go_ret
    exact ⟨rfl, ((Below.refl _ _).alloc (Nat.le_refl _) _).trans (hb.mono (by simp))⟩
  · have e0 : M.dayOf y m d = M.num y m d := by unfold M.dayOf; rw [hv]; rfl
    rw [e0]
    have hv' := hv
    simp only [M.vld, decide_eq_true_eq] at hv'
    obtain ⟨v1, v2, v3, v4⟩ := hv'
    have hdm := M.dim_bd y m
    clear e0
    go_enter Try.func23, Try.ntmps23
    go_wp2_with fail
    refine (vld_spec _ _ _ _).mono ?_
    rintro e w1 ⟨rfl, hb⟩
    have c0 : w1.cell? ⟨w.heap.size, 0, none⟩ = some (.int .i64 y) := (hb.cell (p := ⟨w.heap.size, 0, none⟩) (by simp)).trans (by simp)
    have c1 : w1.cell? ⟨w.heap.size, 1, none⟩ = some (.int .i64 m) := (hb.cell (p := ⟨w.heap.size, 1, none⟩) (by simp)).trans (by simp)
    have c2 : w1.cell? ⟨w.heap.size, 2, none⟩ = some (.int .i64 d) := (hb.cell (p := ⟨w.heap.size, 2, none⟩) (by simp)).trans (by simp)
    have hbb : Below w.heap.size w w1 := ((Below.refl _ _).alloc (Nat.le_refl _) _).trans (hb.mono (by simp))
    clear hb
    go_wp2_with (first | (go_at_call 49; refine (num_spec _ _ _ _ v1 v2 ⟨v3, by omega⟩).mono ?_; rintro e w' ⟨rfl, hc⟩))
    go_ret
    exact ⟨rfl, hbb.trans (hc.mono hbb.size)⟩
end Go.Proofs.Ytdccajcfhhlpfaa
