/-
  Clocks (chapter 7): a clock at a later time; the program's functions.
-/
import Derived.Test.YtljdnncodgnpcaaClock
namespace Go.Proofs.Ytljdnncodgnpcaa
open Go.RowKit
set_option linter.unusedVariables false
set_option maxRecDepth 100000
set_option maxHeartbeats 1000000 in
theorem at_impl (o r a t : Int) (ho : -1000000 ≤ o ∧ o ≤ 1000000) (hr : -500000 ≤ r ∧ r ≤ 500000) (ha : 0 ≤ a ∧ a ≤ 3786479999) (ht : -100000 ≤ t - a ∧ t - a ≤ 100000) (w : World) :
    Calls Try.prog 55 #[.agg #[.int .i64 o, .int .i64 r, .int .i64 a], .int .i64 t] w fun e w' => e = .returned (.agg #[.int .i64 (K.off o r a t), .int .i64 r, .int .i64 t]) ∧ Below w.heap.size w w' := by
  have hm := K.mul_in hr ht
  have hq : -50000000 ≤ r * (t - a) / 1000 ∧ r * (t - a) / 1000 ≤ 50000000 := by omega
  have e1 : IntKind.i64.wrap (t - a) = t - a := IntWalk.i64_in _ (by omega)
  have e2 : IntKind.i64.wrap (r * (t - a)) = r * (t - a) := IntWalk.i64_in _ (by omega)
  have K1 := Lib.hid (fun w' => fdiv_impl (r * (t - a)) 1000 (by omega) (by omega) w')
  clear hm
  go_enter Try.func55, Try.ntmps55
  go_wp2_with fail
  go_region_with ((go_at_call 72; refine (K1.out _).mono ?_; rintro e w' ⟨rfl, rfl⟩))
  all_goals
    go_wp2
    refine bodyPost_ret (v := .agg #[.int .i64 (o + r * (t - a) / 1000), .int .i64 r, .int .i64 t]) (by simp [results, Try.results55, go_sem]) rfl ⟨rfl, ?_⟩
    repeat (first | exact Below.refl _ _ | refine Below.drew ?_ | refine below_drewN ?_ _ | refine Below.alloc ?_ (by first | exact Nat.le_refl _ | (simp; done) | (simp; omega)) _)
end Go.Proofs.Ytljdnncodgnpcaa
