/-
  Clocks (chapter 7): the model's offset at a time, and the model's clock that is set.
-/
import Derived.Test.YtljdnncodgnpcaaClock
namespace Go.Proofs.Ytljdnncodgnpcaa
open Go.RowKit
set_option linter.unusedVariables false
set_option maxRecDepth 100000
theorem ret_ib {a b : Int} {c : Bool} (h : a = b) : Ending.returned (.tuple #[.int .i64 a, .bool c]) = .returned (.tuple #[.int .i64 b, .bool c]) := by rw [h]
theorem drift_spec (o r a s : Int) (hr : -500000 ≤ r ∧ r ≤ 500000) (hs : -100000 ≤ s ∧ s ≤ 100000) (w : World) : Calls Try.prog 77 #[.agg #[.int .i64 o, .int .i64 r, .int .i64 a], .int .i64 s] w fun e w' => e = .returned (.int .i64 (r * s / 1000)) ∧ Below w.heap.size w w' := by
  have hm := K.mul_in hr hs
  have K1 := Lib.hid (fun w' => fdiv_spec (r * s) 1000 (by omega) (by omega) w')
  go_enter Try.func77, Try.ntmps77
  go_wp2_with (go_at_call 71; refine (K1.out _).mono ?_; rintro e w' ⟨rfl, rfl⟩)
  go_ret
  exact ⟨rfl, (Below.refl _ _).alloc (Nat.le_refl _) _⟩
set_option maxHeartbeats 1000000 in
theorem OA_spec (o r a t : Int) (w : World) : Calls Try.prog 69 #[.agg #[.int .i64 o, .int .i64 r, .int .i64 a], .int .i64 t] w fun e w' => e = .returned (.tuple #[.int .i64 (K.oa o r a t), .bool (K.told o r a t)]) ∧ Below w.heap.size w w' := by
  have k1 := fun w' => vc_spec0 o r a w'
  have bA := (Below.refl w.heap.size w).alloc (Nat.le_refl _) (.cells #[.int .i64 o, .int .i64 r, .int .i64 a] 24)
  have xA := C3.new w o r a 24
  rcases hv : K.vc o r a with _ | _
  · have HT := Lib.hid (K.told_no (o := o) (r := r) (a := a) (t := t) (fun h => by rw [hv] at h; exact absurd h.1 (by decide)))
    simp only [hv] at k1
    clear hv
    go_enter Try.func69, Try.ntmps69
    go_wp2_with fail
    refine (k1 _).mono ?_
    rintro e w1 ⟨rfl, b1⟩
    have b2 := bA.trans (b1.mono bA.size)
    clear bA b1 xA
    go_wp2
    go_ret2
    exact ⟨by rw [HT.out, K.oa_no HT.out]; first | done | rfl, b2⟩
  · have hvc := K.vc_of hv
    have hl := K.last_bd hv
    have hmin : min (3786479999 : Int) (a + 100000) = K.last a := by unfold K.last; omega
    have HV := Lib.hid hv
    simp only [hv] at k1
    clear hv
    rcases inR_cases t a (K.last a) with ⟨c0, c1⟩ | ⟨c0, c1⟩
    · have HT := Lib.hid (K.told_yes (t := t) ⟨HV.out, c1⟩)
      have hm := K.mul_in (r := r) (s := t - a) (by omega) (by omega)
      have hq : -50000000 ≤ r * (t - a) / 1000 ∧ r * (t - a) / 1000 ≤ 50000000 := by omega
      have K1 := Lib.hid (fun w' => drift_spec o r a (t - a) (by omega) (by omega) w')
      have K2 : Hid (∀ w' hi, hi = K.last a → Calls Try.prog 66 #[.int .i64 t, .int .i64 a, .int .i64 hi] w' fun e w'' => e = .returned (.bool true) ∧ w' = w'') := Lib.hid (fun w' hi h => by subst h; rw [← c0]; exact inR_spec t a _ w')
      have e1 : IntKind.i64.wrap (t - a) = t - a := IntWalk.i64_in _ (by omega)
      clear hm c0 hl
      go_enter Try.func69, Try.ntmps69
      go_wp2_with fail
      refine (k1 _).mono ?_
      rintro e w1 ⟨rfl, b1⟩
      have b2 := bA.trans (b1.mono bA.size)
      have x1 := xA.b b1
      have d0 := x1.c0
      have d1 := x1.c1
      have d2 := x1.c2
      clear bA b1 xA k1
      have s2 : w.heap.size ≤ w1.heap.size := b2.size
      generalize w.heap.size = D at d0 d1 d2 x1 ⊢
      go_wp2_with fail
      all_goals
        refine (K2.out _ _ (by unfold K.last; omega)).mono ?_
        rintro e w2 ⟨rfl, rfl⟩
        have hD2 := x1.lt
        go_wp2_with fail
        go_region_held3 (fun w' => w'.cell? ⟨D, 0, none⟩ = some (.int .i64 o) ∧ w'.cell? ⟨D, 1, none⟩ = some (.int .i64 r) ∧ w'.cell? ⟨D, 2, none⟩ = some (.int .i64 a))
          (first | exact ⟨d0, d1, d2⟩ | (refine ⟨(hb.cell (p := ⟨D, 0, none⟩) ?_).trans ?_, (hb.cell (p := ⟨D, 1, none⟩) ?_).trans ?_, (hb.cell (p := ⟨D, 2, none⟩) ?_).trans ?_⟩ <;> (first | assumption | exact hD2)))
          ((go_at_call 77; refine (K1.out _).mono ?_; rintro e w4 ⟨rfl, hb⟩))
        go_wp2
        go_ret2
        exact ⟨by rw [HT.out, K.oa_yes HT.out]; exact ret_ib (IntWalk.i64_in _ (by omega)), b2.drew.trans (hb.mono s2)⟩
    · have HT := Lib.hid (K.told_no (o := o) (r := r) (a := a) (t := t) (fun h => c1 h.2))
      have K2 : Hid (∀ w' hi, hi = K.last a → Calls Try.prog 66 #[.int .i64 t, .int .i64 a, .int .i64 hi] w' fun e w'' => e = .returned (.bool false) ∧ w' = w'') := Lib.hid (fun w' hi h => by subst h; rw [← c0]; exact inR_spec t a _ w')
      clear c0 hl c1
      go_enter Try.func69, Try.ntmps69
      go_wp2_with fail
      refine (k1 _).mono ?_
      rintro e w1 ⟨rfl, b1⟩
      have b2 := bA.trans (b1.mono bA.size)
      have x1 := xA.b b1
      have d0 := x1.c0
      have d1 := x1.c1
      have d2 := x1.c2
      clear bA b1 xA k1
      generalize w.heap.size = D at d0 d1 d2 x1 ⊢
      go_wp2_with fail
      all_goals
        refine (K2.out _ _ (by unfold K.last; omega)).mono ?_
        rintro e w2 ⟨rfl, rfl⟩
        go_wp2
        go_ret2
        exact ⟨by rw [HT.out, K.oa_no HT.out]; first | done | rfl, b2⟩
end Go.Proofs.Ytljdnncodgnpcaa
