/-
  What the functions of fixes return, for every argument: which fixes are valid, their civil times, the fixes of civil times. The program's and the model's answer is the same; what was there is as it was.
-/
import Derived.Test.YtopaglepkpblaaaDoorCalN
import Derived.Test.YtopaglepkpblaaaDoorCalX
import Derived.Test.YtopaglepkpblaaaDoorFxMath
import Derived.Deep.RegionHeld3
namespace Go.Proofs.YtopaglepkpblaaaDoor
open Go.RowKit
set_option linter.unusedVariables false
/-- Five numbers in a block. -/
structure C5 (w : World) (b : Nat) (y m d s n : Int) : Prop where
  c0 : w.cell? ⟨b, 0, none⟩ = some (.int .i64 y)
  c1 : w.cell? ⟨b, 1, none⟩ = some (.int .i64 m)
  c2 : w.cell? ⟨b, 2, none⟩ = some (.int .i64 d)
  c3 : w.cell? ⟨b, 3, none⟩ = some (.int .i64 s)
  c4 : w.cell? ⟨b, 4, none⟩ = some (.int .i64 n)
  lt : b < w.heap.size
theorem C5.bw {w w' : World} {b B : Nat} {y m d s n : Int} (h : C5 w b y m d s n) (hb : Below B w w') (hB : b < B) : C5 w' b y m d s n :=
  ⟨(hb.cell (p := ⟨b, 0, none⟩) hB).trans h.c0, (hb.cell (p := ⟨b, 1, none⟩) hB).trans h.c1, (hb.cell (p := ⟨b, 2, none⟩) hB).trans h.c2, (hb.cell (p := ⟨b, 3, none⟩) hB).trans h.c3, (hb.cell (p := ⟨b, 4, none⟩) hB).trans h.c4, Nat.lt_of_lt_of_le h.lt hb.size⟩
theorem C5.b {w w' : World} {b : Nat} {y m d s n : Int} (h : C5 w b y m d s n) (hb : Below w.heap.size w w') : C5 w' b y m d s n := h.bw hb h.lt
theorem C5.dr {w : World} {b : Nat} {y m d s n : Int} (h : C5 w b y m d s n) : C5 w.drew b y m d s n := ⟨by simpa using h.c0, by simpa using h.c1, by simpa using h.c2, by simpa using h.c3, by simpa using h.c4, by simpa using h.lt⟩
theorem C5.new (w : World) (y m d s n : Int) (t : TypeId) : C5 (w.alloc (.cells #[.int .i64 y, .int .i64 m, .int .i64 d, .int .i64 s, .int .i64 n] t)) w.heap.size y m d s n := ⟨by simp, by simp, by simp, by simp, by simp, by simp⟩
theorem C5.al {w : World} {b : Nat} {y m d s n : Int} (h : C5 w b y m d s n) (o : Obj) : C5 (w.alloc o) b y m d s n := h.b ((Below.refl _ _).alloc (Nat.le_refl _) _)
theorem keepF5 {w w1 w2 : World} {b : Nat} {y m d s n : Int} (hb : Below w1.heap.size w1 w2) (h : Below w.heap.size w w1 ∧ b < w1.heap.size ∧ w1.cell? ⟨b, 0, none⟩ = some (.int .i64 y) ∧ w1.cell? ⟨b, 1, none⟩ = some (.int .i64 m) ∧ w1.cell? ⟨b, 2, none⟩ = some (.int .i64 d) ∧ w1.cell? ⟨b, 3, none⟩ = some (.int .i64 s) ∧ w1.cell? ⟨b, 4, none⟩ = some (.int .i64 n)) :
    Below w.heap.size w w2 ∧ b < w2.heap.size ∧ w2.cell? ⟨b, 0, none⟩ = some (.int .i64 y) ∧ w2.cell? ⟨b, 1, none⟩ = some (.int .i64 m) ∧ w2.cell? ⟨b, 2, none⟩ = some (.int .i64 d) ∧ w2.cell? ⟨b, 3, none⟩ = some (.int .i64 s) ∧ w2.cell? ⟨b, 4, none⟩ = some (.int .i64 n) :=
  ⟨h.1.trans (hb.mono h.1.size), Nat.lt_of_lt_of_le h.2.1 hb.size, (hb.cell (p := ⟨b, 0, none⟩) h.2.1).trans h.2.2.1, (hb.cell (p := ⟨b, 1, none⟩) h.2.1).trans h.2.2.2.1, (hb.cell (p := ⟨b, 2, none⟩) h.2.1).trans h.2.2.2.2.1, (hb.cell (p := ⟨b, 3, none⟩) h.2.1).trans h.2.2.2.2.2.1, (hb.cell (p := ⟨b, 4, none⟩) h.2.1).trans h.2.2.2.2.2.2⟩
theorem vf_impl (y m d s n : Int) (w : World) : Calls Tryd.prog 14 #[.agg #[.int .i64 y, .int .i64 m, .int .i64 d, .int .i64 s, .int .i64 n]] w fun e w' => e = .returned (.bool (X.vf y m d s n)) ∧ Below w.heap.size w w' := by
  have K := C5.new w y m d s n 26
  have g0 : Below w.heap.size w (w.alloc (.cells #[.int .i64 y, .int .i64 m, .int .i64 d, .int .i64 s, .int .i64 n] 26)) := (Below.refl _ _).alloc (Nat.le_refl _) _
  cases hv : M.vld y m d
  · have e0 : X.vf y m d s n = false := X.vf_no fun h => by rw [hv] at h; exact absurd h.1 (by simp)
    have e1 : M.dayOf y m d = -1 := by unfold M.dayOf; rw [hv]; rfl
    have C := fun w' => dayOf_impl y m d w'
    rw [e1] at C
    have HC := Lib.hid C
    rw [e0]
    clear e0 e1 C
    go_enter Tryd.func14, Tryd.ntmps14
    go_wp2_with fail
    refine (HC.out _).mono ?_
    rintro e w1 ⟨rfl, hb⟩
    have g1 := g0.trans (hb.mono g0.size)
    clear hb
    go_wp2_with fail
    go_ret
    exact ⟨rfl, g1⟩
  · have nb := M.num_bd y m d hv
    have e1 : M.dayOf y m d = M.num y m d := by unfold M.dayOf; rw [hv]; rfl
    have C := fun w' => dayOf_impl y m d w'
    rw [e1] at C
    have HC := Lib.hid C
    have HV := Lib.hid hv
    clear e1 C hv
    rcases inR_cases s 0 86400 with ⟨h0, a0⟩ | ⟨h0, a0⟩
    · rcases inR_cases n 0 32 with ⟨h1, a1⟩ | ⟨h1, a1⟩
      all_goals
        have HE := Lib.hid (show X.vf y m d s n = decide (0 ≤ n ∧ n ≤ 32) by unfold X.vf; rw [decide_eq_decide]; exact ⟨fun h => h.2.2, fun h => ⟨HV.out, a0, h⟩⟩)
        go_enter Tryd.func14, Tryd.ntmps14
        go_wp2_with fail
        refine (HC.out _).mono ?_
        rintro e w1 ⟨rfl, hb⟩
        have K1 := K.b hb
        have g1 := g0.trans (hb.mono g0.size)
        obtain ⟨c0, c1, c2, c3, c4, cl⟩ := K1
        clear hb c0 c1 c2 K g0
        go_wp2_with (go_at_call 38; refine (inR_impl _ _ _ _).mono ?_; rintro e w' ⟨rfl, rfl⟩)
        go_ret
        exact ⟨ret_bool (by rw [HE.out]; simp [a1]), g1⟩
    · have HE := Lib.hid (show X.vf y m d s n = false from X.vf_no fun h => a0 h.2.1)
      go_enter Tryd.func14, Tryd.ntmps14
      go_wp2_with fail
      refine (HC.out _).mono ?_
      rintro e w1 ⟨rfl, hb⟩
      have K1 := K.b hb
      have g1 := g0.trans (hb.mono g0.size)
      obtain ⟨c0, c1, c2, c3, c4, cl⟩ := K1
      clear hb c0 c1 c2 K g0
      go_wp2_with (go_at_call 38; refine (inR_impl _ _ _ _).mono ?_; rintro e w' ⟨rfl, rfl⟩)
      go_ret
      exact ⟨ret_bool HE.out.symm, g1⟩
theorem vfx_spec (y m d s n : Int) (w : World) : Calls Tryd.prog 28 #[.agg #[.int .i64 y, .int .i64 m, .int .i64 d, .int .i64 s, .int .i64 n]] w fun e w' => e = .returned (.bool (X.vf y m d s n)) ∧ Below w.heap.size w w' := by
  have K := C5.new w y m d s n 26
  have g0 : Below w.heap.size w (w.alloc (.cells #[.int .i64 y, .int .i64 m, .int .i64 d, .int .i64 s, .int .i64 n] 26)) := (Below.refl _ _).alloc (Nat.le_refl _) _
  have C := fun w' => vld_spec y m d w'
  cases hv : M.vld y m d
  · have e0 : X.vf y m d s n = false := X.vf_no fun h => by rw [hv] at h; exact absurd h.1 (by simp)
    rw [hv] at C
    have HC := Lib.hid C
    rw [e0]
    clear e0 C hv
    go_enter Tryd.func28, Tryd.ntmps28
    go_wp2_with fail
    refine (HC.out _).mono ?_
    rintro e w1 ⟨rfl, hb⟩
    have g1 := g0.trans (hb.mono g0.size)
    clear hb
    go_wp2_with fail
    go_ret
    exact ⟨rfl, g1⟩
  · rw [hv] at C
    have HC := Lib.hid C
    have HV := Lib.hid hv
    clear C hv
    rcases inR_cases s 0 86400 with ⟨h0, a0⟩ | ⟨h0, a0⟩
    · rcases inR_cases n 0 32 with ⟨h1, a1⟩ | ⟨h1, a1⟩
      all_goals
        have HE := Lib.hid (show X.vf y m d s n = decide (0 ≤ n ∧ n ≤ 32) by unfold X.vf; rw [decide_eq_decide]; exact ⟨fun h => h.2.2, fun h => ⟨HV.out, a0, h⟩⟩)
        go_enter Tryd.func28, Tryd.ntmps28
        go_wp2_with fail
        refine (HC.out _).mono ?_
        rintro e w1 ⟨rfl, hb⟩
        have K1 := K.b hb
        have g1 := g0.trans (hb.mono g0.size)
        obtain ⟨c0, c1, c2, c3, c4, cl⟩ := K1
        clear hb c0 c1 c2 K g0
        go_wp2_with (go_at_call 49; refine (inR_spec _ _ _ _).mono ?_; rintro e w' ⟨rfl, rfl⟩)
        go_ret
        exact ⟨ret_bool (by rw [HE.out]; simp [a1]), g1⟩
    · have HE := Lib.hid (show X.vf y m d s n = false from X.vf_no fun h => a0 h.2.1)
      go_enter Tryd.func28, Tryd.ntmps28
      go_wp2_with fail
      refine (HC.out _).mono ?_
      rintro e w1 ⟨rfl, hb⟩
      have K1 := K.b hb
      have g1 := g0.trans (hb.mono g0.size)
      obtain ⟨c0, c1, c2, c3, c4, cl⟩ := K1
      clear hb c0 c1 c2 K g0
      go_wp2_with (go_at_call 49; refine (inR_spec _ _ _ _).mono ?_; rintro e w' ⟨rfl, rfl⟩)
      go_ret
      exact ⟨ret_bool HE.out.symm, g1⟩
end Go.Proofs.YtopaglepkpblaaaDoor
