/-
  What the functions of fixes return, for every argument: which fixes are valid, their civil times, the fixes of civil times. The program's and the model's answer is the same; what was there is as it was.
-/
import Derived.Test.YtpfdjmffgbbmdaaGreatDoorP2
import Derived.Test.YtpfdjmffgbbmdaaGreatDoorP1
import Derived.Deep.RegionHeld3
namespace Go.Proofs.YtpfdjmffgbbmdaaGreatDoor
open Go.RowKit
set_option linter.unusedVariables false
/-- Five numbers in a block. -/
structure C5 (w : World) (b : Nat) (y m d s n : Int) : Prop where
  c0 : w.cell? ⟨b, 0, none⟩ = some (.int .i64 y)
  c1 : w.cell? ⟨b, 1, none⟩ = some (.int .i64 m)
  c2 : w.cell? ⟨b, 2, none⟩ = some (.int .i64 d)
  c3 : w.cell? ⟨b, 3, none⟩ = some (.int .i64 s)
  c4 : w.cell? ⟨b, 4, none⟩ = some (.int .i64 n)
  lt : b < w.heap.size
theorem C5.bw {w w' : World} {b B : Nat} {y m d s n : Int} (h : C5 w b y m d s n) (hb : Below B w w') (hB : b < B) : C5 w' b y m d s n :=
  ⟨(hb.cell (p := ⟨b, 0, none⟩) hB).trans h.c0, (hb.cell (p := ⟨b, 1, none⟩) hB).trans h.c1, (hb.cell (p := ⟨b, 2, none⟩) hB).trans h.c2, (hb.cell (p := ⟨b, 3, none⟩) hB).trans h.c3, (hb.cell (p := ⟨b, 4, none⟩) hB).trans h.c4, Nat.lt_of_lt_of_le h.lt hb.size⟩
theorem C5.b {w w' : World} {b : Nat} {y m d s n : Int} (h : C5 w b y m d s n) (hb : Below w.heap.size w w') : C5 w' b y m d s n := h.bw hb h.lt
theorem C5.dr {w : World} {b : Nat} {y m d s n : Int} (h : C5 w b y m d s n) : C5 w.drew b y m d s n := ⟨by simpa using h.c0, by simpa using h.c1, by simpa using h.c2, by simpa using h.c3, by simpa using h.c4, by simpa using h.lt⟩
theorem C5.new (w : World) (y m d s n : Int) (t : TypeId) : C5 (w.alloc (.cells #[.int .i64 y, .int .i64 m, .int .i64 d, .int .i64 s, .int .i64 n] t)) w.heap.size y m d s n := ⟨by simp, by simp, by simp, by simp, by simp, by simp⟩
theorem C5.al {w : World} {b : Nat} {y m d s n : Int} (h : C5 w b y m d s n) (o : Obj) : C5 (w.alloc o) b y m d s n := h.b ((Below.refl _ _).alloc (Nat.le_refl _) _)
theorem keepF5 {w w1 w2 : World} {b : Nat} {y m d s n : Int} (hb : Below w1.heap.size w1 w2) (h : Below w.heap.size w w1 ∧ b < w1.heap.size ∧ w1.cell? ⟨b, 0, none⟩ = some (.int .i64 y) ∧ w1.cell? ⟨b, 1, none⟩ = some (.int .i64 m) ∧ w1.cell? ⟨b, 2, none⟩ = some (.int .i64 d) ∧ w1.cell? ⟨b, 3, none⟩ = some (.int .i64 s) ∧ w1.cell? ⟨b, 4, none⟩ = some (.int .i64 n)) :
    Below w.heap.size w w2 ∧ b < w2.heap.size ∧ w2.cell? ⟨b, 0, none⟩ = some (.int .i64 y) ∧ w2.cell? ⟨b, 1, none⟩ = some (.int .i64 m) ∧ w2.cell? ⟨b, 2, none⟩ = some (.int .i64 d) ∧ w2.cell? ⟨b, 3, none⟩ = some (.int .i64 s) ∧ w2.cell? ⟨b, 4, none⟩ = some (.int .i64 n) :=
  ⟨h.1.trans (hb.mono h.1.size), Nat.lt_of_lt_of_le h.2.1 hb.size, (hb.cell (p := ⟨b, 0, none⟩) h.2.1).trans h.2.2.1, (hb.cell (p := ⟨b, 1, none⟩) h.2.1).trans h.2.2.2.1, (hb.cell (p := ⟨b, 2, none⟩) h.2.1).trans h.2.2.2.2.1, (hb.cell (p := ⟨b, 3, none⟩) h.2.1).trans h.2.2.2.2.2.1, (hb.cell (p := ⟨b, 4, none⟩) h.2.1).trans h.2.2.2.2.2.2⟩
theorem vf_impl (y m d s n : Int) (w : World) : Calls Tryz.prog 28 #[.agg #[.int .i64 y, .int .i64 m, .int .i64 d, .int .i64 s, .int .i64 n]] w fun e w' => e = .returned (.bool (X.vf y m d s n)) ∧ Below w.heap.size w w' := by
  have K := C5.new w y m d s n 31
  have g0 : Below w.heap.size w (w.alloc (.cells #[.int .i64 y, .int .i64 m, .int .i64 d, .int .i64 s, .int .i64 n] 31)) := (Below.refl _ _).alloc (Nat.le_refl _) _
  cases hv : M.vld y m d
  · have e0 : X.vf y m d s n = false := X.vf_no fun h => by rw [hv] at h; exact absurd h.1 (by simp)
    have e1 : M.dayOf y m d = -1 := by unfold M.dayOf; rw [hv]; rfl
    have C := fun w' => dayOf_impl y m d w'
    rw [e1] at C
    have HC := Lib.hid C
    rw [e0]
    clear e0 e1 C
    go_enter Tryz.func28, Tryz.ntmps28
    go_wp2_with fail
    refine (HC.out _).mono ?_
    rintro e w1 ⟨rfl, hb⟩
    have g1 := g0.trans (hb.mono g0.size)
    clear hb
    go_wp2_with fail
    go_ret
    exact ⟨rfl, g1⟩
  · have nb := M.num_bd y m d hv
    have e1 : M.dayOf y m d = M.num y m d := by unfold M.dayOf; rw [hv]; rfl
    have C := fun w' => dayOf_impl y m d w'
    rw [e1] at C
    have HC := Lib.hid C
    have HV := Lib.hid hv
    clear e1 C hv
    rcases inR_cases s 0 86400 with ⟨h0, a0⟩ | ⟨h0, a0⟩
    · rcases inR_cases n 0 32 with ⟨h1, a1⟩ | ⟨h1, a1⟩
      all_goals
        have HE := Lib.hid (show X.vf y m d s n = decide (0 ≤ n ∧ n ≤ 32) by unfold X.vf; rw [decide_eq_decide]; exact ⟨fun h => h.2.2, fun h => ⟨HV.out, a0, h⟩⟩)
        go_enter Tryz.func28, Tryz.ntmps28
        go_wp2_with fail
        refine (HC.out _).mono ?_
        rintro e w1 ⟨rfl, hb⟩
        have K1 := K.b hb
        have g1 := g0.trans (hb.mono g0.size)
        obtain ⟨c0, c1, c2, c3, c4, cl⟩ := K1
        clear hb c0 c1 c2 K g0
        go_wp2_with (go_at_call 33; refine (inR_impl _ _ _ _).mono ?_; rintro e w' ⟨rfl, rfl⟩)
        go_ret
        exact ⟨ret_bool (by rw [HE.out]; simp [a1]), g1⟩
    · have HE := Lib.hid (show X.vf y m d s n = false from X.vf_no fun h => a0 h.2.1)
      go_enter Tryz.func28, Tryz.ntmps28
      go_wp2_with fail
      refine (HC.out _).mono ?_
      rintro e w1 ⟨rfl, hb⟩
      have K1 := K.b hb
      have g1 := g0.trans (hb.mono g0.size)
      obtain ⟨c0, c1, c2, c3, c4, cl⟩ := K1
      clear hb c0 c1 c2 K g0
      go_wp2_with (go_at_call 33; refine (inR_impl _ _ _ _).mono ?_; rintro e w' ⟨rfl, rfl⟩)
      go_ret
      exact ⟨ret_bool HE.out.symm, g1⟩
set_option maxHeartbeats 1000000 in
theorem cv_impl (y m d s n : Int) (w : World) : Calls Tryz.prog 73 #[.agg #[.int .i64 y, .int .i64 m, .int .i64 d, .int .i64 s, .int .i64 n]] w fun e w' => e = .returned (.int .i64 (X.cv y m d s n)) ∧ Below w.heap.size w w' := by
  have K := C5.new w y m d s n 31
  have g0 : Below w.heap.size w (w.alloc (.cells #[.int .i64 y, .int .i64 m, .int .i64 d, .int .i64 s, .int .i64 n] 31)) := (Below.refl _ _).alloc (Nat.le_refl _) _
  have C := fun w' => vf_impl y m d s n w'
  cases hv : X.vf y m d s n
  · have e0 := X.cv_no hv
    rw [hv] at C
    rw [e0]
    have HC := Lib.hid C
    clear e0 C hv
    go_enter Tryz.func73, Tryz.ntmps73
    go_wp2_with fail
    refine (HC.out _).mono ?_
    rintro e w1 ⟨rfl, hb⟩
    have g1 := g0.trans (hb.mono g0.size)
    clear hb
    go_wp2_with fail
    go_ret
    exact ⟨rfl, g1⟩
  · obtain ⟨h1, h2, h3⟩ := X.vf_of hv
    have nb := M.num_bd y m d h1
    have e1 : M.dayOf y m d = M.num y m d := by unfold M.dayOf; rw [h1]; rfl
    have D := fun w' => dayOf_impl y m d w'
    rw [e1] at D
    have G := fun w' => gps_impl (M.num y m d) (X.sm s) w'
    rw [← X.cv_gps hv] at G
    rw [hv] at C
    have HC := Lib.hid C
    have HD := Lib.hid D
    have HG := Lib.hid G
    generalize X.cv y m d s n = V at *
    generalize M.num y m d = U at *
    clear C D G e1 h1 hv h3
    go_enter Tryz.func73, Tryz.ntmps73
    go_wp2_with fail
    refine (HC.out _).mono ?_
    rintro e w1 ⟨rfl, hb⟩
    have g1 := g0.trans (hb.mono g0.size)
    have K1 := K.b hb
    obtain ⟨c0, c1, c2, c3, c4, cl⟩ := K1
    clear hb K g0
    go_wp2_with fail
    refine wp_region_held_drew (S := (fun w' => Below w.heap.size w w' ∧ w.heap.size < w'.heap.size ∧ w'.cell? ⟨w.heap.size, 0, none⟩ = some (.int .i64 y) ∧ w'.cell? ⟨w.heap.size, 1, none⟩ = some (.int .i64 m) ∧ w'.cell? ⟨w.heap.size, 2, none⟩ = some (.int .i64 d) ∧ w'.cell? ⟨w.heap.size, 3, none⟩ = some (.int .i64 s) ∧ w'.cell? ⟨w.heap.size, 4, none⟩ = some (.int .i64 n))) (by kernel_rfl) (⟨g1.drew, by simpa using cl, by simpa using c0, by simpa using c1, by simpa using c2, by simpa using c3, by simpa using c4⟩) (fun hHeld => ?_)
    refine wpAnyH_take (i := 0) (v := ?_) rfl (by kernel_rfl) (by kernel_rfl) (by kernel_rfl) (fun _ _ _ h => h) (Or.inl ⟨by rfl, ?_⟩) (by assumption) ?_
    rotate_left
    · intro w hSw
      (try dsimp only at hSw)
      go_simp
      all_goals with_reducible rfl
    try simp only [Act.put, List.setIfInBounds_toArray, List.set_cons_zero, List.set_cons_succ, List.getElem_toArray, List.getElem_cons_zero]
    refine wpAnyH_take (i := 1) (v := ?_) rfl (by kernel_rfl) (by kernel_rfl) (by kernel_rfl) (fun _ _ _ h => h) (Or.inl ⟨by rfl, ?_⟩) (by assumption) ?_
    rotate_left
    · intro w hSw
      (try dsimp only at hSw)
      go_simp
      all_goals with_reducible rfl
    try simp only [Act.put, List.setIfInBounds_toArray, List.set_cons_zero, List.set_cons_succ, List.getElem_toArray, List.getElem_cons_zero, List.getElem_cons_succ]
    refine wpAnyH_take (i := 3) (v := ?_) rfl (by kernel_rfl) (by kernel_rfl) (by kernel_rfl) (fun _ _ _ h => h) (Or.inl ⟨by rfl, ?_⟩) (by assumption) ?_
    rotate_left
    · intro w hSw
      (try dsimp only at hSw)
      go_simp
      all_goals with_reducible rfl
    try simp only [Act.put, List.setIfInBounds_toArray, List.set_cons_zero, List.set_cons_succ, List.getElem_toArray, List.getElem_cons_zero, List.getElem_cons_succ]
    refine wpAnyH_take (i := 4) (v := ?_) rfl (by kernel_rfl) (by kernel_rfl) (by kernel_rfl) (fun _ _ _ h => h) (Or.inl ⟨by rfl, ?_⟩) (by assumption) ?_
    rotate_left
    · intro w hSw
      (try dsimp only at hSw)
      go_simp
      all_goals with_reducible rfl
    try simp only [Act.put, List.setIfInBounds_toArray, List.set_cons_zero, List.set_cons_succ, List.getElem_toArray, List.getElem_cons_zero, List.getElem_cons_succ]
    refine wpAnyH_take (i := 5) (v := .int .i64 (X.sm s)) rfl (by kernel_rfl) (by kernel_rfl) (by kernel_rfl) (fun _ _ _ h => h) (Or.inl ⟨by rfl, ?_⟩) (by assumption) ?_
    · intro w hSw
      go_simp
      unfold X.sm; (repeat' split) <;> omega
    try simp only [Act.put, List.setIfInBounds_toArray, List.set_cons_zero, List.set_cons_succ, List.getElem_toArray, List.getElem_cons_zero, List.getElem_cons_succ]
    refine wpAnyH_ready (rs := [2]) (by kernel_rfl) (by simp) ?_
    refine AllReadyH.cons rfl (fun K hK => ?_) AllReadyH.nil
    go_simp
    (go_at_call 56; refine (HD.out _).mono ?_; rintro e w4 ⟨rfl, hb⟩)
    refine hK.out _ _ (keepF5 hb (by assumption)) (fun hHeld => ?_)
    clear hK K
    try simp only [Act.put, List.setIfInBounds_toArray, List.set_cons_zero, List.set_cons_succ, List.getElem_toArray, List.getElem_cons_zero, List.getElem_cons_succ]
    refine wpAnyH_ready (rs := [6]) (by kernel_rfl) (by simp) ?_
    refine AllReadyH.cons rfl (fun K hK => ?_) AllReadyH.nil
    go_simp
    (go_at_call 93; refine (HG.out _).mono ?_; rintro e w5 ⟨rfl, rfl⟩)
    refine hK.out _ _ ((by assumption)) (fun hHeld => ?_)
    clear hK K
    try simp only [Act.put, List.setIfInBounds_toArray, List.set_cons_zero, List.set_cons_succ, List.getElem_toArray, List.getElem_cons_zero, List.getElem_cons_succ]
    refine wpAnyH_take (i := 7) (v := ?_) rfl (by kernel_rfl) (by kernel_rfl) (by kernel_rfl) (fun _ _ _ h => h) (Or.inl ⟨by rfl, ?_⟩) (by assumption) ?_
    rotate_left
    · intro w hSw
      (try dsimp only at hSw)
      go_simp
      all_goals with_reducible rfl
    try simp only [Act.put, List.setIfInBounds_toArray, List.set_cons_zero, List.set_cons_succ, List.getElem_toArray, List.getElem_cons_zero, List.getElem_cons_succ]
    refine wpAnyH_done (by kernel_rfl) ?_ _
    go_wp2
    go_ret
    exact ⟨rfl, hHeld.1⟩
theorem vfx_spec (y m d s n : Int) (w : World) : Calls Tryz.prog 35 #[.agg #[.int .i64 y, .int .i64 m, .int .i64 d, .int .i64 s, .int .i64 n]] w fun e w' => e = .returned (.bool (X.vf y m d s n)) ∧ Below w.heap.size w w' := by
  have K := C5.new w y m d s n 31
  have g0 : Below w.heap.size w (w.alloc (.cells #[.int .i64 y, .int .i64 m, .int .i64 d, .int .i64 s, .int .i64 n] 31)) := (Below.refl _ _).alloc (Nat.le_refl _) _
  have C := fun w' => vld_spec y m d w'
  cases hv : M.vld y m d
  · have e0 : X.vf y m d s n = false := X.vf_no fun h => by rw [hv] at h; exact absurd h.1 (by simp)
    rw [hv] at C
    have HC := Lib.hid C
    rw [e0]
    clear e0 C hv
    go_enter Tryz.func35, Tryz.ntmps35
    go_wp2_with fail
    refine (HC.out _).mono ?_
    rintro e w1 ⟨rfl, hb⟩
    have g1 := g0.trans (hb.mono g0.size)
    clear hb
    go_wp2_with fail
    go_ret
    exact ⟨rfl, g1⟩
  · rw [hv] at C
    have HC := Lib.hid C
    have HV := Lib.hid hv
    clear C hv
    rcases inR_cases s 0 86400 with ⟨h0, a0⟩ | ⟨h0, a0⟩
    · rcases inR_cases n 0 32 with ⟨h1, a1⟩ | ⟨h1, a1⟩
      all_goals
        have HE := Lib.hid (show X.vf y m d s n = decide (0 ≤ n ∧ n ≤ 32) by unfold X.vf; rw [decide_eq_decide]; exact ⟨fun h => h.2.2, fun h => ⟨HV.out, a0, h⟩⟩)
        go_enter Tryz.func35, Tryz.ntmps35
        go_wp2_with fail
        refine (HC.out _).mono ?_
        rintro e w1 ⟨rfl, hb⟩
        have K1 := K.b hb
        have g1 := g0.trans (hb.mono g0.size)
        obtain ⟨c0, c1, c2, c3, c4, cl⟩ := K1
        clear hb c0 c1 c2 K g0
        go_wp2_with (go_at_call 39; refine (inR_spec _ _ _ _).mono ?_; rintro e w' ⟨rfl, rfl⟩)
        go_ret
        exact ⟨ret_bool (by rw [HE.out]; simp [a1]), g1⟩
    · have HE := Lib.hid (show X.vf y m d s n = false from X.vf_no fun h => a0 h.2.1)
      go_enter Tryz.func35, Tryz.ntmps35
      go_wp2_with fail
      refine (HC.out _).mono ?_
      rintro e w1 ⟨rfl, hb⟩
      have K1 := K.b hb
      have g1 := g0.trans (hb.mono g0.size)
      obtain ⟨c0, c1, c2, c3, c4, cl⟩ := K1
      clear hb c0 c1 c2 K g0
      go_wp2_with (go_at_call 39; refine (inR_spec _ _ _ _).mono ?_; rintro e w' ⟨rfl, rfl⟩)
      go_ret
      exact ⟨ret_bool HE.out.symm, g1⟩
set_option maxHeartbeats 1000000 in
theorem cv_spec (y m d s n : Int) (w : World) : Calls Tryz.prog 82 #[.agg #[.int .i64 y, .int .i64 m, .int .i64 d, .int .i64 s, .int .i64 n]] w fun e w' => e = .returned (.int .i64 (X.cv y m d s n)) ∧ Below w.heap.size w w' := by
  have K := C5.new w y m d s n 31
  have g0 : Below w.heap.size w (w.alloc (.cells #[.int .i64 y, .int .i64 m, .int .i64 d, .int .i64 s, .int .i64 n] 31)) := (Below.refl _ _).alloc (Nat.le_refl _) _
  have C := fun w' => vfx_spec y m d s n w'
  cases hv : X.vf y m d s n
  · have e0 := X.cv_no hv
    rw [hv] at C
    rw [e0]
    have HC := Lib.hid C
    clear e0 C hv
    go_enter Tryz.func82, Tryz.ntmps82
    go_wp2_with fail
    refine (HC.out _).mono ?_
    rintro e w1 ⟨rfl, hb⟩
    have g1 := g0.trans (hb.mono g0.size)
    clear hb
    go_wp2_with fail
    go_ret
    exact ⟨rfl, g1⟩
  · obtain ⟨h1, h2, h3⟩ := X.vf_of hv
    have nb := M.num_bd y m d h1
    simp only [M.vld, decide_eq_true_eq] at h1
    obtain ⟨v1, v2, v3, v4⟩ := h1
    have hdm := M.dim_bd y m
    have D := fun w' => num_spec y m d w' v1 v2 ⟨v3, by omega⟩
    have V : X.cv y m d s n = if 5 ≤ M.num y m d then (M.num y m d - 5) * 86400 + X.sm s else -1 := by
      by_cases h5 : 5 ≤ M.num y m d
      · rw [if_pos h5, X.cv_in hv h5]
      · rw [if_neg h5, X.cv_low h5]
    have sb := X.sm_bd h2.1
    rw [hv] at C
    have HC := Lib.hid C
    have HD := Lib.hid D
    rw [V]
    generalize M.num y m d = U at *
    clear C D hv h3 V v1 v2 v3 v4 hdm h2
    by_cases h5 : 5 ≤ U
    · rw [if_pos h5]
      have f5 : decide (U < 5) = false := by simp; omega
      have u1 : IntKind.i64.wrap (U - 5) = U - 5 := IntWalk.i64_in _ (by omega)
      have u2 : IntKind.i64.wrap ((U - 5) * 86400) = (U - 5) * 86400 := IntWalk.i64_in _ (by omega)
      have u3 : IntKind.i64.wrap ((U - 5) * 86400 + X.sm s) = (U - 5) * 86400 + X.sm s := IntWalk.i64_in _ (by omega)
      have HU := Lib.hid (And.intro u1 (And.intro u2 u3))
      clear u1 u2 u3 sb nb h5
      go_enter Tryz.func82, Tryz.ntmps82
      go_wp2_with fail
      refine (HC.out _).mono ?_
      rintro e w1 ⟨rfl, hb⟩
      have g1 := g0.trans (hb.mono g0.size)
      have K1 := K.b hb
      clear hb K g0
      obtain ⟨c0, c1, c2, c3, c4, cl⟩ := id K1
      go_wp2_with fail
      refine (HD.out _).mono ?_
      rintro e w2 ⟨rfl, hb⟩
      have g2 := g1.trans (hb.mono g1.size)
      have K2 := K1.b hb
      clear hb K1 c0 c1 c2 c3 c4 cl g1
      obtain ⟨c0, c1, c2, c3, c4, cl⟩ := K2
      go_wp2_with fail
      refine wp_region_held_drew (S := (fun w' => Below w.heap.size w w' ∧ w.heap.size < w'.heap.size ∧ w'.cell? ⟨w.heap.size, 0, none⟩ = some (.int .i64 y) ∧ w'.cell? ⟨w.heap.size, 1, none⟩ = some (.int .i64 m) ∧ w'.cell? ⟨w.heap.size, 2, none⟩ = some (.int .i64 d) ∧ w'.cell? ⟨w.heap.size, 3, none⟩ = some (.int .i64 s) ∧ w'.cell? ⟨w.heap.size, 4, none⟩ = some (.int .i64 n))) (by kernel_rfl) (⟨g2.drew, by simpa using cl, by simpa using c0, by simpa using c1, by simpa using c2, by simpa using c3, by simpa using c4⟩) (fun hHeld => ?_)
      refine wpAnyH_take (i := 0) (v := ?_) rfl (by kernel_rfl) (by kernel_rfl) (by kernel_rfl) (fun _ _ _ h => h) (Or.inl ⟨by rfl, ?_⟩) (by assumption) ?_
      rotate_left
      · intro w hSw
        (try dsimp only at hSw)
        go_simp
        all_goals with_reducible rfl
      try simp only [Act.put, List.setIfInBounds_toArray, List.set_cons_zero, List.set_cons_succ, List.getElem_toArray, List.getElem_cons_zero]
      refine wpAnyH_take (i := 1) (v := ?_) rfl (by kernel_rfl) (by kernel_rfl) (by kernel_rfl) (fun _ _ _ h => h) (Or.inl ⟨by rfl, ?_⟩) (by assumption) ?_
      rotate_left
      · intro w hSw
        (try dsimp only at hSw)
        go_simp
        all_goals with_reducible rfl
      try simp only [Act.put, List.setIfInBounds_toArray, List.set_cons_zero, List.set_cons_succ, List.getElem_toArray, List.getElem_cons_zero, List.getElem_cons_succ]
      refine wpAnyH_take (i := 5) (v := ?_) rfl (by kernel_rfl) (by kernel_rfl) (by kernel_rfl) (fun _ _ _ h => h) (Or.inl ⟨by rfl, ?_⟩) (by assumption) ?_
      rotate_left
      · intro w hSw
        (try dsimp only at hSw)
        go_simp
        all_goals with_reducible rfl
      try simp only [Act.put, List.setIfInBounds_toArray, List.set_cons_zero, List.set_cons_succ, List.getElem_toArray, List.getElem_cons_zero, List.getElem_cons_succ]
      refine wpAnyH_take (i := 6) (v := ?_) rfl (by kernel_rfl) (by kernel_rfl) (by kernel_rfl) (fun _ _ _ h => h) (Or.inl ⟨by rfl, ?_⟩) (by assumption) ?_
      rotate_left
      · intro w hSw
        (try dsimp only at hSw)
        go_simp
        all_goals with_reducible rfl
      try simp only [Act.put, List.setIfInBounds_toArray, List.set_cons_zero, List.set_cons_succ, List.getElem_toArray, List.getElem_cons_zero, List.getElem_cons_succ]
      refine wpAnyH_take (i := 7) (v := .int .i64 (X.sm s)) rfl (by kernel_rfl) (by kernel_rfl) (by kernel_rfl) (fun _ _ _ h => h) (Or.inl ⟨by rfl, ?_⟩) (by assumption) ?_
      · intro w hSw
        go_simp
        unfold X.sm; (repeat' split) <;> omega
      try simp only [Act.put, List.setIfInBounds_toArray, List.set_cons_zero, List.set_cons_succ, List.getElem_toArray, List.getElem_cons_zero, List.getElem_cons_succ]
      refine wpAnyH_ready (rs := [2]) (by kernel_rfl) (by simp) ?_
      refine AllReadyH.cons rfl (fun K hK => ?_) AllReadyH.nil
      go_simp
      (go_at_call 103; refine (HD.out _).mono ?_; rintro e w4 ⟨rfl, hb⟩)
      refine hK.out _ _ (keepF5 hb (by assumption)) (fun hHeld => ?_)
      clear hK K
      try simp only [Act.put, List.setIfInBounds_toArray, List.set_cons_zero, List.set_cons_succ, List.getElem_toArray, List.getElem_cons_zero, List.getElem_cons_succ]
      refine wpAnyH_take (i := 3) (v := .int .i64 (U - 5)) rfl (by kernel_rfl) (by kernel_rfl) (by kernel_rfl) (fun _ _ _ h => h) (Or.inl ⟨by rfl, ?_⟩) (by assumption) ?_
      · intro w hSw
        go_simp
        exact HU.out.1
      try simp only [Act.put, List.setIfInBounds_toArray, List.set_cons_zero, List.set_cons_succ, List.getElem_toArray, List.getElem_cons_zero, List.getElem_cons_succ]
      refine wpAnyH_take (i := 4) (v := .int .i64 ((U - 5) * 86400)) rfl (by kernel_rfl) (by kernel_rfl) (by kernel_rfl) (fun _ _ _ h => h) (Or.inl ⟨by rfl, ?_⟩) (by assumption) ?_
      · intro w hSw
        go_simp
        exact HU.out.2.1
      try simp only [Act.put, List.setIfInBounds_toArray, List.set_cons_zero, List.set_cons_succ, List.getElem_toArray, List.getElem_cons_zero, List.getElem_cons_succ]
      refine wpAnyH_take (i := 8) (v := .int .i64 ((U - 5) * 86400 + X.sm s)) rfl (by kernel_rfl) (by kernel_rfl) (by kernel_rfl) (fun _ _ _ h => h) (Or.inl ⟨by rfl, ?_⟩) (by assumption) ?_
      · intro w hSw
        go_simp
        exact HU.out.2.2
      try simp only [Act.put, List.setIfInBounds_toArray, List.set_cons_zero, List.set_cons_succ, List.getElem_toArray, List.getElem_cons_zero, List.getElem_cons_succ]
      refine wpAnyH_take (i := 9) (v := ?_) rfl (by kernel_rfl) (by kernel_rfl) (by kernel_rfl) (fun _ _ _ h => h) (Or.inl ⟨by rfl, ?_⟩) (by assumption) ?_
      rotate_left
      · intro w hSw
        (try dsimp only at hSw)
        go_simp
        all_goals with_reducible rfl
      try simp only [Act.put, List.setIfInBounds_toArray, List.set_cons_zero, List.set_cons_succ, List.getElem_toArray, List.getElem_cons_zero, List.getElem_cons_succ]
      refine wpAnyH_done (by kernel_rfl) ?_ _
      go_wp2
      go_ret
      exact ⟨rfl, hHeld.1⟩
    · rw [if_neg h5]
      have f5 : decide (U < 5) = true := by simp; omega
      clear h5 sb nb
      go_enter Tryz.func82, Tryz.ntmps82
      go_wp2_with fail
      refine (HC.out _).mono ?_
      rintro e w1 ⟨rfl, hb⟩
      have g1 := g0.trans (hb.mono g0.size)
      have K1 := K.b hb
      obtain ⟨c0, c1, c2, c3, c4, cl⟩ := K1
      clear hb K g0
      go_wp2_with fail
      refine (HD.out _).mono ?_
      rintro e w2 ⟨rfl, hb⟩
      have g2 := g1.trans (hb.mono g1.size)
      clear hb c0 c1 c2 c3 c4
      go_wp2_with fail
      go_ret
      exact ⟨rfl, g2⟩
set_option maxHeartbeats 1000000 in
theorem fx_impl (t n : Int) (w : World) : Calls Tryz.prog 12 #[.int .i64 t, .int .i64 n] w fun e w' => e = .returned (.agg #[.int .i64 (X.fy t n), .int .i64 (X.fm t n), .int .i64 (X.fd t n), .int .i64 (X.fs t n), .int .i64 (X.fn t n)]) ∧ Below w.heap.size w w' := by
  have g0 : Below w.heap.size w (w.alloc (.cells #[.int .i64 0, .int .i64 0, .int .i64 0, .int .i64 0, .int .i64 0] 31)) := (Below.refl _ _).alloc (Nat.le_refl _) _
  rcases inR_cases t 0 3786479999 with ⟨h0, a0⟩ | ⟨h0, a0⟩
  · rcases inR_cases n 0 32 with ⟨h1, a1⟩ | ⟨h1, a1⟩
    · obtain ⟨e1, e2, e3, e4, e5⟩ := X.f_in (X.fok_mk a0 a1)
      rw [e1, e2, e3, e4, e5]
      have D := fun w' => dateOf_impl (5 + t / 86400) w'
      have HD := Lib.hid D
      generalize M.dtY (5 + t / 86400) = Y at *
      generalize M.dtM (5 + t / 86400) = Mo at *
      generalize M.dtD (5 + t / 86400) = Da at *
      have K := C5.new w 0 0 0 0 0 31
      clear D e1 e2 e3 e4 e5
      go_enter Tryz.func12, Tryz.ntmps12
      go_wp2_with (first |  (go_at_call 33; refine (inR_impl _ _ _ _).mono ?_; rintro e w' ⟨rfl, rfl⟩))
      refine (HD.out _).mono ?_
      rintro e w1 ⟨rfl, hb⟩
      have hlt : w.heap.size < (w.alloc (Obj.cells #[.int .i64 0, .int .i64 0, .int .i64 0, .int .i64 0, .int .i64 0] 31)).heap.size := by simp
      obtain ⟨c0, c1, c2, c3, c4, cl⟩ := K.b hb
      have f0 : w1.frozen? ⟨w.heap.size, 0, none⟩ = false := (hb.frozen (p := ⟨w.heap.size, 0, none⟩) hlt).trans (by simp)
      have f1 : w1.frozen? ⟨w.heap.size, 1, none⟩ = false := (hb.frozen (p := ⟨w.heap.size, 1, none⟩) hlt).trans (by simp)
      have f2 : w1.frozen? ⟨w.heap.size, 2, none⟩ = false := (hb.frozen (p := ⟨w.heap.size, 2, none⟩) hlt).trans (by simp)
      have f3 : w1.frozen? ⟨w.heap.size, 3, none⟩ = false := (hb.frozen (p := ⟨w.heap.size, 3, none⟩) hlt).trans (by simp)
      have f4 : w1.frozen? ⟨w.heap.size, 4, none⟩ = false := (hb.frozen (p := ⟨w.heap.size, 4, none⟩) hlt).trans (by simp)
      have g1 := g0.trans (hb.mono g0.size)
      clear hb K g0 hlt
      go_wp2
      refine bodyPost_ret (v := .agg #[.int .i64 Y, .int .i64 Mo, .int .i64 Da, .int .i64 (t % 86400), .int .i64 n]) (by simp [results, Tryz.results12, go_sem, c0, c1, c2, c3, c4]) rfl ⟨rfl, ?_⟩
      exact ((((g1.setCell (Nat.le_refl _) _).setCell (Nat.le_refl _) _).setCell (Nat.le_refl _) _).setCell (Nat.le_refl _) _).setCell (Nat.le_refl _) _
    · obtain ⟨e1, e2, e3, e4, e5⟩ := X.f_out (X.fok_no (t := t) (n := n) (fun h => a1 h.2))
      rw [e1, e2, e3, e4, e5]
      clear e1 e2 e3 e4 e5
      go_enter Tryz.func12, Tryz.ntmps12
      go_wp2_with (first |  (go_at_call 33; refine (inR_impl _ _ _ _).mono ?_; rintro e w' ⟨rfl, rfl⟩))
      exact bodyPost_ret (v := .agg #[.int .i64 0, .int .i64 0, .int .i64 0, .int .i64 0, .int .i64 0]) (by simp [results, Tryz.results12, go_sem]) rfl ⟨rfl, g0⟩
  · obtain ⟨e1, e2, e3, e4, e5⟩ := X.f_out (X.fok_no (t := t) (n := n) (fun h => a0 h.1))
    rw [e1, e2, e3, e4, e5]
    clear e1 e2 e3 e4 e5
    go_enter Tryz.func12, Tryz.ntmps12
    go_wp2_with (first |  (go_at_call 33; refine (inR_impl _ _ _ _).mono ?_; rintro e w' ⟨rfl, rfl⟩))
    exact bodyPost_ret (v := .agg #[.int .i64 0, .int .i64 0, .int .i64 0, .int .i64 0, .int .i64 0]) (by simp [results, Tryz.results12, go_sem]) rfl ⟨rfl, g0⟩
theorem vtime_spec (t : Int) (w : World) : Calls Tryz.prog 38 #[.int .i64 t] w fun e w' => e = .returned (.bool (inR t 0 3786479999)) ∧ w = w' := by
  go_enter Tryz.func38, Tryz.ntmps38
  go_wp2_with (go_at_call 39; refine (inR_spec _ _ _ _).mono ?_; rintro e w' ⟨rfl, rfl⟩)
  all_goals
    go_ret
    exact ⟨ret_bool (by simp_all), rfl⟩
set_option maxHeartbeats 1000000 in
theorem fx_spec (t n : Int) (w : World) : Calls Tryz.prog 20 #[.int .i64 t, .int .i64 n] w fun e w' => e = .returned (.agg #[.int .i64 (X.fy t n), .int .i64 (X.fm t n), .int .i64 (X.fd t n), .int .i64 (X.fs t n), .int .i64 (X.fn t n)]) ∧ Below w.heap.size w w' := by
  have g0 : Below w.heap.size w (w.alloc (.cells #[.int .i64 0, .int .i64 0, .int .i64 0, .int .i64 0, .int .i64 0] 31)) := (Below.refl _ _).alloc (Nat.le_refl _) _
  rcases inR_cases t 0 3786479999 with ⟨h0, a0⟩ | ⟨h0, a0⟩
  · rcases inR_cases n 0 32 with ⟨h1, a1⟩ | ⟨h1, a1⟩
    · obtain ⟨e1, e2, e3, e4, e5⟩ := X.f_in (X.fok_mk a0 a1)
      rw [e1, e2, e3, e4, e5]
      have D := fun w' => dateOf_spec (5 + t / 86400) w'
      have HD := Lib.hid D
      generalize M.dtY (5 + t / 86400) = Y at *
      generalize M.dtM (5 + t / 86400) = Mo at *
      generalize M.dtD (5 + t / 86400) = Da at *
      have K := C5.new w 0 0 0 0 0 31
      clear D e1 e2 e3 e4 e5
      go_enter Tryz.func20, Tryz.ntmps20
      go_wp2_with (first | (go_at_call 38; refine (vtime_spec _ _).mono ?_; rintro e w' ⟨rfl, rfl⟩) | (go_at_call 39; refine (inR_spec _ _ _ _).mono ?_; rintro e w' ⟨rfl, rfl⟩))
      refine (HD.out _).mono ?_
      rintro e w1 ⟨rfl, hb⟩
      have hlt : w.heap.size < (w.alloc (Obj.cells #[.int .i64 0, .int .i64 0, .int .i64 0, .int .i64 0, .int .i64 0] 31)).heap.size := by simp
      obtain ⟨c0, c1, c2, c3, c4, cl⟩ := K.b hb
      have f0 : w1.frozen? ⟨w.heap.size, 0, none⟩ = false := (hb.frozen (p := ⟨w.heap.size, 0, none⟩) hlt).trans (by simp)
      have f1 : w1.frozen? ⟨w.heap.size, 1, none⟩ = false := (hb.frozen (p := ⟨w.heap.size, 1, none⟩) hlt).trans (by simp)
      have f2 : w1.frozen? ⟨w.heap.size, 2, none⟩ = false := (hb.frozen (p := ⟨w.heap.size, 2, none⟩) hlt).trans (by simp)
      have f3 : w1.frozen? ⟨w.heap.size, 3, none⟩ = false := (hb.frozen (p := ⟨w.heap.size, 3, none⟩) hlt).trans (by simp)
      have f4 : w1.frozen? ⟨w.heap.size, 4, none⟩ = false := (hb.frozen (p := ⟨w.heap.size, 4, none⟩) hlt).trans (by simp)
      have g1 := g0.trans (hb.mono g0.size)
      clear hb K g0 hlt
      go_wp2
      refine bodyPost_ret (v := .agg #[.int .i64 Y, .int .i64 Mo, .int .i64 Da, .int .i64 (t % 86400), .int .i64 n]) (by simp [results, Tryz.results20, go_sem, c0, c1, c2, c3, c4]) rfl ⟨rfl, ?_⟩
      exact ((((g1.setCell (Nat.le_refl _) _).setCell (Nat.le_refl _) _).setCell (Nat.le_refl _) _).setCell (Nat.le_refl _) _).setCell (Nat.le_refl _) _
    · obtain ⟨e1, e2, e3, e4, e5⟩ := X.f_out (X.fok_no (t := t) (n := n) (fun h => a1 h.2))
      rw [e1, e2, e3, e4, e5]
      clear e1 e2 e3 e4 e5
      go_enter Tryz.func20, Tryz.ntmps20
      go_wp2_with (first | (go_at_call 38; refine (vtime_spec _ _).mono ?_; rintro e w' ⟨rfl, rfl⟩) | (go_at_call 39; refine (inR_spec _ _ _ _).mono ?_; rintro e w' ⟨rfl, rfl⟩))
      exact bodyPost_ret (v := .agg #[.int .i64 0, .int .i64 0, .int .i64 0, .int .i64 0, .int .i64 0]) (by simp [results, Tryz.results20, go_sem]) rfl ⟨rfl, g0⟩
  · obtain ⟨e1, e2, e3, e4, e5⟩ := X.f_out (X.fok_no (t := t) (n := n) (fun h => a0 h.1))
    rw [e1, e2, e3, e4, e5]
    clear e1 e2 e3 e4 e5
    go_enter Tryz.func20, Tryz.ntmps20
    go_wp2_with (first | (go_at_call 38; refine (vtime_spec _ _).mono ?_; rintro e w' ⟨rfl, rfl⟩) | (go_at_call 39; refine (inR_spec _ _ _ _).mono ?_; rintro e w' ⟨rfl, rfl⟩))
    exact bodyPost_ret (v := .agg #[.int .i64 0, .int .i64 0, .int .i64 0, .int .i64 0, .int .i64 0]) (by simp [results, Tryz.results20, go_sem]) rfl ⟨rfl, g0⟩
end Go.Proofs.YtpfdjmffgbbmdaaGreatDoor
