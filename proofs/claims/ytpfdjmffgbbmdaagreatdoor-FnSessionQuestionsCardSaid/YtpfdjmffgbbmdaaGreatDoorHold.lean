/-
  Holdover (chapter 9): valid states, the error at a time, levels, until when a clock holds, satellites seen again; the program's and the model's functions.
-/
import Derived.Test.YtpfdjmffgbbmdaaGreatDoorClock
import Derived.Test.YtpfdjmffgbbmdaaGreatDoorP1
namespace Go.Proofs.YtpfdjmffgbbmdaaGreatDoor
open Go.RowKit
set_option linter.unusedVariables false
set_option maxRecDepth 100000
theorem vs_impl (x y z : Int) (w : World) : Calls Tryz.prog 117 #[.agg #[.int .i64 x, .int .i64 y, .int .i64 z]] w fun e w' => e = .returned (.bool (H.vs x y z)) ∧ Below w.heap.size w w' := by
  rcases inR_cases x 0 1000000 with ⟨a0, a1⟩ | ⟨a0, a1⟩ <;> rcases inR_cases y 0 1000 with ⟨b0, b1⟩ | ⟨b0, b1⟩ <;> rcases inR_cases z 0 3786479999 with ⟨c0, c1⟩ | ⟨c0, c1⟩
  all_goals
    have HV := Lib.hid (show H.vs x y z = _ by first | exact H.vs_yes ⟨a1, b1, c1⟩ | exact H.vs_no (fun h => a1 h.1) | exact H.vs_no (fun h => b1 h.2.1) | exact H.vs_no (fun h => c1 h.2.2))
    clear a1 b1 c1
    go_enter Tryz.func117, Tryz.ntmps117
    go_wp2_with (go_at_call 33; refine (inR_impl _ _ _ _).mono ?_; rintro e w' ⟨rfl, rfl⟩)
    go_ret
    exact ⟨ret_bool HV.out.symm, (Below.refl _ _).alloc (Nat.le_refl _) _⟩
theorem vs_spec (x y z : Int) (w : World) : Calls Tryz.prog 107 #[.agg #[.int .i64 x, .int .i64 y, .int .i64 z]] w fun e w' => e = .returned (.bool (H.vs x y z)) ∧ Below w.heap.size w w' := by
  rcases inR_cases x 0 1000000 with ⟨a0, a1⟩ | ⟨a0, a1⟩ <;> rcases inR_cases y 0 1000 with ⟨b0, b1⟩ | ⟨b0, b1⟩ <;> rcases inR_cases z 0 3786479999 with ⟨c0, c1⟩ | ⟨c0, c1⟩
  all_goals
    have HV := Lib.hid (show H.vs x y z = _ by first | exact H.vs_yes ⟨a1, b1, c1⟩ | exact H.vs_no (fun h => a1 h.1) | exact H.vs_no (fun h => b1 h.2.1) | exact H.vs_no (fun h => c1 h.2.2))
    clear a1 b1 c1
    go_enter Tryz.func107, Tryz.ntmps107
    go_wp2_with (go_at_call 39; refine (inR_spec _ _ _ _).mono ?_; rintro e w' ⟨rfl, rfl⟩)
    go_ret
    exact ⟨ret_bool HV.out.symm, (Below.refl _ _).alloc (Nat.le_refl _) _⟩
theorem er_spec (x y z t : Int) (h : H.ok x y z t = true) (w : World) : Calls Tryz.prog 108 #[.agg #[.int .i64 x, .int .i64 y, .int .i64 z], .int .i64 t] w fun e w' => e = .returned (.int .i64 (H.er x y z t)) ∧ Below w.heap.size w w' := by
  obtain ⟨hv, h1, h2⟩ := H.ok_of h
  have hv := H.vs_of hv
  have hm := H.mul_in (w := y) (d := t - z) hv.2.1 (by omega)
  have e1 : IntKind.i64.wrap (t - z) = t - z := IntWalk.i64_in _ (by omega)
  have e2 : IntKind.i64.wrap (y * (t - z)) = y * (t - z) := IntWalk.i64_in _ (by omega)
  have e3 : IntKind.i64.wrap (x + y * (t - z)) = x + y * (t - z) := IntWalk.i64_in _ (by omega)
  have HM := Lib.hid hm
  clear hm h
  go_enter Tryz.func108, Tryz.ntmps108
  go_wp2
  all_goals
    go_ret
    exact ⟨ret_int (by have := HM.out; unfold H.er; omega), (Below.refl _ _).alloc (Nat.le_refl _) _⟩
theorem keepH {w w1 w2 : World} {D : Nat} {x y z : Int} (hC : C3 w1 D x y z) (bA : Below w.heap.size w w1) (b : Below w1.heap.size w1 w2) : C3 w2 D x y z ∧ Below w.heap.size w w2 := ⟨hC.b b, bA.trans (b.mono bA.size)⟩
set_option maxHeartbeats 1000000 in
theorem EA_impl (x y z t : Int) (w : World) : Calls Tryz.prog 94 #[.agg #[.int .i64 x, .int .i64 y, .int .i64 z], .int .i64 t] w fun e w' => e = .returned (.int .i64 (H.ea x y z t)) ∧ Below w.heap.size w w' := by
  have bA := (Below.refl w.heap.size w).alloc (Nat.le_refl _) (.cells #[.int .i64 x, .int .i64 y, .int .i64 z] 44)
  have xA := C3.new w x y z 44
  rcases hv : H.vs x y z with _ | _
  · have HT := Lib.hid (H.ea_no (H.ok_no (t := t) (fun h => by rw [hv] at h; exact absurd h.1 (by decide))))
    have k1 := fun w' => vs_impl x y z w'
    simp only [hv] at k1
    clear hv
    go_enter Tryz.func94, Tryz.ntmps94
    go_wp2_with fail
    refine (k1 _).mono ?_
    rintro e w1 ⟨rfl, b1⟩
    have b2 := bA.trans (b1.mono bA.size)
    clear bA b1 xA
    go_wp2
    go_ret
    exact ⟨by rw [HT.out]; first | done | rfl, b2⟩
  · have hv' := H.vs_of hv
    have k1 := fun w' => vs_impl x y z w'
    simp only [hv] at k1
    rcases inR_cases t z 3786479999 with ⟨c0, c1⟩ | ⟨c0, c1⟩
    · have HT := Lib.hid (H.ea_yes (H.ok_yes ⟨hv, c1⟩))
      have hm := H.mul_in (w := y) (d := t - z) hv'.2.1 (by omega)
      have e1 : IntKind.i64.wrap (t - z) = t - z := IntWalk.i64_in _ (by omega)
      have e2 : IntKind.i64.wrap (y * (t - z)) = y * (t - z) := IntWalk.i64_in _ (by omega)
      have e3 : IntKind.i64.wrap (x + y * (t - z)) = x + y * (t - z) := IntWalk.i64_in _ (by omega)
      have HM := Lib.hid hm
      clear hv hm
      go_enter Tryz.func94, Tryz.ntmps94
      go_wp2_with fail
      refine (k1 _).mono ?_
      rintro e w1 ⟨rfl, b1⟩
      have b2 := bA.trans (b1.mono bA.size)
      have x1 := xA.b b1
      have d0 := x1.c0
      have d1 := x1.c1
      have d2 := x1.c2
      clear bA b1 xA k1 x1
      generalize w.heap.size = D at d0 d1 d2 ⊢
      go_wp2_with (go_at_call 33; refine (inR_impl _ _ _ _).mono ?_; rintro e w' ⟨rfl, rfl⟩)
      all_goals
        go_ret
        exact ⟨by rw [HT.out]; exact ret_int (by have := HM.out; unfold H.er; omega), b2⟩
    · have HT := Lib.hid (H.ea_no (H.ok_no (e := x) (w := y) (s := z) (t := t) (fun h => c1 h.2)))
      clear hv
      go_enter Tryz.func94, Tryz.ntmps94
      go_wp2_with fail
      refine (k1 _).mono ?_
      rintro e w1 ⟨rfl, b1⟩
      have b2 := bA.trans (b1.mono bA.size)
      have x1 := xA.b b1
      have d0 := x1.c0
      have d1 := x1.c1
      have d2 := x1.c2
      clear bA b1 xA k1 x1
      generalize w.heap.size = D at d0 d1 d2 ⊢
      go_wp2_with (go_at_call 33; refine (inR_impl _ _ _ _).mono ?_; rintro e w' ⟨rfl, rfl⟩)
      go_ret
      exact ⟨by rw [HT.out]; first | done | rfl, b2⟩
set_option maxHeartbeats 1000000 in
theorem EA_spec (x y z t : Int) (w : World) : Calls Tryz.prog 86 #[.agg #[.int .i64 x, .int .i64 y, .int .i64 z], .int .i64 t] w fun e w' => e = .returned (.int .i64 (H.ea x y z t)) ∧ Below w.heap.size w w' := by
  have bA := (Below.refl w.heap.size w).alloc (Nat.le_refl _) (.cells #[.int .i64 x, .int .i64 y, .int .i64 z] 44)
  have xA := C3.new w x y z 44
  have k1 := fun w' => vs_spec x y z w'
  rcases hv : H.vs x y z with _ | _
  · have HT := Lib.hid (H.ea_no (H.ok_no (t := t) (fun h => by rw [hv] at h; exact absurd h.1 (by decide))))
    simp only [hv] at k1
    clear hv
    go_enter Tryz.func86, Tryz.ntmps86
    go_wp2_with fail
    refine (k1 _).mono ?_
    rintro e w1 ⟨rfl, b1⟩
    have b2 := bA.trans (b1.mono bA.size)
    clear bA b1 xA
    go_wp2
    go_ret
    exact ⟨by rw [HT.out]; first | done | rfl, b2⟩
  · have hv' := H.vs_of hv
    simp only [hv] at k1
    rcases inR_cases t z 3786479999 with ⟨c0, c1⟩ | ⟨c0, c1⟩
    · have HT := Lib.hid (H.ea_yes (H.ok_yes ⟨hv, c1⟩))
      have k2 := Lib.hid (fun w' => er_spec x y z t (H.ok_yes ⟨hv, c1⟩) w')
      clear hv
      go_enter Tryz.func86, Tryz.ntmps86
      go_wp2_with fail
      refine (k1 _).mono ?_
      rintro e w1 ⟨rfl, b1⟩
      have b2 := bA.trans (b1.mono bA.size)
      have x1 := xA.b b1
      have d0 := x1.c0
      have d1 := x1.c1
      have d2 := x1.c2
      have hs := b2.size
      clear bA b1 xA k1 x1
      generalize w.heap.size = D at d0 d1 d2 ⊢
      go_wp2_with (go_at_call 39; refine (inR_spec _ _ _ _).mono ?_; rintro e w' ⟨rfl, rfl⟩)
      refine (k2.out _).mono ?_
      rintro e w3 ⟨rfl, b3⟩
      have b4 := b2.trans (b3.mono hs)
      clear b3 b2
      go_wp2
      go_ret
      exact ⟨by rw [HT.out]; first | done | rfl, b4⟩
    · have HT := Lib.hid (H.ea_no (H.ok_no (e := x) (w := y) (s := z) (t := t) (fun h => c1 h.2)))
      clear hv
      go_enter Tryz.func86, Tryz.ntmps86
      go_wp2_with fail
      refine (k1 _).mono ?_
      rintro e w1 ⟨rfl, b1⟩
      have b2 := bA.trans (b1.mono bA.size)
      have x1 := xA.b b1
      have d0 := x1.c0
      have d1 := x1.c1
      have d2 := x1.c2
      clear bA b1 xA k1 x1
      generalize w.heap.size = D at d0 d1 d2 ⊢
      go_wp2_with (go_at_call 39; refine (inR_spec _ _ _ _).mono ?_; rintro e w' ⟨rfl, rfl⟩)
      go_ret
      exact ⟨by rw [HT.out]; first | done | rfl, b2⟩
set_option maxHeartbeats 1000000 in
theorem LA_impl (x y z t : Int) (w : World) : Calls Tryz.prog 98 #[.agg #[.int .i64 x, .int .i64 y, .int .i64 z], .int .i64 t] w fun e w' => e = .returned (.int .i64 (H.la x y z t)) ∧ Below w.heap.size w w' := by
  have bA := (Below.refl w.heap.size w).alloc (Nat.le_refl _) (.cells #[.int .i64 x, .int .i64 y, .int .i64 z] 44)
  have xA := C3.new w x y z 44
  have k1 := fun w' => EA_impl x y z t w'
  rcases hv : H.ok x y z t with _ | _
  · have HT := Lib.hid (H.la_no hv)
    simp only [H.ea_no hv] at k1
    clear hv
    go_enter Tryz.func98, Tryz.ntmps98
    go_wp2_with fail
    refine (k1 _).mono ?_
    rintro e w1 ⟨rfl, b1⟩
    have b2 := bA.trans (b1.mono bA.size)
    clear bA b1 xA
    go_wp2
    go_ret
    exact ⟨by rw [HT.out]; first | done | rfl, b2⟩
  · have HT := Lib.hid (show H.la x y z t = if t - z ≤ 60 ∧ H.er x y z t ≤ 1000 then 2 else if H.er x y z t ≤ 100000 then 1 else 0 from H.la_yes hv)
    have hb := H.er_bd hv
    have ho := H.ok_of hv
    have hvv := H.vs_of ho.1
    simp only [H.ea_yes hv] at k1
    have e1 : IntKind.i64.wrap (t - z) = t - z := IntWalk.i64_in _ (by omega)
    clear hv
    generalize H.er x y z t = n at *
    by_cases h1 : t - z ≤ 60 <;> by_cases h2 : n ≤ 1000 <;> by_cases h3 : n ≤ 100000
    all_goals
      (first | (exfalso; omega; done) | skip)
    all_goals
      have h0 : decide (n < 0) = false := decide_eq_false (by omega)
      have HN := Lib.hid (And.intro h1 (And.intro h2 h3))
      (first | have g1 : decide (t - z ≤ 60) = true := decide_eq_true h1 | have g1 : decide (t - z ≤ 60) = false := decide_eq_false h1)
      (first | have g2 : decide (n ≤ 1000) = true := decide_eq_true h2 | have g2 : decide (n ≤ 1000) = false := decide_eq_false h2)
      (first | have g3 : decide (n ≤ 100000) = true := decide_eq_true h3 | have g3 : decide (n ≤ 100000) = false := decide_eq_false h3)
      clear ho hvv hb h1 h2 h3
      go_enter Tryz.func98, Tryz.ntmps98
      go_wp2_with fail
      refine (k1 _).mono ?_
      rintro e w1 ⟨rfl, b1⟩
      have b2 := bA.trans (b1.mono bA.size)
      have x1 := xA.b b1
      have d0 := x1.c0
      have d1 := x1.c1
      have d2 := x1.c2
      clear bA b1 xA k1 x1
      generalize w.heap.size = D at d0 d1 d2 ⊢
      go_wp2
      go_ret
      exact ⟨by rw [HT.out]; exact ret_int (by have := HN.out; repeat (first | omega | split)), b2⟩
set_option maxHeartbeats 1000000 in
theorem LA_spec (x y z t : Int) (w : World) : Calls Tryz.prog 54 #[.agg #[.int .i64 x, .int .i64 y, .int .i64 z], .int .i64 t] w fun e w' => e = .returned (.int .i64 (H.la x y z t)) ∧ Below w.heap.size w w' := by
  have bA := (Below.refl w.heap.size w).alloc (Nat.le_refl _) (.cells #[.int .i64 x, .int .i64 y, .int .i64 z] 44)
  have xA := C3.new w x y z 44
  have k1 := fun w' => EA_spec x y z t w'
  rcases hv : H.ok x y z t with _ | _
  · have HT := Lib.hid (H.la_no hv)
    simp only [H.ea_no hv] at k1
    clear hv
    go_enter Tryz.func54, Tryz.ntmps54
    go_wp2_with fail
    refine (k1 _).mono ?_
    rintro e w1 ⟨rfl, b1⟩
    have b2 := bA.trans (b1.mono bA.size)
    clear bA b1 xA
    go_wp2
    go_ret
    exact ⟨by rw [HT.out]; first | done | rfl, b2⟩
  · have HT := Lib.hid (show H.la x y z t = if t - z ≤ 60 ∧ H.er x y z t ≤ 1000 then 2 else if H.er x y z t ≤ 100000 then 1 else 0 from H.la_yes hv)
    have hb := H.er_bd hv
    have ho := H.ok_of hv
    have hvv := H.vs_of ho.1
    simp only [H.ea_yes hv] at k1
    have e1 : IntKind.i64.wrap (t - z) = t - z := IntWalk.i64_in _ (by omega)
    clear hv
    generalize H.er x y z t = n at *
    by_cases h1 : t - z ≤ 60 <;> by_cases h2 : n ≤ 1000 <;> by_cases h3 : n ≤ 100000
    all_goals
      (first | (exfalso; omega; done) | skip)
    all_goals
      have h0 : decide (n < 0) = false := decide_eq_false (by omega)
      have HN := Lib.hid (And.intro h1 (And.intro h2 h3))
      (first | have g1 : decide (t - z ≤ 60) = true := decide_eq_true h1 | have g1 : decide (t - z ≤ 60) = false := decide_eq_false h1)
      (first | have g2 : decide (n ≤ 1000) = true := decide_eq_true h2 | have g2 : decide (n ≤ 1000) = false := decide_eq_false h2)
      (first | have g3 : decide (n ≤ 100000) = true := decide_eq_true h3 | have g3 : decide (n ≤ 100000) = false := decide_eq_false h3)
      clear ho hvv hb h1 h2 h3
      go_enter Tryz.func54, Tryz.ntmps54
      go_wp2_with fail
      refine (k1 _).mono ?_
      rintro e w1 ⟨rfl, b1⟩
      have b2 := bA.trans (b1.mono bA.size)
      have x1 := xA.b b1
      have d0 := x1.c0
      have d1 := x1.c1
      have d2 := x1.c2
      clear bA b1 xA k1 x1
      generalize w.heap.size = D at d0 d1 d2 ⊢
      go_wp2
      go_ret
      exact ⟨by rw [HT.out]; exact ret_int (by have := HN.out; repeat (first | omega | split)), b2⟩
end Go.Proofs.YtpfdjmffgbbmdaaGreatDoor
