/-
  Holdover (chapter 9): until when a clock holds, satellites seen again; the program's and the model's functions.
-/
import Derived.Test.YtinckfakmipmlaaHold
namespace Go.Proofs.Ytinckfakmipmlaa
open Go.RowKit
set_option linter.unusedVariables false
set_option maxRecDepth 100000
theorem three_belowH {w w1 : World} {x y z : Value} {u v q : Value} {t t' : TypeId} (b : Below ((w.alloc (Obj.cells #[x, y, z] t')).alloc (Obj.cells #[u, v, q] t)).heap.size ((w.alloc (Obj.cells #[x, y, z] t')).alloc (Obj.cells #[u, v, q] t)) w1) : (w1.cell? ⟨w.heap.size + 1, 0, none⟩ = some u ∧ w1.cell? ⟨w.heap.size + 1, 1, none⟩ = some v ∧ w1.cell? ⟨w.heap.size + 1, 2, none⟩ = some q) ∧ (w1.frozen? ⟨w.heap.size + 1, 0, none⟩ = false ∧ w1.frozen? ⟨w.heap.size + 1, 1, none⟩ = false ∧ w1.frozen? ⟨w.heap.size + 1, 2, none⟩ = false) := by
  have L : ∀ o, (⟨w.heap.size + 1, o, none⟩ : Addr).block < ((w.alloc (Obj.cells #[x, y, z] t')).alloc (Obj.cells #[u, v, q] t)).heap.size := fun o => by simp
  have N : ∀ o, ((w.alloc (Obj.cells #[x, y, z] t')).alloc (Obj.cells #[u, v, q] t)).cell? ⟨w.heap.size + 1, o, none⟩ = #[u, v, q][o]? := fun o => by
    have := World.cell?_alloc_new (w.alloc (Obj.cells #[x, y, z] t')) #[u, v, q] t o
    rw [World.size_alloc] at this
    exact this
  exact ⟨⟨(b.cell (L 0)).trans (N 0), (b.cell (L 1)).trans (N 1), (b.cell (L 2)).trans (N 2)⟩, (b.frozen (L 0)).trans (by simp), (b.frozen (L 1)).trans (by simp), (b.frozen (L 2)).trans (by simp)⟩
set_option maxHeartbeats 2000000 in
theorem HU_impl (x y z : Int) (w : World) : Calls Try.prog 26 #[.agg #[.int .i64 x, .int .i64 y, .int .i64 z]] w fun e w' => e = .returned (.int .i64 (H.hu x y z)) ∧ Below w.heap.size w w' := by
  have bA := (Below.refl w.heap.size w).alloc (Nat.le_refl _) (.cells #[.int .i64 x, .int .i64 y, .int .i64 z] 24)
  have xA := C3.new w x y z 24
  have k1 := fun w' => vs_impl x y z w'
  rcases hv : H.vs x y z with _ | _
  · have HT := Lib.hid (H.hu_no (H.hk_no (fun h => by rw [hv] at h; exact absurd h.1 (by decide))))
    simp only [hv] at k1
    clear hv
    go_enter Try.func26, Try.ntmps26
    go_wp2_with fail
    refine (k1 _).mono ?_
    rintro e w1 ⟨rfl, b1⟩
    have b2 := bA.trans (b1.mono bA.size)
    clear bA b1 xA
    go_wp2
    go_ret
    exact ⟨by rw [HT.out]; first | done | rfl, b2⟩
  · have hv' := H.vs_of hv
    simp only [hv] at k1
    by_cases hx : x ≤ 100000
    · have HT := Lib.hid (show H.hu x y z = if y = 0 then 3786479999 else min (z + (100000 - x) / y) 3786479999 from H.hu_yes (H.hk_yes ⟨hv, hx⟩))
      have g1 : decide (100000 < x) = false := decide_eq_false (by omega)
      by_cases hy : y = 0
      · subst hy
        clear hv hx
        go_enter Try.func26, Try.ntmps26
        go_wp2_with fail
        refine (k1 _).mono ?_
        rintro e w1 ⟨rfl, b1⟩
        have b2 := bA.trans (b1.mono bA.size)
        have x1 := xA.b b1
        have d0 := x1.c0
        have d1 := x1.c1
        have d2 := x1.c2
        clear bA b1 xA k1 x1
        generalize w.heap.size = D at d0 d1 d2 ⊢
        go_wp2
        go_ret
        exact ⟨by rw [HT.out]; first | done | rfl, b2⟩
      · have hq := H.quo (e := x) (w := y) (by omega) (by omega)
        have e1 : IntKind.i64.wrap (100000 - x) = 100000 - x := IntWalk.i64_in _ (by omega)
        have e0 : (100000 - x).tdiv y = (100000 - x) / y := Int.tdiv_eq_ediv_of_nonneg (by omega)
        have e2 : IntKind.i64.wrap ((100000 - x).tdiv y) = (100000 - x) / y := by rw [e0]; exact IntWalk.i64_in _ (by omega)
        have e3 : IntKind.i64.wrap (z + (100000 - x) / y) = z + (100000 - x) / y := IntWalk.i64_in _ (by omega)
        have g2 : (y == 0) = false := by rw [beq_eq_false_iff_ne]; exact hy
        clear hv hx
        go_enter Try.func26, Try.ntmps26
        go_wp2_with fail
        refine (k1 _).mono ?_
        rintro e w1 ⟨rfl, b1⟩
        have b2 := bA.trans (b1.mono bA.size)
        have x1 := xA.b b1
        have d0 := x1.c0
        have d1 := x1.c1
        have d2 := x1.c2
        clear bA b1 xA k1 x1
        generalize w.heap.size = D at d0 d1 d2 ⊢
        go_wp2_with fail
        go_region
        all_goals go_wp2
        all_goals
          go_ret
          exact ⟨by rw [HT.out]; exact ret_int (by rw [if_neg hy]; omega), b2.drew⟩
    · have HT := Lib.hid (H.hu_no (H.hk_no (e := x) (w := y) (s := z) (fun h => hx h.2)))
      have g1 : decide (100000 < x) = true := decide_eq_true (by omega)
      clear hv hx
      go_enter Try.func26, Try.ntmps26
      go_wp2_with fail
      refine (k1 _).mono ?_
      rintro e w1 ⟨rfl, b1⟩
      have b2 := bA.trans (b1.mono bA.size)
      have x1 := xA.b b1
      have d0 := x1.c0
      have d1 := x1.c1
      have d2 := x1.c2
      clear bA b1 xA k1 x1
      generalize w.heap.size = D at d0 d1 d2 ⊢
      go_wp2
      go_ret
      exact ⟨by rw [HT.out]; first | done | rfl, b2⟩
set_option maxHeartbeats 4000000 in
theorem SA_impl (x y z t u : Int) (w : World) : Calls Try.prog 23 #[.agg #[.int .i64 x, .int .i64 y, .int .i64 z], .int .i64 t, .int .i64 u] w fun e w' =>
    e = .returned (.tuple #[.agg #[.int .i64 (H.se x y z t u), .int .i64 (H.sw x y z t u), .int .i64 (H.ss x y z t u)], .bool (H.sk x y z t u)]) ∧ Below w.heap.size w w' := by
  have k1 := fun w' => EA_impl x y z t w'
  have bA : Below w.heap.size w ((w.alloc (Obj.cells #[.int .i64 x, .int .i64 y, .int .i64 z] 24)).alloc (Obj.cells #[.int .i64 0, .int .i64 0, .int .i64 0] 24)) := ((Below.refl _ _).alloc (Nat.le_refl _) _).alloc (by simp) _
  have xA := (C3.new w x y z 24).al (Obj.cells #[.int .i64 0, .int .i64 0, .int .i64 0] 24)
  rcases ht : H.ok x y z t with _ | _
  · have hk : H.sk x y z t u = false := H.sk_no (fun h => by rw [ht] at h; cases h.1)
    obtain ⟨y0, y1, y2⟩ := H.s_no hk
    rw [y0, y1, y2, hk]
    simp only [H.ea_no ht] at k1
    clear ht hk y0 y1 y2
    go_enter Try.func23, Try.ntmps23
    go_wp2_with fail
    refine (k1 _).mono ?_
    rintro e w1 ⟨rfl, b1⟩
    obtain ⟨⟨c0, c1, c2⟩, f0, f1, f2⟩ := three_belowH b1
    have hfin := bA.trans (b1.mono bA.size)
    clear b1 bA xA k1
    go_wp2
    exact bodyPost_ret (v := .tuple #[.agg #[.int .i64 0, .int .i64 0, .int .i64 0], .bool false]) (by simp [results, Try.results23, go_sem, c0, c1, c2]) rfl ⟨rfl, ((hfin.setCell (Nat.le_succ _) _).setCell (Nat.le_succ _) _).setCell (Nat.le_succ _) _⟩
  · have hb := H.er_bd ht
    rw [H.ea_yes ht] at k1
    rcases inR_cases u 0 1000000 with ⟨u0, u1⟩ | ⟨u0, u1⟩
    · have hk : H.sk x y z t u = true := H.sk_yes ⟨ht, u1⟩
      obtain ⟨y0, y1, y2⟩ := H.s_yes hk
      rw [y0, y1, y2, hk]
      clear ht hk y0 y1 y2
      generalize H.er x y z t = n at *
      have g0 : decide (n < 0) = false := decide_eq_false (by omega)
      rcases Int.le_total u n with hm | hm
      · have m1 : min u n = u := by omega
        rw [m1]
        go_enter Try.func23, Try.ntmps23
        go_wp2_with fail
        refine (k1 _).mono ?_
        rintro e w1 ⟨rfl, b1⟩
        obtain ⟨⟨c0, c1, c2⟩, f0, f1, f2⟩ := three_belowH b1
        have x1' := xA.b b1
        have d1 := x1'.c1
        have hfin := bA.trans (b1.mono bA.size)
        clear b1 bA xA k1 x1'
        go_wp2_with (go_at_call 30; refine (inR_impl _ _ _ _).mono ?_; rintro e w' ⟨rfl, rfl⟩)
        all_goals
          (first | (exfalso; omega; done) | skip)
        all_goals
          exact bodyPost_ret (v := .tuple #[.agg #[.int .i64 u, .int .i64 y, .int .i64 t], .bool true]) (by simp [results, Try.results23, go_sem, c0, c1, c2] <;> omega) rfl ⟨rfl, ((hfin.setCell (Nat.le_succ _) _).setCell (Nat.le_succ _) _).setCell (Nat.le_succ _) _⟩
      · have m1 : min u n = n := by omega
        rw [m1]
        go_enter Try.func23, Try.ntmps23
        go_wp2_with fail
        refine (k1 _).mono ?_
        rintro e w1 ⟨rfl, b1⟩
        obtain ⟨⟨c0, c1, c2⟩, f0, f1, f2⟩ := three_belowH b1
        have x1' := xA.b b1
        have d1 := x1'.c1
        have hfin := bA.trans (b1.mono bA.size)
        clear b1 bA xA k1 x1'
        go_wp2_with (go_at_call 30; refine (inR_impl _ _ _ _).mono ?_; rintro e w' ⟨rfl, rfl⟩)
        all_goals
          (first | (exfalso; omega; done) | skip)
        all_goals
          exact bodyPost_ret (v := .tuple #[.agg #[.int .i64 n, .int .i64 y, .int .i64 t], .bool true]) (by simp [results, Try.results23, go_sem, c0, c1, c2] <;> omega) rfl ⟨rfl, ((hfin.setCell (Nat.le_succ _) _).setCell (Nat.le_succ _) _).setCell (Nat.le_succ _) _⟩
    · have hk : H.sk x y z t u = false := H.sk_no (fun h => u1 h.2)
      obtain ⟨y0, y1, y2⟩ := H.s_no hk
      rw [y0, y1, y2, hk]
      clear ht hk y0 y1 y2
      generalize H.er x y z t = n at *
      have g0 : decide (n < 0) = false := decide_eq_false (by omega)
      clear hb
      go_enter Try.func23, Try.ntmps23
      go_wp2_with fail
      refine (k1 _).mono ?_
      rintro e w1 ⟨rfl, b1⟩
      obtain ⟨⟨c0, c1, c2⟩, f0, f1, f2⟩ := three_belowH b1
      have hfin := bA.trans (b1.mono bA.size)
      clear b1 bA xA k1
      go_wp2_with (go_at_call 30; refine (inR_impl _ _ _ _).mono ?_; rintro e w' ⟨rfl, rfl⟩)
      exact bodyPost_ret (v := .tuple #[.agg #[.int .i64 0, .int .i64 0, .int .i64 0], .bool false]) (by simp [results, Try.results23, go_sem, c0, c1, c2]) rfl ⟨rfl, ((hfin.setCell (Nat.le_succ _) _).setCell (Nat.le_succ _) _).setCell (Nat.le_succ _) _⟩
set_option maxHeartbeats 2000000 in
theorem HU_spec (x y z : Int) (w : World) : Calls Try.prog 27 #[.agg #[.int .i64 x, .int .i64 y, .int .i64 z]] w fun e w' => e = .returned (.int .i64 (H.hu x y z)) ∧ Below w.heap.size w w' := by
  have bA := (Below.refl w.heap.size w).alloc (Nat.le_refl _) (.cells #[.int .i64 x, .int .i64 y, .int .i64 z] 24)
  have xA := C3.new w x y z 24
  have k1 := fun w' => vs_spec x y z w'
  rcases hv : H.vs x y z with _ | _
  · have HT := Lib.hid (H.hu_no (H.hk_no (fun h => by rw [hv] at h; exact absurd h.1 (by decide))))
    simp only [hv] at k1
    clear hv
    go_enter Try.func27, Try.ntmps27
    go_wp2_with fail
    refine (k1 _).mono ?_
    rintro e w1 ⟨rfl, b1⟩
    have b2 := bA.trans (b1.mono bA.size)
    clear bA b1 xA
    go_wp2
    go_ret
    exact ⟨by rw [HT.out]; first | done | rfl, b2⟩
  · have hv' := H.vs_of hv
    simp only [hv] at k1
    by_cases hx : x ≤ 100000
    · have HT := Lib.hid (show H.hu x y z = if y = 0 then 3786479999 else min (z + (100000 - x) / y) 3786479999 from H.hu_yes (H.hk_yes ⟨hv, hx⟩))
      have g1 : decide (100000 < x) = false := decide_eq_false (by omega)
      by_cases hy : y = 0
      · subst hy
        clear hv hx
        go_enter Try.func27, Try.ntmps27
        go_wp2_with fail
        refine (k1 _).mono ?_
        rintro e w1 ⟨rfl, b1⟩
        have b2 := bA.trans (b1.mono bA.size)
        have x1 := xA.b b1
        have d0 := x1.c0
        have d1 := x1.c1
        have d2 := x1.c2
        clear bA b1 xA k1 x1
        generalize w.heap.size = D at d0 d1 d2 ⊢
        go_wp2
        go_ret
        exact ⟨by rw [HT.out]; first | done | rfl, b2⟩
      · have hq := H.quo (e := x) (w := y) (by omega) (by omega)
        have e1 : IntKind.i64.wrap (100000 - x) = 100000 - x := IntWalk.i64_in _ (by omega)
        have e0 : (100000 - x).tdiv y = (100000 - x) / y := Int.tdiv_eq_ediv_of_nonneg (by omega)
        have e2 : IntKind.i64.wrap ((100000 - x).tdiv y) = (100000 - x) / y := by rw [e0]; exact IntWalk.i64_in _ (by omega)
        have e3 : IntKind.i64.wrap (z + (100000 - x) / y) = z + (100000 - x) / y := IntWalk.i64_in _ (by omega)
        have g2 : (y == 0) = false := by rw [beq_eq_false_iff_ne]; exact hy
        clear hv hx
        go_enter Try.func27, Try.ntmps27
        go_wp2_with fail
        refine (k1 _).mono ?_
        rintro e w1 ⟨rfl, b1⟩
        have b2 := bA.trans (b1.mono bA.size)
        have x1 := xA.b b1
        have d0 := x1.c0
        have d1 := x1.c1
        have d2 := x1.c2
        clear bA b1 xA k1 x1
        generalize w.heap.size = D at d0 d1 d2 ⊢
        go_wp2_with fail
        go_region
        all_goals go_wp2
        all_goals
          go_ret
          exact ⟨by rw [HT.out]; exact ret_int (by rw [if_neg hy]; omega), b2.drew⟩
    · have HT := Lib.hid (H.hu_no (H.hk_no (e := x) (w := y) (s := z) (fun h => hx h.2)))
      have g1 : decide (100000 < x) = true := decide_eq_true (by omega)
      clear hv hx
      go_enter Try.func27, Try.ntmps27
      go_wp2_with fail
      refine (k1 _).mono ?_
      rintro e w1 ⟨rfl, b1⟩
      have b2 := bA.trans (b1.mono bA.size)
      have x1 := xA.b b1
      have d0 := x1.c0
      have d1 := x1.c1
      have d2 := x1.c2
      clear bA b1 xA k1 x1
      generalize w.heap.size = D at d0 d1 d2 ⊢
      go_wp2
      go_ret
      exact ⟨by rw [HT.out]; first | done | rfl, b2⟩
set_option maxHeartbeats 4000000 in
theorem SA_spec (x y z t u : Int) (w : World) : Calls Try.prog 24 #[.agg #[.int .i64 x, .int .i64 y, .int .i64 z], .int .i64 t, .int .i64 u] w fun e w' =>
    e = .returned (.tuple #[.agg #[.int .i64 (H.se x y z t u), .int .i64 (H.sw x y z t u), .int .i64 (H.ss x y z t u)], .bool (H.sk x y z t u)]) ∧ Below w.heap.size w w' := by
  have k1 := fun w' => EA_spec x y z t w'
  have bA : Below w.heap.size w ((w.alloc (Obj.cells #[.int .i64 x, .int .i64 y, .int .i64 z] 24)).alloc (Obj.cells #[.int .i64 0, .int .i64 0, .int .i64 0] 24)) := ((Below.refl _ _).alloc (Nat.le_refl _) _).alloc (by simp) _
  have xA := (C3.new w x y z 24).al (Obj.cells #[.int .i64 0, .int .i64 0, .int .i64 0] 24)
  rcases ht : H.ok x y z t with _ | _
  · have hk : H.sk x y z t u = false := H.sk_no (fun h => by rw [ht] at h; cases h.1)
    obtain ⟨y0, y1, y2⟩ := H.s_no hk
    rw [y0, y1, y2, hk]
    simp only [H.ea_no ht] at k1
    clear ht hk y0 y1 y2
    go_enter Try.func24, Try.ntmps24
    go_wp2_with fail
    refine (k1 _).mono ?_
    rintro e w1 ⟨rfl, b1⟩
    obtain ⟨⟨c0, c1, c2⟩, f0, f1, f2⟩ := three_belowH b1
    have hfin := bA.trans (b1.mono bA.size)
    clear b1 bA xA k1
    go_wp2
    exact bodyPost_ret (v := .tuple #[.agg #[.int .i64 0, .int .i64 0, .int .i64 0], .bool false]) (by simp [results, Try.results24, go_sem, c0, c1, c2]) rfl ⟨rfl, ((hfin.setCell (Nat.le_succ _) _).setCell (Nat.le_succ _) _).setCell (Nat.le_succ _) _⟩
  · have hb := H.er_bd ht
    rw [H.ea_yes ht] at k1
    rcases inR_cases u 0 1000000 with ⟨u0, u1⟩ | ⟨u0, u1⟩
    · have hk : H.sk x y z t u = true := H.sk_yes ⟨ht, u1⟩
      obtain ⟨y0, y1, y2⟩ := H.s_yes hk
      rw [y0, y1, y2, hk]
      clear ht hk y0 y1 y2
      generalize H.er x y z t = n at *
      have g0 : decide (n < 0) = false := decide_eq_false (by omega)
      rcases Int.le_total u n with hm | hm
      · have m1 : min u n = u := by omega
        rw [m1]
        go_enter Try.func24, Try.ntmps24
        go_wp2_with fail
        refine (k1 _).mono ?_
        rintro e w1 ⟨rfl, b1⟩
        obtain ⟨⟨c0, c1, c2⟩, f0, f1, f2⟩ := three_belowH b1
        have x1' := xA.b b1
        have d1 := x1'.c1
        have hfin := bA.trans (b1.mono bA.size)
        clear b1 bA xA k1 x1'
        go_wp2_with (go_at_call 33; refine (inR_spec _ _ _ _).mono ?_; rintro e w' ⟨rfl, rfl⟩)
        all_goals
          (first | (exfalso; omega; done) | skip)
        all_goals
          exact bodyPost_ret (v := .tuple #[.agg #[.int .i64 u, .int .i64 y, .int .i64 t], .bool true]) (by simp [results, Try.results24, go_sem, c0, c1, c2] <;> omega) rfl ⟨rfl, ((hfin.setCell (Nat.le_succ _) _).setCell (Nat.le_succ _) _).setCell (Nat.le_succ _) _⟩
      · have m1 : min u n = n := by omega
        rw [m1]
        go_enter Try.func24, Try.ntmps24
        go_wp2_with fail
        refine (k1 _).mono ?_
        rintro e w1 ⟨rfl, b1⟩
        obtain ⟨⟨c0, c1, c2⟩, f0, f1, f2⟩ := three_belowH b1
        have x1' := xA.b b1
        have d1 := x1'.c1
        have hfin := bA.trans (b1.mono bA.size)
        clear b1 bA xA k1 x1'
        go_wp2_with (go_at_call 33; refine (inR_spec _ _ _ _).mono ?_; rintro e w' ⟨rfl, rfl⟩)
        all_goals
          (first | (exfalso; omega; done) | skip)
        all_goals
          exact bodyPost_ret (v := .tuple #[.agg #[.int .i64 n, .int .i64 y, .int .i64 t], .bool true]) (by simp [results, Try.results24, go_sem, c0, c1, c2] <;> omega) rfl ⟨rfl, ((hfin.setCell (Nat.le_succ _) _).setCell (Nat.le_succ _) _).setCell (Nat.le_succ _) _⟩
    · have hk : H.sk x y z t u = false := H.sk_no (fun h => u1 h.2)
      obtain ⟨y0, y1, y2⟩ := H.s_no hk
      rw [y0, y1, y2, hk]
      clear ht hk y0 y1 y2
      generalize H.er x y z t = n at *
      have g0 : decide (n < 0) = false := decide_eq_false (by omega)
      clear hb
      go_enter Try.func24, Try.ntmps24
      go_wp2_with fail
      refine (k1 _).mono ?_
      rintro e w1 ⟨rfl, b1⟩
      obtain ⟨⟨c0, c1, c2⟩, f0, f1, f2⟩ := three_belowH b1
      have hfin := bA.trans (b1.mono bA.size)
      clear b1 bA xA k1
      go_wp2_with (go_at_call 33; refine (inR_spec _ _ _ _).mono ?_; rintro e w' ⟨rfl, rfl⟩)
      exact bodyPost_ret (v := .tuple #[.agg #[.int .i64 0, .int .i64 0, .int .i64 0], .bool false]) (by simp [results, Try.results24, go_sem, c0, c1, c2]) rfl ⟨rfl, ((hfin.setCell (Nat.le_succ _) _).setCell (Nat.le_succ _) _).setCell (Nat.le_succ _) _⟩
end Go.Proofs.Ytinckfakmipmlaa
