/-
  Holdover (chapter 9): until when a clock holds, satellites seen again; the program's and the model's functions.
-/
import Derived.Test.YtpfdjmffgbbmdaaGreatDoorHold
namespace Go.Proofs.YtpfdjmffgbbmdaaGreatDoor
open Go.RowKit
set_option linter.unusedVariables false
set_option maxRecDepth 100000
theorem three_belowH {w w1 : World} {x y z : Value} {u v q : Value} {t t' : TypeId} (b : Below ((w.alloc (Obj.cells #[x, y, z] t')).alloc (Obj.cells #[u, v, q] t)).heap.size ((w.alloc (Obj.cells #[x, y, z] t')).alloc (Obj.cells #[u, v, q] t)) w1) : (w1.cell? ⟨w.heap.size + 1, 0, none⟩ = some u ∧ w1.cell? ⟨w.heap.size + 1, 1, none⟩ = some v ∧ w1.cell? ⟨w.heap.size + 1, 2, none⟩ = some q) ∧ (w1.frozen? ⟨w.heap.size + 1, 0, none⟩ = false ∧ w1.frozen? ⟨w.heap.size + 1, 1, none⟩ = false ∧ w1.frozen? ⟨w.heap.size + 1, 2, none⟩ = false) := by
  have L : ∀ o, (⟨w.heap.size + 1, o, none⟩ : Addr).block < ((w.alloc (Obj.cells #[x, y, z] t')).alloc (Obj.cells #[u, v, q] t)).heap.size := fun o => by simp
  have N : ∀ o, ((w.alloc (Obj.cells #[x, y, z] t')).alloc (Obj.cells #[u, v, q] t)).cell? ⟨w.heap.size + 1, o, none⟩ = #[u, v, q][o]? := fun o => by
    have := World.cell?_alloc_new (w.alloc (Obj.cells #[x, y, z] t')) #[u, v, q] t o
    rw [World.size_alloc] at this
    exact this
  exact ⟨⟨(b.cell (L 0)).trans (N 0), (b.cell (L 1)).trans (N 1), (b.cell (L 2)).trans (N 2)⟩, (b.frozen (L 0)).trans (by simp), (b.frozen (L 1)).trans (by simp), (b.frozen (L 2)).trans (by simp)⟩
set_option maxHeartbeats 4000000 in
theorem SA_impl (x y z t u : Int) (w : World) : Calls Tryz.prog 74 #[.agg #[.int .i64 x, .int .i64 y, .int .i64 z], .int .i64 t, .int .i64 u] w fun e w' =>
    e = .returned (.tuple #[.agg #[.int .i64 (H.se x y z t u), .int .i64 (H.sw x y z t u), .int .i64 (H.ss x y z t u)], .bool (H.sk x y z t u)]) ∧ Below w.heap.size w w' := by
  have k1 := fun w' => EA_impl x y z t w'
  have bA : Below w.heap.size w ((w.alloc (Obj.cells #[.int .i64 x, .int .i64 y, .int .i64 z] 44)).alloc (Obj.cells #[.int .i64 0, .int .i64 0, .int .i64 0] 44)) := ((Below.refl _ _).alloc (Nat.le_refl _) _).alloc (by simp) _
  have xA := (C3.new w x y z 44).al (Obj.cells #[.int .i64 0, .int .i64 0, .int .i64 0] 44)
  rcases ht : H.ok x y z t with _ | _
  · have hk : H.sk x y z t u = false := H.sk_no (fun h => by rw [ht] at h; cases h.1)
    obtain ⟨y0, y1, y2⟩ := H.s_no hk
    rw [y0, y1, y2, hk]
    simp only [H.ea_no ht] at k1
    clear ht hk y0 y1 y2
    go_enter Tryz.func74, Tryz.ntmps74
    go_wp2_with fail
    refine (k1 _).mono ?_
    rintro e w1 ⟨rfl, b1⟩
    obtain ⟨⟨c0, c1, c2⟩, f0, f1, f2⟩ := three_belowH b1
    have hfin := bA.trans (b1.mono bA.size)
    clear b1 bA xA k1
    go_wp2
    exact bodyPost_ret (v := .tuple #[.agg #[.int .i64 0, .int .i64 0, .int .i64 0], .bool false]) (by simp [results, Tryz.results74, go_sem, c0, c1, c2]) rfl ⟨rfl, ((hfin.setCell (Nat.le_succ _) _).setCell (Nat.le_succ _) _).setCell (Nat.le_succ _) _⟩
  · have hb := H.er_bd ht
    rw [H.ea_yes ht] at k1
    rcases inR_cases u 0 1000000 with ⟨u0, u1⟩ | ⟨u0, u1⟩
    · have hk : H.sk x y z t u = true := H.sk_yes ⟨ht, u1⟩
      obtain ⟨y0, y1, y2⟩ := H.s_yes hk
      rw [y0, y1, y2, hk]
      clear ht hk y0 y1 y2
      generalize H.er x y z t = n at *
      have g0 : decide (n < 0) = false := decide_eq_false (by omega)
      rcases Int.le_total u n with hm | hm
      · have m1 : min u n = u := by omega
        rw [m1]
        go_enter Tryz.func74, Tryz.ntmps74
        go_wp2_with fail
        refine (k1 _).mono ?_
        rintro e w1 ⟨rfl, b1⟩
        obtain ⟨⟨c0, c1, c2⟩, f0, f1, f2⟩ := three_belowH b1
        have x1' := xA.b b1
        have d1 := x1'.c1
        have hfin := bA.trans (b1.mono bA.size)
        clear b1 bA xA k1 x1'
        go_wp2_with (go_at_call 33; refine (inR_impl _ _ _ _).mono ?_; rintro e w' ⟨rfl, rfl⟩)
        all_goals
          (first | (exfalso; omega; done) | skip)
        all_goals
          exact bodyPost_ret (v := .tuple #[.agg #[.int .i64 u, .int .i64 y, .int .i64 t], .bool true]) (by simp [results, Tryz.results74, go_sem, c0, c1, c2] <;> omega) rfl ⟨rfl, ((hfin.setCell (Nat.le_succ _) _).setCell (Nat.le_succ _) _).setCell (Nat.le_succ _) _⟩
      · have m1 : min u n = n := by omega
        rw [m1]
        go_enter Tryz.func74, Tryz.ntmps74
        go_wp2_with fail
        refine (k1 _).mono ?_
        rintro e w1 ⟨rfl, b1⟩
        obtain ⟨⟨c0, c1, c2⟩, f0, f1, f2⟩ := three_belowH b1
        have x1' := xA.b b1
        have d1 := x1'.c1
        have hfin := bA.trans (b1.mono bA.size)
        clear b1 bA xA k1 x1'
        go_wp2_with (go_at_call 33; refine (inR_impl _ _ _ _).mono ?_; rintro e w' ⟨rfl, rfl⟩)
        all_goals
          (first | (exfalso; omega; done) | skip)
        all_goals
          exact bodyPost_ret (v := .tuple #[.agg #[.int .i64 n, .int .i64 y, .int .i64 t], .bool true]) (by simp [results, Tryz.results74, go_sem, c0, c1, c2] <;> omega) rfl ⟨rfl, ((hfin.setCell (Nat.le_succ _) _).setCell (Nat.le_succ _) _).setCell (Nat.le_succ _) _⟩
    · have hk : H.sk x y z t u = false := H.sk_no (fun h => u1 h.2)
      obtain ⟨y0, y1, y2⟩ := H.s_no hk
      rw [y0, y1, y2, hk]
      clear ht hk y0 y1 y2
      generalize H.er x y z t = n at *
      have g0 : decide (n < 0) = false := decide_eq_false (by omega)
      clear hb
      go_enter Tryz.func74, Tryz.ntmps74
      go_wp2_with fail
      refine (k1 _).mono ?_
      rintro e w1 ⟨rfl, b1⟩
      obtain ⟨⟨c0, c1, c2⟩, f0, f1, f2⟩ := three_belowH b1
      have hfin := bA.trans (b1.mono bA.size)
      clear b1 bA xA k1
      go_wp2_with (go_at_call 33; refine (inR_impl _ _ _ _).mono ?_; rintro e w' ⟨rfl, rfl⟩)
      exact bodyPost_ret (v := .tuple #[.agg #[.int .i64 0, .int .i64 0, .int .i64 0], .bool false]) (by simp [results, Tryz.results74, go_sem, c0, c1, c2]) rfl ⟨rfl, ((hfin.setCell (Nat.le_succ _) _).setCell (Nat.le_succ _) _).setCell (Nat.le_succ _) _⟩
set_option maxHeartbeats 4000000 in
theorem SA_spec (x y z t u : Int) (w : World) : Calls Tryz.prog 83 #[.agg #[.int .i64 x, .int .i64 y, .int .i64 z], .int .i64 t, .int .i64 u] w fun e w' =>
    e = .returned (.tuple #[.agg #[.int .i64 (H.se x y z t u), .int .i64 (H.sw x y z t u), .int .i64 (H.ss x y z t u)], .bool (H.sk x y z t u)]) ∧ Below w.heap.size w w' := by
  have k1 := fun w' => EA_spec x y z t w'
  have bA : Below w.heap.size w ((w.alloc (Obj.cells #[.int .i64 x, .int .i64 y, .int .i64 z] 44)).alloc (Obj.cells #[.int .i64 0, .int .i64 0, .int .i64 0] 44)) := ((Below.refl _ _).alloc (Nat.le_refl _) _).alloc (by simp) _
  have xA := (C3.new w x y z 44).al (Obj.cells #[.int .i64 0, .int .i64 0, .int .i64 0] 44)
  rcases ht : H.ok x y z t with _ | _
  · have hk : H.sk x y z t u = false := H.sk_no (fun h => by rw [ht] at h; cases h.1)
    obtain ⟨y0, y1, y2⟩ := H.s_no hk
    rw [y0, y1, y2, hk]
    simp only [H.ea_no ht] at k1
    clear ht hk y0 y1 y2
    go_enter Tryz.func83, Tryz.ntmps83
    go_wp2_with fail
    refine (k1 _).mono ?_
    rintro e w1 ⟨rfl, b1⟩
    obtain ⟨⟨c0, c1, c2⟩, f0, f1, f2⟩ := three_belowH b1
    have hfin := bA.trans (b1.mono bA.size)
    clear b1 bA xA k1
    go_wp2
    exact bodyPost_ret (v := .tuple #[.agg #[.int .i64 0, .int .i64 0, .int .i64 0], .bool false]) (by simp [results, Tryz.results83, go_sem, c0, c1, c2]) rfl ⟨rfl, ((hfin.setCell (Nat.le_succ _) _).setCell (Nat.le_succ _) _).setCell (Nat.le_succ _) _⟩
  · have hb := H.er_bd ht
    rw [H.ea_yes ht] at k1
    rcases inR_cases u 0 1000000 with ⟨u0, u1⟩ | ⟨u0, u1⟩
    · have hk : H.sk x y z t u = true := H.sk_yes ⟨ht, u1⟩
      obtain ⟨y0, y1, y2⟩ := H.s_yes hk
      rw [y0, y1, y2, hk]
      clear ht hk y0 y1 y2
      generalize H.er x y z t = n at *
      have g0 : decide (n < 0) = false := decide_eq_false (by omega)
      rcases Int.le_total u n with hm | hm
      · have m1 : min u n = u := by omega
        rw [m1]
        go_enter Tryz.func83, Tryz.ntmps83
        go_wp2_with fail
        refine (k1 _).mono ?_
        rintro e w1 ⟨rfl, b1⟩
        obtain ⟨⟨c0, c1, c2⟩, f0, f1, f2⟩ := three_belowH b1
        have x1' := xA.b b1
        have d1 := x1'.c1
        have hfin := bA.trans (b1.mono bA.size)
        clear b1 bA xA k1 x1'
        go_wp2_with (go_at_call 39; refine (inR_spec _ _ _ _).mono ?_; rintro e w' ⟨rfl, rfl⟩)
        all_goals
          (first | (exfalso; omega; done) | skip)
        all_goals
          exact bodyPost_ret (v := .tuple #[.agg #[.int .i64 u, .int .i64 y, .int .i64 t], .bool true]) (by simp [results, Tryz.results83, go_sem, c0, c1, c2] <;> omega) rfl ⟨rfl, ((hfin.setCell (Nat.le_succ _) _).setCell (Nat.le_succ _) _).setCell (Nat.le_succ _) _⟩
      · have m1 : min u n = n := by omega
        rw [m1]
        go_enter Tryz.func83, Tryz.ntmps83
        go_wp2_with fail
        refine (k1 _).mono ?_
        rintro e w1 ⟨rfl, b1⟩
        obtain ⟨⟨c0, c1, c2⟩, f0, f1, f2⟩ := three_belowH b1
        have x1' := xA.b b1
        have d1 := x1'.c1
        have hfin := bA.trans (b1.mono bA.size)
        clear b1 bA xA k1 x1'
        go_wp2_with (go_at_call 39; refine (inR_spec _ _ _ _).mono ?_; rintro e w' ⟨rfl, rfl⟩)
        all_goals
          (first | (exfalso; omega; done) | skip)
        all_goals
          exact bodyPost_ret (v := .tuple #[.agg #[.int .i64 n, .int .i64 y, .int .i64 t], .bool true]) (by simp [results, Tryz.results83, go_sem, c0, c1, c2] <;> omega) rfl ⟨rfl, ((hfin.setCell (Nat.le_succ _) _).setCell (Nat.le_succ _) _).setCell (Nat.le_succ _) _⟩
    · have hk : H.sk x y z t u = false := H.sk_no (fun h => u1 h.2)
      obtain ⟨y0, y1, y2⟩ := H.s_no hk
      rw [y0, y1, y2, hk]
      clear ht hk y0 y1 y2
      generalize H.er x y z t = n at *
      have g0 : decide (n < 0) = false := decide_eq_false (by omega)
      clear hb
      go_enter Tryz.func83, Tryz.ntmps83
      go_wp2_with fail
      refine (k1 _).mono ?_
      rintro e w1 ⟨rfl, b1⟩
      obtain ⟨⟨c0, c1, c2⟩, f0, f1, f2⟩ := three_belowH b1
      have hfin := bA.trans (b1.mono bA.size)
      clear b1 bA xA k1
      go_wp2_with (go_at_call 39; refine (inR_spec _ _ _ _).mono ?_; rintro e w' ⟨rfl, rfl⟩)
      exact bodyPost_ret (v := .tuple #[.agg #[.int .i64 0, .int .i64 0, .int .i64 0], .bool false]) (by simp [results, Tryz.results83, go_sem, c0, c1, c2]) rfl ⟨rfl, ((hfin.setCell (Nat.le_succ _) _).setCell (Nat.le_succ _) _).setCell (Nat.le_succ _) _⟩
end Go.Proofs.YtpfdjmffgbbmdaaGreatDoor
