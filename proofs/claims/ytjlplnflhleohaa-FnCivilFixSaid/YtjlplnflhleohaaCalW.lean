/-
  The number of a date and the date of a number by the model: two loops each; what was there is as it was.
-/
import Derived.Test.YtjlplnflhleohaaCalM
import Derived.Deep.RegionHeld3
namespace Go.Proofs.Ytjlplnflhleohaa
open Go.RowKit
set_option linter.unusedVariables false
theorem bcell {W w1 : World} (hb : Below W.heap.size W w1) : (∀ b o, b < W.heap.size → w1.cell? ⟨b, o, none⟩ = W.cell? ⟨b, o, none⟩) ∧ (∀ b o, b < W.heap.size → w1.frozen? ⟨b, o, none⟩ = W.frozen? ⟨b, o, none⟩) :=
  ⟨fun b o h => hb.cell (p := ⟨b, o, none⟩) h, fun b o h => hb.frozen (p := ⟨b, o, none⟩) h⟩
theorem toInt_leap (y : Int) (w : World) : Calls Try.prog 49 #[.bool (M.leapB y)] w fun e w' => e = .returned (.int .i64 (M.lp y)) ∧ w = w' := by
  rcases M.lp_eq y with ⟨h, h'⟩ | ⟨h, h'⟩
  · have e1 : M.leapB y = true := by simp [M.leapB, h]
    rw [e1, h']
    go_enter Try.func49, Try.ntmps49
    go_wp2
    go_ret
    exact ⟨rfl, rfl⟩
  · have e1 : M.leapB y = false := by simp [M.leapB, h]
    rw [e1, h']
    go_enter Try.func49, Try.ntmps49
    go_wp2
    go_ret
    exact ⟨rfl, rfl⟩
set_option maxHeartbeats 2000000 in
theorem num_spec (y m d : Int) (w : World) (hy : 1980 ≤ y ∧ y ≤ 2099) (hm : 1 ≤ m ∧ m ≤ 12) (hd : 1 ≤ d ∧ d ≤ 31) : Calls Try.prog 31 #[.agg #[.int .i64 y, .int .i64 m, .int .i64 d]] w fun e w' => e = .returned (.int .i64 (M.num y m d)) ∧ Below w.heap.size w w' := by
  go_enter Try.func31, Try.ntmps31
  go_wp2_with fail
  go_loop [3, 4] (fun n t => ∃ k : Int, 1980 ≤ k ∧ k ≤ y ∧ t = .int .i64 k ∧ n = .int .i64 (M.dby k + d - 1)) (fun _ t => (2100 - intOf t).toNat)
  case atStart => exact ⟨1980, by omega, by omega, rfl, by simp [M.dby]⟩
  case round =>
    obtain ⟨k, hk0, hk1, rfl, rfl⟩ := hrel
    have hb : 0 ≤ M.dby k ∧ M.dby k ≤ 50000 := by unfold M.dby; omega
    by_cases hlt : k < y
    · have hs := M.dby_succ k
      have hl := M.lp_bd k
      have HS := Lib.hid hs
      clear hs
      go_wp2_with (first | (go_at_call 50; refine (leap_spec _ _ (by omega) (by omega)).mono ?_; rintro e w' ⟨rfl, rfl⟩) | (go_at_call 49; refine (toInt_leap _ _).mono ?_; rintro e w' ⟨rfl, rfl⟩))
      go_round
      case rel => exact ⟨k + 1, by omega, by omega, rfl, by rw [HS.out]; go_num⟩
      case measure => simp [intOf]; omega
    · obtain rfl : k = y := by omega
      go_wp2_with fail
      go_loopw [3, 5] (fun n t wr => ∃ j : Int, 1 ≤ j ∧ j ≤ m ∧ t = .int .i64 j ∧ n = .int .i64 (M.dby k + M.cum k j + d - 1) ∧ Below (w.heap.size + 1) (w.alloc (Obj.cells #[.int .i64 k, .int .i64 m, .int .i64 d] 24)) wr) (fun _ t _ => (13 - intOf t).toNat)
      case atStart => exact ⟨1, by omega, by omega, rfl, by simp [M.cum], Below.refl _ _⟩
      case round =>
        obtain ⟨j, hj0, hj1, rfl, rfl, hw⟩ := hrel
        have hcb := M.cum_bd k j (by omega)
        have hl := M.lp_bd k
        have c0 : wr.cell? ⟨w.heap.size, 0, none⟩ = some (.int .i64 k) := (hw.cell (p := ⟨w.heap.size, 0, none⟩) (Nat.lt_succ_self _)).trans (by simp)
        have c1 : wr.cell? ⟨w.heap.size, 1, none⟩ = some (.int .i64 m) := (hw.cell (p := ⟨w.heap.size, 1, none⟩) (Nat.lt_succ_self _)).trans (by simp)
        have hsz : w.heap.size + 1 ≤ wr.heap.size := by have := hw.size; simpa using this
        by_cases hlt : j < m
        · have hs := M.cum_succ k j (by omega)
          have hdb := M.dim_bd k j
          have HS := Lib.hid hs
          clear hs
          go_wp2_with (go_at_call 51; refine (dim_spec _ _ _ hy.1 hy.2 (by omega) (by omega)).mono ?_; rintro e w' ⟨rfl, o, rfl⟩)
          go_roundw
          case rel => exact ⟨j + 1, by omega, by omega, rfl, by rw [HS.out]; go_num, hw.alloc hsz _⟩
          case measure => simp [intOf]; omega
        · obtain rfl : j = m := by omega
          have hfin : Below w.heap.size w wr := ((Below.refl w.heap.size w).alloc (Nat.le_refl _) _).trans (hw.mono (by omega))
          clear hw hsz
          go_wp2
          go_ret
          exact ⟨ret_int (by unfold M.num; omega), hfin⟩
theorem dateOf_spec_out (n : Int) (w : World) (h : ¬ (0 ≤ n ∧ n ≤ 43829)) : Calls Try.prog 38 #[.int .i64 n] w fun e w' => e = .returned (.agg #[.int .i64 0, .int .i64 0, .int .i64 0]) ∧ Below w.heap.size w w' := by
  have h0 := inR_no h
  clear h
  go_enter Try.func38, Try.ntmps38
  go_wp2_with (first | (go_at_call 37; refine (inR_spec _ _ _ _).mono ?_; rintro e w' ⟨rfl, rfl⟩))
  exact bodyPost_ret (v := .agg #[.int .i64 0, .int .i64 0, .int .i64 0]) (by simp [results, Try.results38, go_sem]) rfl ⟨rfl, (Below.refl _ _).alloc (Nat.le_refl _) _⟩
set_option maxHeartbeats 4000000 in
theorem dateOf_spec_in (n : Int) (w : World) (h : 0 ≤ n ∧ n ≤ 43829) : Calls Try.prog 38 #[.int .i64 n] w fun e w' => e = .returned (.agg #[.int .i64 (M.dtY n), .int .i64 (M.dtM n), .int .i64 (M.dtD n)]) ∧ Below w.heap.size w w' := by
  have h0 := inR_yes h
  go_enter Try.func38, Try.ntmps38
  go_wp2_with (first | (go_at_call 37; refine (inR_spec _ _ _ _).mono ?_; rintro e w' ⟨rfl, rfl⟩))
  go_loop [0, 3] (fun a t => ∃ k : Int, 1980 ≤ k ∧ k ≤ 2099 ∧ t = .int .i64 k ∧ a = .int .i64 (n - M.dby k) ∧ M.dby k ≤ n) (fun _ t => (2100 - intOf t).toNat)
  case atStart => exact ⟨1980, by omega, by omega, rfl, by simp [M.dby], by simp [M.dby]; omega⟩
  case round =>
    obtain ⟨k, hk0, hk1, rfl, rfl, hk2⟩ := hrel
    have hb : 0 ≤ M.dby k := by unfold M.dby; omega
    have hs := M.dby_succ k
    have hl := M.lp_bd k
    by_cases hlt : M.dby (k + 1) ≤ n
    · have hk3 : k + 1 ≤ 2099 := by unfold M.dby at hlt; omega
      have hge : 365 + M.lp k ≤ n - M.dby k := by omega
      have hk4 : M.dby (k + 1) ≤ n := hlt
      have HS := Lib.hid hs
      clear hs hlt
      go_wp2_with (first | (go_at_call 50; refine (leap_spec _ _ (by omega) (by omega)).mono ?_; rintro e w' ⟨rfl, rfl⟩) | (go_at_call 49; refine (toInt_leap _ _).mono ?_; rintro e w' ⟨rfl, rfl⟩))
      go_round
      case rel => exact ⟨k + 1, by omega, by omega, rfl, by rw [HS.out]; go_num, hk4⟩
      case measure => simp [intOf]; omega
    · have hge : n - M.dby k < 365 + M.lp k := by omega
      clear hs hlt
      go_wp2_with (first | (go_at_call 50; refine (leap_spec _ _ (by omega) (by omega)).mono ?_; rintro e w' ⟨rfl, rfl⟩) | (go_at_call 49; refine (toInt_leap _ _).mono ?_; rintro e w' ⟨rfl, rfl⟩))
      go_loopw [0, 4] (fun a t wr => ∃ j : Int, 1 ≤ j ∧ j ≤ 12 ∧ t = .int .i64 j ∧ a = .int .i64 (n - M.dby k - M.cum k j) ∧ M.cum k j ≤ n - M.dby k ∧ Below (w.heap.size + 1) (w.alloc (Obj.cells #[.int .i64 0, .int .i64 0, .int .i64 0] 24)) wr) (fun _ t _ => (13 - intOf t).toNat)
      case atStart => exact ⟨1, by omega, by omega, rfl, by simp [M.cum], by simp [M.cum]; omega, Below.refl _ _⟩
      case round =>
        obtain ⟨j, hj0, hj1, rfl, rfl, hj2, hw⟩ := hrel
        have hcb := M.cum_bd k j (by omega)
        have hdb := M.dim_bd k j
        have hs2 := M.cum_succ k j (by omega)
        have hsz : w.heap.size + 1 ≤ wr.heap.size := by have := hw.size; simpa using this
        by_cases hlt : M.cum k (j + 1) ≤ n - M.dby k
        · have hj3 : j + 1 ≤ 12 := by
            rcases Int.lt_or_le j 12 with h1 | h1
            · omega
            · have e : j = 12 := by omega
              subst e
              have := M.cum_last k
              have : M.cum k (12 + 1) = 365 + M.lp k := this
              omega
          have hge2 : M.dim k j ≤ n - M.dby k - M.cum k j := by omega
          have hj4 : M.cum k (j + 1) ≤ n - M.dby k := hlt
          have HS := Lib.hid hs2
          clear hs2 hlt
          go_wp2_with (go_at_call 51; refine (dim_spec _ _ _ hk0 hk1 (by omega) (by omega)).mono ?_; rintro e w' ⟨rfl, o, rfl⟩)
          go_roundw
          case rel => exact ⟨j + 1, by omega, by omega, rfl, by rw [HS.out]; go_num, hj4, (hw.alloc hsz _).alloc (by simp; omega) _⟩
          case measure => simp [intOf]; omega
        · have hge2 : n - M.dby k - M.cum k j < M.dim k j := by omega
          have hv : M.vld k j (n - M.dby k - M.cum k j + 1) = true := M.vld_mk ⟨hk0, hk1⟩ ⟨hj0, hj1⟩ (by omega)
          have hdt := M.dt_is hv (by unfold M.num; omega) h
          have c0 : wr.cell? ⟨w.heap.size, 0, none⟩ = some (.int .i64 0) := (hw.cell (p := ⟨w.heap.size, 0, none⟩) (Nat.lt_succ_self _)).trans (by simp)
          have c1 : wr.cell? ⟨w.heap.size, 1, none⟩ = some (.int .i64 0) := (hw.cell (p := ⟨w.heap.size, 1, none⟩) (Nat.lt_succ_self _)).trans (by simp)
          have c2 : wr.cell? ⟨w.heap.size, 2, none⟩ = some (.int .i64 0) := (hw.cell (p := ⟨w.heap.size, 2, none⟩) (Nat.lt_succ_self _)).trans (by simp)
          have f0 : wr.frozen? ⟨w.heap.size, 0, none⟩ = false := (hw.frozen (p := ⟨w.heap.size, 0, none⟩) (Nat.lt_succ_self _)).trans (by simp)
          have f1 : wr.frozen? ⟨w.heap.size, 1, none⟩ = false := (hw.frozen (p := ⟨w.heap.size, 1, none⟩) (Nat.lt_succ_self _)).trans (by simp)
          have f2 : wr.frozen? ⟨w.heap.size, 2, none⟩ = false := (hw.frozen (p := ⟨w.heap.size, 2, none⟩) (Nat.lt_succ_self _)).trans (by simp)
          have hfin : Below w.heap.size w wr := ((Below.refl w.heap.size w).alloc (Nat.le_refl _) _).trans (hw.mono (by omega))
          have hszl : w.heap.size < wr.heap.size := by omega
          have HV := Lib.hid hdt
          clear hs2 hlt hw hdt hv hsz hcb
          go_wp2_with (go_at_call 51; refine (dim_spec _ _ _ hk0 hk1 (by omega) (by omega)).mono ?_; rintro e w' ⟨rfl, o, rfl⟩)
          rw [← HV.out.1, ← HV.out.2.1, ← HV.out.2.2]
          refine bodyPost_ret (v := .agg #[.int .i64 k, .int .i64 j, .int .i64 (n - M.dby k - M.cum k j + 1)]) (by simp [results, Try.results38, go_sem, c0, c1, c2, hszl]) rfl ⟨rfl, ?_⟩
          exact (((hfin.setCell (Nat.le_refl _) _).setCell (Nat.le_refl _) _).setCell (Nat.le_refl _) _).alloc (by simp; omega) _
theorem dateOf_spec (n : Int) (w : World) : Calls Try.prog 38 #[.int .i64 n] w fun e w' => e = .returned (.agg #[.int .i64 (M.dtY n), .int .i64 (M.dtM n), .int .i64 (M.dtD n)]) ∧ Below w.heap.size w w' := by
  by_cases h : 0 ≤ n ∧ n ≤ 43829
  · exact dateOf_spec_in n w h
  · obtain ⟨e1, e2, e3⟩ := M.dt_out h
    rw [e1, e2, e3]
    exact dateOf_spec_out n w h
end Go.Proofs.Ytjlplnflhleohaa
