/-
  Offsets and delays (chapter 11): the program's and the model's functions.
-/
import Derived.Test.YtoaldklkacmflaaClock
import Derived.Test.YtoaldklkacmflaaStamp
import Derived.Test.YtoaldklkacmflaaOMath
import Derived.Test.YtoaldklkacmflaaISpan
import Derived.Test.YtoaldklkacmflaaSpan
import Derived.RegionTactic
import Derived.ChangeAlike
import Derived.BigRegion
namespace Go.Proofs.Ytoaldklkacmflaa
open Go.RowKit
set_option linter.unusedVariables false
set_option maxRecDepth 100000
set_option maxHeartbeats 1000000 in
theorem aiO_spec (B n c : Nat) (a : Option Addr) (l : List Int) (w : World) (h : Lst B w a n l) : Calls Try.prog 44 #[.slice a n c, .int .i64 0, .int .i64 200000000999999] w fun e w' => e = .returned (.bool (O.ai l)) ∧ w = w' := by
  obtain ⟨hl, hn, _⟩ := id h
  have HL := Lib.hid hl
  clear hl
  go_enter Try.func44, Try.ntmps44
  go_wp2
  go_loop [7] (fun i => ∃ k : Nat, k ≤ n ∧ O.okTo l k ∧ i = .int .i64 k) (fun i => n - (intOf i).toNat)
  case atStart => exact ⟨0, Nat.zero_le _, fun i hi => absurd hi (by omega), rfl⟩
  case round =>
    obtain ⟨k, hk, hok, rfl⟩ := hrel
    have HO := Lib.hid hok
    clear hok
    by_cases hlt : k < n
    · obtain ⟨b, off, rfl, hb, hc⟩ := h.at_ k hlt
      have c0 := hc k hlt
      clear hc
      rcases inR_cases (L.g l k) 0 200000000999999 with ⟨r0, r1⟩ | ⟨r0, r1⟩
      · have HS := Lib.hid (O.okTo_succ HO.out r1)
        clear r1
        go_wp2_with (go_at_call 45; refine (inR_spec _ _ _ _).mono ?_; rintro e w' ⟨rfl, rfl⟩)
        go_round
        case rel => exact ⟨k + 1, by omega, HS.out, by go_num⟩
        case measure => simp [intOf]; omega
      · have HF := Lib.hid (show O.ai l = false from decide_eq_false (fun q => r1 (q k (by have := HL.out; omega))))
        clear r1
        go_wp2_with (go_at_call 45; refine (inR_spec _ _ _ _).mono ?_; rintro e w' ⟨rfl, rfl⟩)
        go_ret
        exact ⟨ret_bool HF.out.symm, rfl⟩
    · obtain rfl : k = n := by omega
      have HF := Lib.hid (show O.ai l = true from decide_eq_true (by rw [HL.out]; exact HO.out))
      go_wp2
      go_ret
      exact ⟨ret_bool HF.out.symm, rfl⟩
theorem vo_spec (B n c : Nat) (a : Option Addr) (l : List Int) (w : World) (h : Lst B w a n l) : Calls Try.prog 30 #[.slice a n c] w fun e w' => e = .returned (.bool (O.vo l)) ∧ w = w' := by
  obtain ⟨hl, hn, _⟩ := id h
  by_cases h4 : n = 4
  · subst h4
    have hv : O.vo l = O.ai l := by unfold O.vo O.ai; congr 1; simp [hl]
    rw [hv]
    clear hv hl
    go_enter Try.func30, Try.ntmps30
    go_wp2_with (go_at_call 44; refine (aiO_spec _ _ _ _ _ _ h).mono ?_; rintro e w' ⟨rfl, rfl⟩)
    go_ret
    exact ⟨rfl, rfl⟩
  · have HF := Lib.hid (O.vo_no (l := l) (fun k => by omega))
    have hd : ((n : Int) == 4) = false := by rw [beq_eq_false_iff_ne]; omega
    clear hl h4
    go_enter Try.func30, Try.ntmps30
    go_wp2
    go_ret
    exact ⟨ret_bool HF.out.symm, rfl⟩
set_option maxHeartbeats 1000000 in
theorem OF_spec (B n c : Nat) (a : Option Addr) (l : List Int) (w : World) (h : Lst B w a n l) : Calls Try.prog 14 #[.slice a n c] w fun e w' => e = .returned (.tuple #[.int .i64 (O.ofs l), .bool (O.vo l)]) ∧ Same w w' := by
  have k1 := fun w' h' => vo_spec B n c a l w' h'
  rcases hv : O.vo l with _ | _
  · rw [(O.o_no hv).1]
    simp only [hv] at k1
    clear hv
    go_enter Try.func14, Try.ntmps14
    go_wp2_with (go_at_call 30; refine (k1 _ h).mono ?_; rintro e w' ⟨rfl, rfl⟩)
    exact bodyPost_ret (v := .tuple #[.int .i64 0, .bool false]) (by simp [results, Try.results14, go_sem]) rfl ⟨rfl, Same.refl _⟩
  · obtain ⟨hl, h0, h1, h2, h3⟩ := O.vo_at hv
    have hn : n = 4 := by rw [← h.1]; exact hl
    subst hn
    rw [(O.o_yes hv).1]
    simp only [hv] at k1
    clear hv hl
    obtain ⟨b, off, rfl, hb, hc⟩ := h.at_ 0 (by omega)
    have c0 := hc 0 (by omega)
    rw [Nat.add_zero] at c0
    have c1 := hc 1 (by omega)
    have c2 := hc 2 (by omega)
    have c3 := hc 3 (by omega)
    have K1 := Lib.hid (k1 w h)
    have hof : O.of l = (L.g l 1 - L.g l 0 + L.g l 2 - L.g l 3) / 2 := by unfold O.of O.of4; omega
    rw [hof]
    clear hc k1 h hof
    generalize L.g l 0 = x0 at *
    generalize L.g l 1 = x1 at *
    generalize L.g l 2 = x2 at *
    generalize L.g l 3 = x3 at *
    have e1 : IntKind.i64.wrap (x1 - x0) = x1 - x0 := IntWalk.i64_in _ (by omega)
    have e2 : IntKind.i64.wrap (x1 - x0 + x2) = x1 - x0 + x2 := IntWalk.i64_in _ (by omega)
    have e3 : IntKind.i64.wrap (x1 - x0 + x2 - x3) = x1 - x0 + x2 - x3 := IntWalk.i64_in _ (by omega)
    have K2 := Lib.hid (fdiv_spec (x1 - x0 + x2 - x3) 2 (by omega) (by omega))
    go_enter Try.func14, Try.ntmps14
    go_wp2_with (go_at_call 30; refine (K1.out).mono ?_; rintro e w' ⟨rfl, rfl⟩)
    go_quiet ((go_at_call 31; exact qsL K2.out))
    go_wp2
    exact bodyPost_ret (v := .tuple #[.int .i64 ((x1 - x0 + x2 - x3) / 2), .bool true]) (by simp [results, Try.results14, go_sem]) rfl ⟨rfl, (Same.refl _).drewN _⟩
set_option maxHeartbeats 1000000 in
theorem DE_spec (B n c : Nat) (a : Option Addr) (l : List Int) (w : World) (h : Lst B w a n l) : Calls Try.prog 17 #[.slice a n c] w fun e w' => e = .returned (.int .i64 (O.del l)) ∧ Same w w' := by
  have k1 := fun w' h' => vo_spec B n c a l w' h'
  rcases hv : O.vo l with _ | _
  · rw [(O.o_no hv).2]
    simp only [hv] at k1
    clear hv
    go_enter Try.func17, Try.ntmps17
    go_wp2_with (go_at_call 30; refine (k1 _ h).mono ?_; rintro e w' ⟨rfl, rfl⟩)
    go_ret
    exact ⟨rfl, Same.refl _⟩
  · obtain ⟨hl, h0, h1, h2, h3⟩ := O.vo_at hv
    have hn : n = 4 := by rw [← h.1]; exact hl
    subst hn
    rw [(O.o_yes hv).2]
    simp only [hv] at k1
    clear hv hl
    obtain ⟨b, off, rfl, hb, hc⟩ := h.at_ 0 (by omega)
    have c0 := hc 0 (by omega)
    rw [Nat.add_zero] at c0
    have c1 := hc 1 (by omega)
    have c2 := hc 2 (by omega)
    have c3 := hc 3 (by omega)
    have K1 := Lib.hid (k1 w h)
    unfold O.de O.de4
    clear hc k1 h
    generalize L.g l 0 = x0 at *
    generalize L.g l 1 = x1 at *
    generalize L.g l 2 = x2 at *
    generalize L.g l 3 = x3 at *
    have e1 : IntKind.i64.wrap (x3 - x0) = x3 - x0 := IntWalk.i64_in _ (by omega)
    have e2 : IntKind.i64.wrap (x3 - x0 - x2) = x3 - x0 - x2 := IntWalk.i64_in _ (by omega)
    have e3 : IntKind.i64.wrap (x3 - x0 - x2 + x1) = x3 - x0 - x2 + x1 := IntWalk.i64_in _ (by omega)
    by_cases hneg : x3 - x0 - x2 + x1 < 0
    all_goals
      go_enter Try.func17, Try.ntmps17
      go_wp2_with (go_at_call 30; refine (K1.out).mono ?_; rintro e w' ⟨rfl, rfl⟩)
      go_quiet (fail)
      all_goals go_wp2
      all_goals
        go_ret
        exact ⟨ret_int (by omega), (Same.refl _).drewN _⟩
set_option maxHeartbeats 2000000 in
theorem ex_impl (B n c : Nat) (a : Option Addr) (l : List Int) (w : World) (h : Lst B w a n l) (hB : B ≤ w.heap.size) : Calls Try.prog 28 #[.slice a n c] w fun e w' => e = .returned (.tuple #[.agg #[.int .i64 (O.ex l 0), .int .i64 (O.ex l 1), .int .i64 (O.ex l 2), .int .i64 (O.ex l 3)], .bool (O.vo l)]) ∧ Below w.heap.size w w' := by
  obtain ⟨hl, hn, _⟩ := id h
  have HL := Lib.hid hl
  have bA := Lib.hid ((Below.refl w.heap.size w).alloc (Nat.le_refl _) (.cells #[.int .i64 0, .int .i64 0, .int .i64 0, .int .i64 0] 45))
  have hA := (h.more hB).below bA.out
  have z0 : (w.alloc (.cells #[.int .i64 0, .int .i64 0, .int .i64 0, .int .i64 0] 45)).cell? ⟨w.heap.size, 0, none⟩ = some (.int .i64 0) := by simp
  have z1 : (w.alloc (.cells #[.int .i64 0, .int .i64 0, .int .i64 0, .int .i64 0] 45)).cell? ⟨w.heap.size, 1, none⟩ = some (.int .i64 0) := by simp
  have z2 : (w.alloc (.cells #[.int .i64 0, .int .i64 0, .int .i64 0, .int .i64 0] 45)).cell? ⟨w.heap.size, 2, none⟩ = some (.int .i64 0) := by simp
  have z3 : (w.alloc (.cells #[.int .i64 0, .int .i64 0, .int .i64 0, .int .i64 0] 45)).cell? ⟨w.heap.size, 3, none⟩ = some (.int .i64 0) := by simp
  have f0 : (w.alloc (.cells #[.int .i64 0, .int .i64 0, .int .i64 0, .int .i64 0] 45)).frozen? ⟨w.heap.size, 0, none⟩ = false := by simp
  have f1 : (w.alloc (.cells #[.int .i64 0, .int .i64 0, .int .i64 0, .int .i64 0] 45)).frozen? ⟨w.heap.size, 1, none⟩ = false := by simp
  have f2 : (w.alloc (.cells #[.int .i64 0, .int .i64 0, .int .i64 0, .int .i64 0] 45)).frozen? ⟨w.heap.size, 2, none⟩ = false := by simp
  have f3 : (w.alloc (.cells #[.int .i64 0, .int .i64 0, .int .i64 0, .int .i64 0] 45)).frozen? ⟨w.heap.size, 3, none⟩ = false := by simp
  clear hl h
  by_cases h4 : n = 4
  · subst h4
    obtain ⟨b, off, rfl, hb, hc⟩ := hA.at_ 0 (by omega)
    go_enter Try.func28, Try.ntmps28
    go_wp2
    generalize hW : w.alloc (.cells #[.int .i64 0, .int .i64 0, .int .i64 0, .int .i64 0] 45) = W at *
    clear hW
    go_loop [12] (fun i => ∃ k : Nat, k ≤ 4 ∧ O.okTo l k ∧ i = .int .i64 k) (fun i => 4 - (intOf i).toNat)
    case atStart => exact ⟨0, Nat.zero_le _, fun i hi => absurd hi (by omega), rfl⟩
    case round =>
      obtain ⟨k, hk, hok, rfl⟩ := hrel
      have HO := Lib.hid hok
      clear hok
      by_cases hlt : k < 4
      · have c0 := hc k hlt
        rcases hvs : T.vs (L.g l k) with _ | _
        · have HF := Lib.hid (O.vo_no (l := l) (fun q => by have := T.vs_yes (q.2 k (by have := HL.out; omega)); rw [hvs] at this; cases this))
          have k1 := fun w' => vst_impl (L.g l k) w'
          simp only [hvs] at k1
          have K1 := Lib.hid k1
          have hfin := (((bA.out.setCell (p := ⟨w.heap.size, 0, none⟩) (Nat.le_refl _) (.int .i64 0)).setCell (p := ⟨w.heap.size, 1, none⟩) (Nat.le_refl _) (.int .i64 0)).setCell (p := ⟨w.heap.size, 2, none⟩) (Nat.le_refl _) (.int .i64 0)).setCell (p := ⟨w.heap.size, 3, none⟩) (Nat.le_refl _) (.int .i64 0)
          have HN := Lib.hid hfin
          clear hvs hc hA hfin k1
          go_wp2_with (go_at_call 41; refine (K1.out _).mono ?_; rintro e w' ⟨rfl, rfl⟩)
          exact bodyPost_ret (v := .tuple #[.agg #[.int .i64 0, .int .i64 0, .int .i64 0, .int .i64 0], .bool false]) (by simp [results, Try.results28, go_sem, z0, z1, z2, z3]) rfl ⟨by rw [O.ex_no HF.out, O.ex_no HF.out, O.ex_no HF.out, O.ex_no HF.out, HF.out], HN.out⟩
        · have HS := Lib.hid (O.okTo_succ HO.out (T.vs_of hvs))
          have k1 := fun w' => vst_impl (L.g l k) w'
          simp only [hvs] at k1
          have K1 := Lib.hid k1
          clear hvs hc hA k1
          go_wp2_with (go_at_call 41; refine (K1.out _).mono ?_; rintro e w' ⟨rfl, rfl⟩)
          go_round
          case rel => exact ⟨k + 1, by omega, HS.out, by go_num⟩
          case measure => simp [intOf]; omega
      · obtain rfl : k = 4 := by omega
        have HF := Lib.hid (O.vo_yes (l := l) (by rw [HL.out]; exact ⟨rfl, HO.out⟩))
        have c0 := hc 0 (by omega)
        rw [Nat.add_zero] at c0
        have c1 := hc 1 (by omega)
        have c2 := hc 2 (by omega)
        have c3 := hc 3 (by omega)
        have hfin := (((bA.out.drew.setCell (p := ⟨w.heap.size, 0, none⟩) (Nat.le_refl _) (.int .i64 (L.g l 0))).setCell (p := ⟨w.heap.size, 1, none⟩) (Nat.le_refl _) (.int .i64 (L.g l 1))).setCell (p := ⟨w.heap.size, 2, none⟩) (Nat.le_refl _) (.int .i64 (L.g l 2))).setCell (p := ⟨w.heap.size, 3, none⟩) (Nat.le_refl _) (.int .i64 (L.g l 3))
        have HN := Lib.hid hfin
        clear hc hA hfin
        go_wp2
        go_region
        all_goals go_wp2
        all_goals
          exact bodyPost_ret (v := .tuple #[.agg #[.int .i64 (L.g l 0), .int .i64 (L.g l 1), .int .i64 (L.g l 2), .int .i64 (L.g l 3)], .bool true]) (by simp [results, Try.results28, go_sem, z0, z1, z2, z3]) rfl ⟨by rw [O.ex_yes HF.out, O.ex_yes HF.out, O.ex_yes HF.out, O.ex_yes HF.out, HF.out], HN.out⟩
  · have HF := Lib.hid (O.vo_no (l := l) (fun k => by have := HL.out; omega))
    have hd : ((n : Int) == 4) = false := by rw [beq_eq_false_iff_ne]; omega
    have hd2 : ((n : Int) != 4) = true := by rw [bne_iff_ne]; omega
    have hfin := (((bA.out.setCell (p := ⟨w.heap.size, 0, none⟩) (Nat.le_refl _) (.int .i64 0)).setCell (p := ⟨w.heap.size, 1, none⟩) (Nat.le_refl _) (.int .i64 0)).setCell (p := ⟨w.heap.size, 2, none⟩) (Nat.le_refl _) (.int .i64 0)).setCell (p := ⟨w.heap.size, 3, none⟩) (Nat.le_refl _) (.int .i64 0)
    have HN := Lib.hid hfin
    clear h4 hA hfin
    go_enter Try.func28, Try.ntmps28
    go_wp2
    exact bodyPost_ret (v := .tuple #[.agg #[.int .i64 0, .int .i64 0, .int .i64 0, .int .i64 0], .bool false]) (by simp [results, Try.results28, go_sem, z0, z1, z2, z3]) rfl ⟨by rw [O.ex_no HF.out, O.ex_no HF.out, O.ex_no HF.out, O.ex_no HF.out, HF.out], by first | exact HN.out | exact bA.out⟩
end Go.Proofs.Ytoaldklkacmflaa
