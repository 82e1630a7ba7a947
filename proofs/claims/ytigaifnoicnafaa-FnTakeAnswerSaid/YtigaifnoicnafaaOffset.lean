/-
  Offsets and delays (chapter 11): the program's and the model's functions.
-/
import Derived.Test.YtigaifnoicnafaaClock
import Derived.Test.YtigaifnoicnafaaStamp
import Derived.Test.YtigaifnoicnafaaOMath
import Derived.Test.YtigaifnoicnafaaISpan
import Derived.Test.YtigaifnoicnafaaSpan
import Derived.RegionTactic
import Derived.ChangeAlike
import Derived.BigRegion
namespace Go.Proofs.Ytigaifnoicnafaa
open Go.RowKit
set_option linter.unusedVariables false
set_option maxRecDepth 100000
set_option maxHeartbeats 2000000 in
theorem ex_impl (B n c : Nat) (a : Option Addr) (l : List Int) (w : World) (h : Lst B w a n l) (hB : B ≤ w.heap.size) : Calls Try.prog 42 #[.slice a n c] w fun e w' => e = .returned (.tuple #[.agg #[.int .i64 (O.ex l 0), .int .i64 (O.ex l 1), .int .i64 (O.ex l 2), .int .i64 (O.ex l 3)], .bool (O.vo l)]) ∧ Below w.heap.size w w' := by
  obtain ⟨hl, hn, _⟩ := id h
  have HL := Lib.hid hl
  have bA := Lib.hid ((Below.refl w.heap.size w).alloc (Nat.le_refl _) (.cells #[.int .i64 0, .int .i64 0, .int .i64 0, .int .i64 0] 58))
  have hA := (h.more hB).below bA.out
  have z0 : (w.alloc (.cells #[.int .i64 0, .int .i64 0, .int .i64 0, .int .i64 0] 58)).cell? ⟨w.heap.size, 0, none⟩ = some (.int .i64 0) := by simp
  have z1 : (w.alloc (.cells #[.int .i64 0, .int .i64 0, .int .i64 0, .int .i64 0] 58)).cell? ⟨w.heap.size, 1, none⟩ = some (.int .i64 0) := by simp
  have z2 : (w.alloc (.cells #[.int .i64 0, .int .i64 0, .int .i64 0, .int .i64 0] 58)).cell? ⟨w.heap.size, 2, none⟩ = some (.int .i64 0) := by simp
  have z3 : (w.alloc (.cells #[.int .i64 0, .int .i64 0, .int .i64 0, .int .i64 0] 58)).cell? ⟨w.heap.size, 3, none⟩ = some (.int .i64 0) := by simp
  have f0 : (w.alloc (.cells #[.int .i64 0, .int .i64 0, .int .i64 0, .int .i64 0] 58)).frozen? ⟨w.heap.size, 0, none⟩ = false := by simp
  have f1 : (w.alloc (.cells #[.int .i64 0, .int .i64 0, .int .i64 0, .int .i64 0] 58)).frozen? ⟨w.heap.size, 1, none⟩ = false := by simp
  have f2 : (w.alloc (.cells #[.int .i64 0, .int .i64 0, .int .i64 0, .int .i64 0] 58)).frozen? ⟨w.heap.size, 2, none⟩ = false := by simp
  have f3 : (w.alloc (.cells #[.int .i64 0, .int .i64 0, .int .i64 0, .int .i64 0] 58)).frozen? ⟨w.heap.size, 3, none⟩ = false := by simp
  clear hl h
  by_cases h4 : n = 4
  · subst h4
    obtain ⟨b, off, rfl, hb, hc⟩ := hA.at_ 0 (by omega)
    go_enter Try.func42, Try.ntmps42
    go_wp2
    generalize hW : w.alloc (.cells #[.int .i64 0, .int .i64 0, .int .i64 0, .int .i64 0] 58) = W at *
    clear hW
    go_loop [12] (fun i => ∃ k : Nat, k ≤ 4 ∧ O.okTo l k ∧ i = .int .i64 k) (fun i => 4 - (intOf i).toNat)
    case atStart => exact ⟨0, Nat.zero_le _, fun i hi => absurd hi (by omega), rfl⟩
    case round =>
      obtain ⟨k, hk, hok, rfl⟩ := hrel
      have HO := Lib.hid hok
      clear hok
      by_cases hlt : k < 4
      · have c0 := hc k hlt
        rcases hvs : T.vs (L.g l k) with _ | _
        · have HF := Lib.hid (O.vo_no (l := l) (fun q => by have := T.vs_yes (q.2 k (by have := HL.out; omega)); rw [hvs] at this; cases this))
          have k1 := fun w' => vst_impl (L.g l k) w'
          simp only [hvs] at k1
          have K1 := Lib.hid k1
          have hfin := (((bA.out.setCell (p := ⟨w.heap.size, 0, none⟩) (Nat.le_refl _) (.int .i64 0)).setCell (p := ⟨w.heap.size, 1, none⟩) (Nat.le_refl _) (.int .i64 0)).setCell (p := ⟨w.heap.size, 2, none⟩) (Nat.le_refl _) (.int .i64 0)).setCell (p := ⟨w.heap.size, 3, none⟩) (Nat.le_refl _) (.int .i64 0)
          have HN := Lib.hid hfin
          clear hvs hc hA hfin k1
          go_wp2_with (go_at_call 31; refine (K1.out _).mono ?_; rintro e w' ⟨rfl, rfl⟩)
          exact bodyPost_ret (v := .tuple #[.agg #[.int .i64 0, .int .i64 0, .int .i64 0, .int .i64 0], .bool false]) (by simp [results, Try.results42, go_sem, z0, z1, z2, z3]) rfl ⟨by rw [O.ex_no HF.out, O.ex_no HF.out, O.ex_no HF.out, O.ex_no HF.out, HF.out], HN.out⟩
        · have HS := Lib.hid (O.okTo_succ HO.out (T.vs_of hvs))
          have k1 := fun w' => vst_impl (L.g l k) w'
          simp only [hvs] at k1
          have K1 := Lib.hid k1
          clear hvs hc hA k1
          go_wp2_with (go_at_call 31; refine (K1.out _).mono ?_; rintro e w' ⟨rfl, rfl⟩)
          go_round
          case rel => exact ⟨k + 1, by omega, HS.out, by go_num⟩
          case measure => simp [intOf]; omega
      · obtain rfl : k = 4 := by omega
        have HF := Lib.hid (O.vo_yes (l := l) (by rw [HL.out]; exact ⟨rfl, HO.out⟩))
        have c0 := hc 0 (by omega)
        rw [Nat.add_zero] at c0
        have c1 := hc 1 (by omega)
        have c2 := hc 2 (by omega)
        have c3 := hc 3 (by omega)
        have hfin := (((bA.out.drew.setCell (p := ⟨w.heap.size, 0, none⟩) (Nat.le_refl _) (.int .i64 (L.g l 0))).setCell (p := ⟨w.heap.size, 1, none⟩) (Nat.le_refl _) (.int .i64 (L.g l 1))).setCell (p := ⟨w.heap.size, 2, none⟩) (Nat.le_refl _) (.int .i64 (L.g l 2))).setCell (p := ⟨w.heap.size, 3, none⟩) (Nat.le_refl _) (.int .i64 (L.g l 3))
        have HN := Lib.hid hfin
        clear hc hA hfin
        go_wp2
        go_region
        all_goals go_wp2
        all_goals
          exact bodyPost_ret (v := .tuple #[.agg #[.int .i64 (L.g l 0), .int .i64 (L.g l 1), .int .i64 (L.g l 2), .int .i64 (L.g l 3)], .bool true]) (by simp [results, Try.results42, go_sem, z0, z1, z2, z3]) rfl ⟨by rw [O.ex_yes HF.out, O.ex_yes HF.out, O.ex_yes HF.out, O.ex_yes HF.out, HF.out], HN.out⟩
  · have HF := Lib.hid (O.vo_no (l := l) (fun k => by have := HL.out; omega))
    have hd : ((n : Int) == 4) = false := by rw [beq_eq_false_iff_ne]; omega
    have hd2 : ((n : Int) != 4) = true := by rw [bne_iff_ne]; omega
    have hfin := (((bA.out.setCell (p := ⟨w.heap.size, 0, none⟩) (Nat.le_refl _) (.int .i64 0)).setCell (p := ⟨w.heap.size, 1, none⟩) (Nat.le_refl _) (.int .i64 0)).setCell (p := ⟨w.heap.size, 2, none⟩) (Nat.le_refl _) (.int .i64 0)).setCell (p := ⟨w.heap.size, 3, none⟩) (Nat.le_refl _) (.int .i64 0)
    have HN := Lib.hid hfin
    clear h4 hA hfin
    go_enter Try.func42, Try.ntmps42
    go_wp2
    exact bodyPost_ret (v := .tuple #[.agg #[.int .i64 0, .int .i64 0, .int .i64 0, .int .i64 0], .bool false]) (by simp [results, Try.results42, go_sem, z0, z1, z2, z3]) rfl ⟨by rw [O.ex_no HF.out, O.ex_no HF.out, O.ex_no HF.out, O.ex_no HF.out, HF.out], by first | exact HN.out | exact bA.out⟩
end Go.Proofs.Ytigaifnoicnafaa
