/-
  Pulses (chapter 14): what is valid, what is clean; the program's and the model's functions.
-/
import Derived.Test.YtgbbbmljanlogaaOwnN
import Derived.Test.YtgbbbmljanlogaaUMath
import Derived.BigQuiet
import Derived.Deep.QuietTactic
namespace Go.Proofs.Ytgbbbmljanlogaa
open Go.RowKit
set_option linter.unusedVariables false
set_option maxRecDepth 100000
set_option maxHeartbeats 1000000 in
theorem vp_impl (B n c : Nat) (a : Option Addr) (l : List Int) (w : World) (h : Lst B w a n l) : Calls Try.prog 30 #[.slice a n c] w fun e w' => e = .returned (.bool (U.vp l)) ∧ w = w' := by
  obtain ⟨hl, hn, _⟩ := id h
  by_cases h8 : 16 < n
  · have h8' : (16 : Int) < (n : Int) := by omega
    have e : U.vp l = false := U.vp_long (by omega)
    rw [e]
    clear h hl e
    go_enter Try.func30, Try.ntmps30
    go_wp2
    go_ret
    exact ⟨rfl, rfl⟩
  have h8' : ¬ (16 : Int) < (n : Int) := by omega
  have HL := Lib.hid hl
  clear hl
  go_enter Try.func30, Try.ntmps30
  go_wp2
  go_loop [10] (fun i => ∃ k : Nat, k ≤ n ∧ U.okTo l k ∧ i = .int .i64 k) (fun i => n - (intOf i).toNat)
  case atStart => exact ⟨0, Nat.zero_le _, fun i hi => absurd hi (by omega), rfl⟩
  case round =>
    obtain ⟨k, hk, hok, rfl⟩ := hrel
    have HO := Lib.hid hok
    clear hok
    by_cases hlt : k < n
    · obtain ⟨b, off, rfl, hb, hc⟩ := h.at_ k hlt
      have ck := hc k hlt
      rcases inR_cases (L.g l k) 0 100000000 with ⟨r0, r1⟩ | ⟨r0, r1⟩
      · rcases Nat.eq_zero_or_pos k with hz | hz
        · subst hz
          have ck0 : w.cell? ⟨b, off, none⟩ = some (.int .i64 (L.g l 0)) := ck
          clear hc ck
          go_wp2_with (go_at_call 43; refine (inR_impl _ _ _ _).mono ?_; rintro e w' ⟨rfl, rfl⟩)
          go_round
          case rel => exact ⟨1, by omega, U.okTo_succ HO.out ⟨r1, fun h => by omega⟩, by go_num⟩
          case measure => simp [intOf]; omega
        · obtain ⟨m, rfl⟩ : ∃ m, k = m + 1 := ⟨k - 1, by omega⟩
          have cm := hc m (by omega)
          clear hc
          by_cases hd : L.g l m < L.g l (m + 1)
          · have hd' : decide (L.g l (m + 1) ≤ L.g l m) = false := by simp; omega
            go_wp2_with (go_at_call 43; refine (inR_impl _ _ _ _).mono ?_; rintro e w' ⟨rfl, rfl⟩)
            go_round
            case rel => exact ⟨m + 1 + 1, by omega, U.okTo_succ HO.out ⟨r1, fun _ => hd⟩, by go_num⟩
            case measure => simp [intOf]; omega
          · have hd' : decide (L.g l (m + 1) ≤ L.g l m) = true := by simp; omega
            go_wp2_with (go_at_call 43; refine (inR_impl _ _ _ _).mono ?_; rintro e w' ⟨rfl, rfl⟩)
            go_ret
            exact ⟨ret_bool (U.vp_bad (m + 1) (by have := HL.out; omega) (fun h => by have := h.2 (by omega); simp only [Nat.add_sub_cancel] at this; omega)).symm, rfl⟩
      · clear hc
        go_wp2_with (go_at_call 43; refine (inR_impl _ _ _ _).mono ?_; rintro e w' ⟨rfl, rfl⟩)
        go_ret
        exact ⟨ret_bool (U.vp_bad k (by have := HL.out; omega) (fun h => r1 h.1)).symm, rfl⟩
    · go_wp2
      go_ret
      exact ⟨ret_bool (U.vp_yes (by have := HL.out; omega) (fun i hi => HO.out i (by have := HL.out; omega))).symm, rfl⟩
set_option maxHeartbeats 1000000 in
theorem vp_spec (B n c : Nat) (a : Option Addr) (l : List Int) (w : World) (h : Lst B w a n l) : Calls Try.prog 32 #[.slice a n c] w fun e w' => e = .returned (.bool (U.vp l)) ∧ Same w w' := by
  obtain ⟨hl, hn, _⟩ := id h
  have HL := Lib.hid hl
  clear hl
  go_enter Try.func32, Try.ntmps32
  go_wp2
  go_loopw [3] (fun i wr => ∃ k : Nat, k ≤ n ∧ U.okTo l k ∧ i = .int .i64 k ∧ Same w wr) (fun i _ => n - (intOf i).toNat)
  case atStart => exact ⟨0, Nat.zero_le _, fun i hi => absurd hi (by omega), rfl, Same.refl _⟩
  case round =>
    obtain ⟨k, hk, hok, rfl, hs⟩ := hrel
    have HO := Lib.hid hok
    clear hok
    have h := h.same hs
    by_cases hlt : k < n
    · obtain ⟨b, off, rfl, hb, hc⟩ := h.at_ k hlt
      have ck := hc k hlt
      rcases inR_cases (L.g l k) 0 100000000 with ⟨r0, r1⟩ | ⟨r0, r1⟩
      · rcases Nat.eq_zero_or_pos k with hz | hz
        · subst hz
          have ck0 : wr.cell? ⟨b, off, none⟩ = some (.int .i64 (L.g l 0)) := ck
          clear hc ck
          go_wp2
          go_quiet ((go_at_call 44; exact qsL (inR_spec _ _ _)))
          go_wp2
          go_roundw
          case rel => exact ⟨1, by omega, U.okTo_succ HO.out ⟨r1, fun h => by omega⟩, by go_num, hs.drewN _⟩
          case measure => simp [intOf]; omega
        · obtain ⟨m, rfl⟩ : ∃ m, k = m + 1 := ⟨k - 1, by omega⟩
          have cm := hc m (by omega)
          clear hc
          by_cases hd : L.g l m < L.g l (m + 1)
          · have hd' : decide (L.g l (m + 1) ≤ L.g l m) = false := by simp; omega
            go_wp2
            go_quiet ((go_at_call 44; exact qsL (inR_spec _ _ _)))
            go_wp2
            go_roundw
            case rel => exact ⟨m + 1 + 1, by omega, U.okTo_succ HO.out ⟨r1, fun _ => hd⟩, by go_num, hs.drewN _⟩
            case measure => simp [intOf]; omega
          · have hd' : decide (L.g l (m + 1) ≤ L.g l m) = true := by simp; omega
            go_wp2
            go_quiet ((go_at_call 44; exact qsL (inR_spec _ _ _)))
            go_wp2
            go_ret
            exact ⟨ret_bool (U.vp_bad (m + 1) (by have := HL.out; omega) (fun h => by have := h.2 (by omega); simp only [Nat.add_sub_cancel] at this; omega)).symm, hs.drewN _⟩
      · clear hc
        go_wp2
        go_quiet ((go_at_call 44; exact qsL (inR_spec _ _ _)))
        go_wp2
        go_ret
        exact ⟨ret_bool (U.vp_bad k (by have := HL.out; omega) (fun h => r1 h.1)).symm, hs.drewN _⟩
    · by_cases h8 : 16 < n
      · have h8' : decide ((n : Int) ≤ 16) = false := by simp; omega
        go_wp2
        go_ret
        exact ⟨ret_bool (U.vp_long (by have := HL.out; omega)).symm, hs⟩
      · have h8' : (n : Int) ≤ 16 := by omega
        go_wp2
        go_ret
        exact ⟨ret_bool (U.vp_yes (by have := HL.out; omega) (fun i hi => HO.out i (by have := HL.out; omega))).symm, hs⟩
theorem apart_impl (x y : Int) (hx : 0 ≤ x ∧ x ≤ 100000000) (hy : 0 ≤ y ∧ y ≤ 100000000) (w : World) : Calls Try.prog 31 #[.int .i64 x, .int .i64 y] w fun e w' => e = .returned (.bool (decide (U.near (y - x)))) ∧ w = w' := by
  have e1 : IntKind.i64.wrap (y - x) = y - x := IntWalk.i64_in _ (by omega)
  have e2 : IntKind.i64.wrap (y - x + 2000) = y - x + 2000 := IntWalk.i64_in _ (by omega)
  by_cases h : 1000000 ≤ y - x + 2000
  · have em : (y - x + 2000).tmod 1000000 = (y - x + 2000) % 1000000 := Int.tmod_eq_emod_of_nonneg (by omega)
    have hN : decide (U.near (y - x)) = decide ((y - x + 2000) % 1000000 ≤ 4000) := by unfold U.near; simp [h]
    have e3 : IntKind.i64.wrap ((y - x + 2000) % 1000000) = (y - x + 2000) % 1000000 := IntWalk.i64_in _ (by omega)
    rw [hN]
    clear hN
    go_enter Try.func31, Try.ntmps31
    go_wp2
    go_ret
    exact ⟨rfl, rfl⟩
  · have hN : decide (U.near (y - x)) = false := decide_eq_false (fun q => h q.1)
    have h' : decide (1000000 ≤ y - x + 2000) = false := decide_eq_false h
    rw [hN]
    clear hN
    go_enter Try.func31, Try.ntmps31
    go_wp2
    go_ret
    exact ⟨rfl, rfl⟩
theorem near_iff (d : Int) (h : 0 ≤ d) : U.near d ↔ 998000 ≤ d ∧ (d % 1000000 ≤ 2000 ∨ 998000 ≤ d % 1000000) := by unfold U.near; omega
theorem near_spec (d : Int) (hd : 0 ≤ d ∧ d ≤ 100000000) (w : World) : Calls Try.prog 33 #[.int .i64 d] w fun e w' => e = .returned (.bool (decide (U.near d))) ∧ w = w' := by
  have em : d.tmod 1000000 = d % 1000000 := Int.tmod_eq_emod_of_nonneg (by omega)
  have e3 : IntKind.i64.wrap (d % 1000000) = d % 1000000 := IntWalk.i64_in _ (by omega)
  have hi := near_iff d hd.1
  by_cases h : 998000 ≤ d
  · by_cases h2 : d % 1000000 ≤ 2000
    · rw [decide_eq_true (hi.2 ⟨h, .inl h2⟩)]
      clear hi
      go_enter Try.func33, Try.ntmps33
      go_wp2
      go_ret
      exact ⟨rfl, rfl⟩
    · have hN : decide (U.near d) = decide (998000 ≤ d % 1000000) := by
        by_cases q : 998000 ≤ d % 1000000
        · rw [decide_eq_true q, decide_eq_true (hi.2 ⟨h, .inr q⟩)]
        · rw [decide_eq_false q, decide_eq_false (fun z => by rcases (hi.1 z).2 with z | z; exact h2 z; exact q z)]
      have h2' : decide (d % 1000000 ≤ 2000) = false := decide_eq_false h2
      rw [hN]
      clear hN hi
      go_enter Try.func33, Try.ntmps33
      go_wp2
      go_ret
      exact ⟨rfl, rfl⟩
  · have hN : decide (U.near d) = false := decide_eq_false (fun q => h (hi.1 q).1)
    have h' : decide (998000 ≤ d) = false := decide_eq_false h
    rw [hN]
    clear hN hi
    go_enter Try.func33, Try.ntmps33
    go_wp2
    go_ret
    exact ⟨rfl, rfl⟩
end Go.Proofs.Ytgbbbmljanlogaa
