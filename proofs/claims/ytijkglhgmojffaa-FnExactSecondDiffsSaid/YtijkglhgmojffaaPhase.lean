/-
  Phases (chapter 8): what is valid, and the slope; the program's and the model's functions.
-/
import Derived.Test.YtijkglhgmojffaaClock
import Derived.Test.YtijkglhgmojffaaPMath
namespace Go.Proofs.Ytijkglhgmojffaa
open Go.RowKit
set_option linter.unusedVariables false
set_option maxRecDepth 100000
set_option maxHeartbeats 1000000 in
theorem vp_impl (B n c : Nat) (a : Option Addr) (l : List Int) (w : World) (h : Lst B w a n l) : Calls Try.prog 30 #[.slice a n c] w fun e w' => e = .returned (.bool (F.vp l)) ∧ Same w w' := by
  obtain ⟨hl, hn, _⟩ := id h
  have HL := Lib.hid hl
  clear hl
  by_cases h16 : 16 < n
  · have HF := Lib.hid (F.vp_no (l := l) (fun k => by have := HL.out; omega))
    go_enter Try.func30, Try.ntmps30
    go_wp2
    go_ret
    exact ⟨ret_bool HF.out.symm, Same.refl _⟩
  go_enter Try.func30, Try.ntmps30
  go_wp2
  go_loopw [10] (fun i wr => ∃ k : Nat, k ≤ n ∧ F.okTo l k ∧ i = .int .i64 k ∧ Same w wr) (fun i _ => n - (intOf i).toNat)
  case atStart => exact ⟨0, Nat.zero_le _, fun i hi => absurd hi (by omega), rfl, Same.refl _⟩
  case round =>
    obtain ⟨k, hk, hok, rfl, hs⟩ := hrel
    have HO := Lib.hid hok
    clear hok
    have h := h.same hs
    by_cases hlt : k < n
    · obtain ⟨b, off, rfl, hb, hc⟩ := h.at_ k hlt
      have c0 := hc k hlt
      clear hc
      rcases inR_cases (L.g l k) (-1000000) 1000000 with ⟨r0, r1⟩ | ⟨r0, r1⟩
      · have HS := Lib.hid (F.okTo_succ HO.out r1)
        clear r1
        go_wp2_with (go_at_call 31; refine (inR_impl _ _ _ _).mono ?_; rintro e w' ⟨rfl, rfl⟩)
        go_roundw
        case rel => exact ⟨k + 1, by omega, HS.out, by go_num, hs⟩
        case measure => simp [intOf]; omega
      · have HF := Lib.hid (F.vp_no (l := l) (fun q => r1 (q.2 k (by have := HL.out; omega))))
        clear r1
        go_wp2_with (go_at_call 31; refine (inR_impl _ _ _ _).mono ?_; rintro e w' ⟨rfl, rfl⟩)
        go_ret
        exact ⟨ret_bool HF.out.symm, hs⟩
    · obtain rfl : k = n := by omega
      have HF := Lib.hid (F.vp_yes (l := l) (by rw [HL.out]; exact ⟨by omega, HO.out⟩))
      go_wp2
      go_ret
      exact ⟨ret_bool HF.out.symm, hs⟩
set_option maxHeartbeats 1000000 in
theorem ai_spec (B n c : Nat) (a : Option Addr) (l : List Int) (w : World) (h : Lst B w a n l) : Calls Try.prog 41 #[.slice a n c, .int .i64 (-1000000), .int .i64 1000000] w fun e w' => e = .returned (.bool (F.ai l)) ∧ Same w w' := by
  obtain ⟨hl, hn, _⟩ := id h
  have HL := Lib.hid hl
  clear hl
  go_enter Try.func41, Try.ntmps41
  go_wp2
  go_loopw [7] (fun i wr => ∃ k : Nat, k ≤ n ∧ F.okTo l k ∧ i = .int .i64 k ∧ Same w wr) (fun i _ => n - (intOf i).toNat)
  case atStart => exact ⟨0, Nat.zero_le _, fun i hi => absurd hi (by omega), rfl, Same.refl _⟩
  case round =>
    obtain ⟨k, hk, hok, rfl, hs⟩ := hrel
    have HO := Lib.hid hok
    clear hok
    have h := h.same hs
    by_cases hlt : k < n
    · obtain ⟨b, off, rfl, hb, hc⟩ := h.at_ k hlt
      have c0 := hc k hlt
      clear hc
      rcases inR_cases (L.g l k) (-1000000) 1000000 with ⟨r0, r1⟩ | ⟨r0, r1⟩
      · have HS := Lib.hid (F.okTo_succ HO.out r1)
        clear r1
        go_wp2_with (go_at_call 35; refine (inR_spec _ _ _ _).mono ?_; rintro e w' ⟨rfl, rfl⟩)
        go_roundw
        case rel => exact ⟨k + 1, by omega, HS.out, by go_num, hs⟩
        case measure => simp [intOf]; omega
      · have HF := Lib.hid (show F.ai l = false from decide_eq_false (fun q => r1 (q k (by have := HL.out; omega))))
        clear r1
        go_wp2_with (go_at_call 35; refine (inR_spec _ _ _ _).mono ?_; rintro e w' ⟨rfl, rfl⟩)
        go_ret
        exact ⟨ret_bool HF.out.symm, hs⟩
    · obtain rfl : k = n := by omega
      have HF := Lib.hid (show F.ai l = true from decide_eq_true (by rw [HL.out]; exact HO.out))
      go_wp2
      go_ret
      exact ⟨ret_bool HF.out.symm, hs⟩
theorem vp_spec (B n c : Nat) (a : Option Addr) (l : List Int) (w : World) (h : Lst B w a n l) : Calls Try.prog 34 #[.slice a n c] w fun e w' => e = .returned (.bool (F.vp l)) ∧ Same w w' := by
  obtain ⟨hl, hn, _⟩ := id h
  by_cases h16 : n ≤ 16
  · have hv : F.vp l = F.ai l := by unfold F.vp F.ai; congr 1; simp; intro; omega
    rw [hv]
    clear hv
    go_enter Try.func34, Try.ntmps34
    go_wp2_with fail
    refine (ai_spec _ _ _ _ _ _ h).mono ?_
    rintro e w1 ⟨rfl, q1⟩
    rcases hb : F.ai l with _ | _
    all_goals
      go_wp2
      go_ret
      exact ⟨ret_bool hb.symm, q1⟩
  · have HF := Lib.hid (F.vp_no (l := l) (fun k => by omega))
    have hd : decide ((n : Int) ≤ 16) = false := decide_eq_false (by omega)
    go_enter Try.func34, Try.ntmps34
    go_wp2
    go_ret
    exact ⟨ret_bool HF.out.symm, Same.refl _⟩
end Go.Proofs.Ytijkglhgmojffaa
