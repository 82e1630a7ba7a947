/-
  How the laws of chapter 14 compare lists of labels, and look for a number in a list.
-/
import Derived.Test.YtgbbbmljanlogaaSpan
import Derived.Test.YtgbbbmljanlogaaLst
import Derived.BigQuiet
import Derived.Deep.QuietTactic
namespace Go.Proofs.Ytgbbbmljanlogaa
open Go.RowKit
set_option linter.unusedVariables false
set_option maxRecDepth 100000
set_option maxHeartbeats 1000000 in
theorem equalLabels_any (n c c' B : Nat) (a a' : Option Addr) (l : List (Int × Int)) (w : World) (h : Sps B w a n l) (h' : Sps B w a' n l) : Calls Try.prog 14 #[.slice a n c, .slice a' n c'] w fun e w' => e = .returned (.bool true) ∧ Same w w' := by
  have hn := h.2.1
  go_enter Try.func14, Try.ntmps14
  go_wp2
  go_loopw [5] (fun i wr => ∃ k : Nat, k ≤ n ∧ i = .int .i64 k ∧ Same w wr) (fun i _ => n - (intOf i).toNat)
  case atStart => exact ⟨0, Nat.zero_le _, rfl, Same.refl _⟩
  case round =>
    obtain ⟨k, hk, rfl, hs⟩ := hrel
    by_cases hlt : k < n
    · obtain ⟨b, off, rfl, hbb, hc⟩ := (h.same hs).at_ k hlt
      obtain ⟨b', off', rfl, hbb', hc'⟩ := (h'.same hs).at_ k hlt
      obtain ⟨c0, c1⟩ := hc k hlt
      obtain ⟨d0, d1⟩ := hc' k hlt
      clear hc hc'
      generalize V.lo l k = x at *
      generalize V.hi l k = y at *
      go_wp2_with fail
      go_quiet (fail)
      go_wp2
      go_roundw
      case rel => exact ⟨k + 1, by omega, by go_num, hs.drewN _⟩
      case measure => simp [intOf]; omega
    · go_wp2
      go_ret
      exact ⟨rfl, hs⟩
set_option maxHeartbeats 1000000 in
theorem isInL_yes (B n c j : Nat) (a : Option Addr) (l : List Int) (x : Int) (w : World) (h : Lst B w a n l) (hj : j < n) (hx : L.g l j = x) : Calls Try.prog 16 #[.slice a n c, .int .i64 x] w fun e w' => e = .returned (.bool true) ∧ Same w w' := by
  have hn := h.2.1
  have HX := Lib.hid hx
  clear hx
  go_enter Try.func16, Try.ntmps16
  go_wp2
  go_loopw [5] (fun i wr => ∃ k : Nat, k ≤ j ∧ i = .int .i64 k ∧ Same w wr) (fun i _ => n - (intOf i).toNat)
  case atStart => exact ⟨0, Nat.zero_le _, rfl, Same.refl _⟩
  case round =>
    obtain ⟨k, hk, rfl, hs⟩ := hrel
    have hlt : k < n := by omega
    obtain ⟨b, off, rfl, hbb, hc⟩ := (h.same hs).at_ k hlt
    have ck := hc k hlt
    clear hc
    by_cases he : L.g l k = x
    · have he' : (L.g l k == x) = true := by rw [he]; simp
      generalize L.g l k = y at *
      clear he
      go_wp2
      try go_quiet (fail)
      try go_wp2
      go_ret
      exact ⟨rfl, by first | exact hs | exact hs.drewN _⟩
    · have he' : (L.g l k == x) = false := beq_eq_false_iff_ne.2 he
      have hkj : k < j := by
        rcases Nat.lt_or_ge k j with q | q
        · exact q
        · obtain rfl : k = j := by omega
          exact absurd HX.out he
      generalize L.g l k = y at *
      clear he
      go_wp2
      try go_quiet (fail)
      try go_wp2
      go_roundw
      case rel => exact ⟨k + 1, by omega, by go_num, by first | exact hs | exact hs.drewN _⟩
      case measure => simp [intOf]; omega
end Go.Proofs.Ytgbbbmljanlogaa
