/-
  How the laws of chapter 6 compare lists of buckets; the generators of AddSample and WithoutSpikes.
-/
import Derived.Test.YtoaaedbfjbgakaaOwnBk
import Derived.BigQuiet
import Derived.Deep.QuietTactic
namespace Go.Proofs.Ytoaaedbfjbgakaa
open Go.RowKit
set_option linter.unusedVariables false
set_option maxRecDepth 100000
set_option maxHeartbeats 1000000 in
theorem equalBuckets_any (n c c' B : Nat) (a a' : Option Addr) (l : List Q.Sm) (w : World) (h : Sms B w a n l) (h' : Sms B w a' n l) : Calls Try.prog 32 #[.slice a n c, .slice a' n c'] w fun e w' => e = .returned (.bool true) ∧ Same w w' := by
  have hn := h.2.1
  go_enter Try.func32, Try.ntmps32
  go_wp2
  go_loopw [5] (fun i wr => ∃ k : Nat, k ≤ n ∧ i = .int .i64 k ∧ Same w wr) (fun i _ => n - (intOf i).toNat)
  case atStart => exact ⟨0, Nat.zero_le _, rfl, Same.refl _⟩
  case round =>
    obtain ⟨k, hk, rfl, hs⟩ := hrel
    by_cases hlt : k < n
    · obtain ⟨b, off, rfl, hbb, hc⟩ := (h.same hs).at_ k hlt
      obtain ⟨b', off', rfl, hbb', hc'⟩ := (h'.same hs).at_ k hlt
      obtain ⟨c0, c1, c2⟩ := hc k hlt
      obtain ⟨d0, d1, d2⟩ := hc' k hlt
      clear hc hc'
      generalize Q.of l k = x at *
      generalize Q.de l k = y at *
      generalize Q.tm l k = z at *
      go_wp2_with fail
      go_quiet (fail)
      go_wp2
      go_roundw
      case rel => exact ⟨k + 1, by omega, by go_num, hs.drewN _⟩
      case measure => simp [intOf]; omega
    · go_wp2
      go_ret
      exact ⟨rfl, hs⟩
theorem Sms.far {w w' : World} {r n : Nat} {a : Option Addr} {l : List Q.Sm} (h : Sms w.heap.size w a n l) (hf : Far w r w') (hr : ∀ x, a = some x → r < x.block) : Sms w'.heap.size w' a n l := by
  refine ⟨h.1, h.2.1, ?_⟩
  rcases Nat.eq_zero_or_pos n with h0 | h0
  · exact .inl h0
  · obtain ⟨b, off, e, hb, hc⟩ := h.at_ 0 h0
    have hne : b ≠ r := by have := hr _ e; simp at this; omega
    exact .inr ⟨b, off, e, Nat.lt_of_lt_of_le hb hf.size, fun i hi => ⟨(hf.cell b (off + i * 3) hb hne).trans (hc i hi).1, (hf.cell b (off + i * 3 + 1) hb hne).trans (hc i hi).2.1, (hf.cell b (off + i * 3 + 2) hb hne).trans (hc i hi).2.2⟩⟩
end Go.Proofs.Ytoaaedbfjbgakaa
