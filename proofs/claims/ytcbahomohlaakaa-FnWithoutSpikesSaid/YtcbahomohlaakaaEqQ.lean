/-
  How the laws of chapter 6 compare lists of samples; the generators of AddSample and WithoutSpikes.
-/
import Derived.Test.YtcbahomohlaakaaDrawQ
import Derived.Test.YtcbahomohlaakaaStillIn
import Derived.BigQuiet
import Derived.Deep.QuietTactic
namespace Go.Proofs.Ytcbahomohlaakaa
open Go.RowKit
set_option linter.unusedVariables false
set_option maxRecDepth 100000
set_option maxHeartbeats 1000000 in
theorem equalSamples_any (n c c' B : Nat) (a a' : Option Addr) (l : List Q.Sm) (w : World) (h : Sms B w a n l) (h' : Sms B w a' n l) : Calls Try.prog 22 #[.slice a n c, .slice a' n c'] w fun e w' => e = .returned (.bool true) ∧ Same w w' := by
  have hn := h.2.1
  go_enter Try.func22, Try.ntmps22
  go_wp2
  go_loopw [5] (fun i wr => ∃ k : Nat, k ≤ n ∧ i = .int .i64 k ∧ Same w wr) (fun i _ => n - (intOf i).toNat)
  case atStart => exact ⟨0, Nat.zero_le _, rfl, Same.refl _⟩
  case round =>
    obtain ⟨k, hk, rfl, hs⟩ := hrel
    by_cases hlt : k < n
    · obtain ⟨b, off, rfl, hbb, hc⟩ := (h.same hs).at_ k hlt
      obtain ⟨b', off', rfl, hbb', hc'⟩ := (h'.same hs).at_ k hlt
      obtain ⟨c0, c1, c2⟩ := hc k hlt
      obtain ⟨d0, d1, d2⟩ := hc' k hlt
      clear hc hc'
      generalize Q.of l k = x at *
      generalize Q.de l k = y at *
      generalize Q.tm l k = z at *
      go_wp2_with fail
      go_quiet (fail)
      go_wp2
      go_roundw
      case rel => exact ⟨k + 1, by omega, by go_num, hs.drewN _⟩
      case measure => simp [intOf]; omega
    · go_wp2
      go_ret
      exact ⟨rfl, hs⟩
theorem Sms.far {w w' : World} {r n : Nat} {a : Option Addr} {l : List Q.Sm} (h : Sms w.heap.size w a n l) (hf : Far w r w') (hr : ∀ x, a = some x → r < x.block) : Sms w'.heap.size w' a n l := by
  refine ⟨h.1, h.2.1, ?_⟩
  rcases Nat.eq_zero_or_pos n with h0 | h0
  · exact .inl h0
  · obtain ⟨b, off, e, hb, hc⟩ := h.at_ 0 h0
    have hne : b ≠ r := by have := hr _ e; simp at this; omega
    exact .inr ⟨b, off, e, Nat.lt_of_lt_of_le hb hf.size, fun i hi => ⟨(hf.cell b (off + i * 3) hb hne).trans (hc i hi).1, (hf.cell b (off + i * 3 + 1) hb hne).trans (hc i hi).2.1, (hf.cell b (off + i * 3 + 2) hb hne).trans (hc i hi).2.2⟩⟩
/-- Some samples and some slack. -/
def SmTwo (w : World) (e : Ending) (w' : World) : Prop := ∃ a c l s, e = .returned (.tuple #[.slice a l.length c, .int .i64 s]) ∧ (1 ≤ l.length ∧ l.length ≤ 9) ∧ l.length ≤ c ∧ c ≤ maxLen ∧ Sms w'.heap.size w' a l.length l ∧ Small3 l ∧ (-1 ≤ s ∧ s ≤ 1000001) ∧ Below w.heap.size w w'
set_option maxHeartbeats 1000000 in
theorem DrawWithoutSpikes_any (w : World) (a : Option Addr) (len cap : Nat) (h : Code w a len) (hcap : len ≤ cap) : Calls Try.prog 24 #[.slice a len cap] w (SmTwo w) := by
  go_enter Try.func24, Try.ntmps24
  go_wp2_with fail
  refine (newReader_any w a len cap h hcap).mono ?_
  rintro e w1 ⟨rfl, bl1, rd1⟩
  go_wp2_with fail
  refine (anySamples_any _ _ _ _ rd1 (by omega)).mono ?_
  rintro e w2 ⟨a2, c2, l, rfl, hl, hc, hm, hS, sm, rd, bl, fr, hr⟩
  have bl2 := bl1.trans bl
  have HL := Lib.hid (And.intro hS (And.intro hr (And.intro sm bl2)))
  clear hS hr sm bl fr bl1 bl2
  go_wp2_with fail
  refine (one_any _ _ _ _ _ _ (-1) 1000001 _ (rd.alloc _ _) (by omega) (by omega) (by omega) (by have := rd.top; omega) ?_).mono ?_
  · exact made_cells _ _ _ _ _ _ rfl (by simp [Ints])
  rintro e w3 ⟨z3, rfl, x3, y3, bl3, rd3, fr3⟩
  have fr : Far w2 w.heap.size w3 := ((Far.refl w2 w.heap.size).alloc _).trans fr3
  have T := Lib.hid (And.intro (HL.out.1.far fr HL.out.2.1) (And.intro HL.out.2.2.1 ((HL.out.2.2.2.alloc (by exact HL.out.2.2.2.size) _).trans bl3)))
  clear fr fr3 bl3 rd3 HL rd
  go_wp2
  go_ret2
  exact ⟨a2, c2, l, z3, rfl, hl, hc, hm, T.out.1, T.out.2.1, ⟨x3, y3⟩, T.out.2.2⟩
end Go.Proofs.Ytcbahomohlaakaa
