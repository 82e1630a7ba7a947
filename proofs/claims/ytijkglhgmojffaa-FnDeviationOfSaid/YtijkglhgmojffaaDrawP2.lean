/-
  The generators of phases beside a step.
-/
import Derived.Test.YtijkglhgmojffaaDrawP
namespace Go.Proofs.Ytijkglhgmojffaa
open Go.RowKit
set_option linter.unusedVariables false
set_option maxRecDepth 100000
theorem Lst.far {w w' : World} {r n : Nat} {a : Option Addr} {l : List Int} (h : Lst w.heap.size w a n l) (hf : Far w r w') (hr : 0 < n → ∀ x, a = some x → r < x.block) : Lst w'.heap.size w' a n l := by
  refine ⟨h.1, h.2.1, ?_⟩
  rcases Nat.eq_zero_or_pos n with h0 | h0
  · exact .inl h0
  · obtain ⟨b, off, e, hb, hc⟩ := h.at_ 0 h0
    have hne : b ≠ r := by have := hr h0 _ e; simp at this; omega
    exact .inr ⟨b, off, e, Nat.lt_of_lt_of_le hb hf.size, fun i hi => (hf.cell b (off + i) hb hne).trans (hc i hi)⟩
/-- Some list of a generator, and a step. -/
def PhTwo (w : World) (e : Ending) (w' : World) : Prop := ∃ a n c l x, e = .returned (.tuple #[.slice a n c, .int .i64 x]) ∧ Lst w'.heap.size w' a n l ∧ n ≤ 18 ∧ n ≤ c ∧ c ≤ maxLen ∧ Small l ∧ (0 ≤ x ∧ x ≤ 17) ∧ Below w.heap.size w w'
theorem DrawSecondDiffs_any (w : World) (a : Option Addr) (len cap : Nat) (h : Code w a len) (hcap : len ≤ cap) : Calls Try.prog 13 #[.slice a len cap] w (PhTwo w) := by
  go_enter Try.func13, Try.ntmps13
  go_wp2_with fail
  refine (newReader_any w a len cap h hcap).mono ?_
  rintro e w1 ⟨rfl, bl1, rd1⟩
  go_wp2_with fail
  refine (anyPhases_any _ _ _ _ rd1 (by omega)).mono ?_
  rintro e w2 ⟨a2, n2, c2, l2, rfl, h2, h3, h4, h5, h6, h7, h8, h9, h10⟩
  have bl2 := bl1.trans h8
  have HL := Lib.hid (And.intro h2 (And.intro h10 (And.intro h6 bl2)))
  clear h2 h10 h6 h8 h9 bl1 bl2
  go_wp2_with fail
  refine (one_any _ _ _ _ _ _ 0 17 _ (h7.alloc _ _) (by omega) (by omega) (by omega) (by have := h7.top; omega) ?_).mono ?_
  · exact made_cells _ _ _ _ _ _ rfl (by simp [Ints])
  rintro e w3 ⟨z3, rfl, x3, y3, bl3, rd3, fr3⟩
  have fr : Far w2 w.heap.size w3 := ((Far.refl w2 w.heap.size).alloc _).trans fr3
  have T := Lib.hid (And.intro (HL.out.1.far fr HL.out.2.1) (And.intro HL.out.2.2.1 ((HL.out.2.2.2.alloc (by exact HL.out.2.2.2.size) _).trans bl3)))
  clear fr fr3 bl3 rd3 HL h7
  go_wp2
  go_ret2
  exact ⟨a2, n2, c2, l2, z3, rfl, T.out.1, h3, h4, h5, T.out.2.1, ⟨x3, y3⟩, T.out.2.2⟩
theorem DrawDeviationOf_any (w : World) (a : Option Addr) (len cap : Nat) (h : Code w a len) (hcap : len ≤ cap) : Calls Try.prog 17 #[.slice a len cap] w (PhTwo w) := by
  go_enter Try.func17, Try.ntmps17
  go_wp2_with fail
  refine (DrawSecondDiffs_any w a len cap h hcap).mono ?_
  rintro e w1 ⟨a2, n2, c2, l2, z3, rfl, T⟩
  have HT := Lib.hid T
  clear T
  go_wp2
  go_ret2
  exact ⟨a2, n2, c2, l2, z3, rfl, HT.out⟩
end Go.Proofs.Ytijkglhgmojffaa
