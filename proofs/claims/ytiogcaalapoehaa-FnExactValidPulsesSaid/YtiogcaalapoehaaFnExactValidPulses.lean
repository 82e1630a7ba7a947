/-
  PROVED: FnExactValidPulses: for every input the law returns true, and the input reads as it did. No condition.
  The frame is as the kit prints it (proof-skeleton.mjs); the walk is mine.
-/
import Derived.Test.YtiogcaalapoehaaRows
import Derived.Test.YtiogcaalapoehaaPulse
import Derived.Test.YtiogcaalapoehaaCopy
import Derived.Test.YtiogcaalapoehaaJoin
import Derived.WalkKit
import Derived.ProofKit
import Derived.OpenShut
import Derived.ShutString
import Derived.ChangeOld
import Derived.Below
namespace Go.Proofs.Ytiogcaalapoehaa.fnExactValidPulses
open Go.ChangeShapes Go.WideShapes Go.ChangeAt Go.RowKit
open Go.ChangeMaps (open_string shut_string)
set_option linter.unusedVariables false

theorem own : ownKnob Try.prog.godebug = none := by kernel_rfl
theorem laidOut : laidOutB Try.prog = true := by kernel_rfl

/-- WHAT THE WALK IS TOLD OF A SLICE OF INTEGERS THAT CAME IN: it is nil; or it leads to a row of 'cap' cells, the numbers 'zs' (the first 'len' are its elements, the rest its spare room), each fitting its kind. -/
def IsRow (k : IntKind) (w : World) (a : Option Addr) (len cap : Nat) (zs : List Int) : Prop :=
  (a = none ∧ len = 0 ∧ cap = 0 ∧ zs = []) ∨
  ∃ x, a = some x ∧ len ≤ cap ∧ cap ≤ maxLen ∧ zs.length = cap ∧ (∀ i, i < zs.length → w.cell? (x.add i) = some (.int k (zs.getD i 0))) ∧ ∀ n ∈ zs, (Lit.int k n).wf = true

/-! ### STEP 1: THE WALK: the Go text returns true, AND WRITES NOTHING THAT WAS THERE: 'Below w.heap.size w w'' (Derived/Below.lean: '.refl', '.alloc', '.drew', '.setCell' at a new block, '.trans'). Open each 'IsRow' by 'rcases' AHEAD of 'go_enter'; part every test ahead of the walk. -/
theorem walk (a0 : Option Addr) (len0 cap0 : Nat) (z0 : List Int) (w : World) (w0 : IsRow .i64 w a0 len0 cap0 z0) :
    Calls Try.prog 4 #[.slice a0 len0 cap0] w fun e w' => e = .returned (.bool true) ∧ Below w.heap.size w w' := by
  by_cases hl : 1048576 < len0
  · have hl' : (1048576 : Int) < (len0 : Int) := by omega
    clear w0 hl
    go_enter Try.func4, Try.ntmps4
    go_wp2
    go_ret
    exact ⟨rfl, Below.refl _ _⟩
  have hl' : ¬ (1048576 : Int) < (len0 : Int) := by omega
  obtain ⟨l, hL⟩ := lst_of w0 (by omega)
  have hz := hL.2.1
  clear w0 hl
  go_enter Try.func4, Try.ntmps4
  go_wp2_with fail
  refine (toIntS_any len0 cap0 a0 l w hL).mono ?_
  rintro e w2 ⟨rfl, hL2, b2⟩
  have hA2 := hL.keep b2 (Nat.le_refl _)
  go_wp2_with fail
  refine (VP_spec _ _ _ _ _ _ hL2).mono ?_
  rintro e w3 ⟨rfl, q3⟩
  have hA3 := (hA2.same q3).more (show w.heap.size ≤ w3.heap.size by exact Nat.le_trans b2.size (q3.below (B := w2.heap.size)).size)
  have b3 := b2.trans (Same.below (B := w.heap.size) q3)
  clear hA2 hL2 q3
  go_wp2_with fail
  refine (toIntS_any len0 cap0 a0 l w3 hA3).mono ?_
  rintro e w4 ⟨rfl, hL4, b4⟩
  have hA4 := hA3.keep b4 (Nat.le_refl _)
  have h4 := b4.size
  have b34 := b3.trans (b4.mono b3.size)
  clear hA3 b4 b3
  go_wp2_with fail
  refine (vp_impl _ _ _ _ _ _ hL4).mono ?_
  rintro e w5 ⟨rfl, h45⟩
  have b5 : Below w4.heap.size w4 w5 := by rw [← h45]; exact Below.refl _ _
  clear h45
  have hA5 := (hA4.more h4).keep b5 (Nat.le_refl _)
  have hL5 := hL4.keep b5 (Nat.le_refl _)
  have hA6 := hA5.more b5.size
  have b35 := b34.trans (b5.mono b34.size)
  clear hA4 hL4 h4 b34
  generalize w3.heap.size = D at *
  go_wp2_with fail
  refine (toIntS_any len0 cap0 a0 l w5 hA6).mono ?_
  rintro e w6 ⟨rfl, hL6, b6⟩
  have hX6 := (hL5.keep b6 b5.size).more (Nat.le_trans b5.size b6.size)
  have b36 := b35.trans (b6.mono b35.size)
  clear hA5 hA6 hL5 b6 b35 b5
  generalize w5.heap.size = D5 at *
  go_wp2_with fail
  refine (eqIntS_any len0 len0 len0 _ _ _ l w6 hX6 hL6).mono ?_
  rintro e w7 ⟨rfl, q7⟩
  go_wp2
  go_ret
  exact ⟨rfl, b36.trans q7.below⟩

/-! ### THE ROW's STEP: WRITTEN OUT: LEAVE IT -/
set_option maxRecDepth 100000 in
theorem lifted (os : Os) (started : os.Started) (H : Type) (enc : TypeId × Value → H) :
    ReturnsInHanded {} Try.checked os 4 .any (Rows.fnExactValidPulsesSpec.pre6 enc Try.prog Try.f4 Rows.fnExactValidPulsesRow.domain false) (Rows.fnExactValidPulsesSpec.post enc Try.prog Try.f4 false true false false) := by
  refine returnsInHanded_of_change (C := Try.checked) own started (by kernel_rfl) Try.func4
    (ChangeSpec.witness6 (enc := enc) (C := Try.checked) false ⟨#[], #[.slice none 0 0], []⟩ 8 (by kernel_rfl) (by kernel_rfl) (by kernel_rfl) (by kernel_rfl)) ?_
  intro W base args ds gs before hval0 hW hcnd _
  have hval : ∀ (j : Nat) t v, Try.f4.params[j]? = some t → args[j]? = some v → Value.okWide Try.prog W .any base t v := hval0
  have hW' := hW
  obtain ⟨p, q, hA0, hV, rfl, hfz, hnd⟩ := hW
  have hA : DataW.TrodAll enc Try.prog W 0 (fun _ => true) true Try.f4.params.toList args.toList ds p := hA0
  rw [Try.params4] at hA hval
  obtain ⟨v0, vs0, d0, ds0, p0, q0, hargs, rfl, rfl, h0, r0⟩ := trodAll_cons hA
  obtain ⟨rfl, rfl, rfl⟩ := trodAll_nil r0
  obtain rfl : args = #[v0] := by cases args; simp_all
  obtain ⟨rfl, rfl⟩ := trodVars_none hV
  obtain ⟨a0, len0, cap0, rfl⟩ := okWide_slice Try.underlying23 (hval 0 23 v0 rfl rfl)
  have k0 := h0
  have lt0 : ∀ x ∈ p0, x.block < W.heap.size := by obtain ⟨m, hm⟩ := k0; exact DataW.trod_lt m _ _ _ hm
  obtain ⟨z0, w0⟩ : ∃ zs, IsRow .i64 W a0 len0 cap0 zs := by
    obtain ⟨fuel, hf⟩ := h0
    rcases open_ints Try.underlying23 Try.underlying3 (by kernel_rfl) hf with ⟨hcs, _⟩ | ⟨x, l, c, zs, hcs, _, hl, hm, hz, _, hcell, hwz⟩
    · simp [Value.cells] at hcs
      obtain ⟨rfl, rfl, rfl⟩ := hcs
      exact ⟨[], .inl ⟨rfl, rfl, rfl, rfl⟩⟩
    · simp [Value.cells] at hcs
      obtain ⟨rfl, rfl, rfl⟩ := hcs
      exact ⟨zs, .inr ⟨_, rfl, hl, hm, by simpa using hz, hcell, hwz⟩⟩
  clear hA0 hval0
  refine (walk a0 len0 cap0 z0 W w0).mono fun e W' ⟨he, bel⟩ => ?_
  subst he
  exact ⟨_, rfl, _, _, _, [], _, [], hW', trodAll_mk1 (shut_bool Try.underlying4 _), (trodAll_cons_mk (Below.trod laidOut (by kernel_rfl) (of_decide_eq_true (by kernel_rfl)) k0 bel lt0) trodAll_mk0), rfl, bel.frame _, fun h => by cases h⟩

theorem closed : joinedFacts Try.pinned.checked.prog 4 Try.f4 Rows.fnExactValidPulsesSpec Rows.fnExactValidPulsesRow = true := by
  unfold joinedFacts
  rw [mayJ, liftsJ, makeJ]
  kernel_rfl

theorem over : Rows.fnExactValidPulsesRow.holds Try.pinned (OpenSpec.ofChange Rows.fnExactValidPulsesSpec) :=
  OpenClaim.holds_of_wide 4 Try.f4 rfl rfl rfl rfl rfl rfl rfl ⟨rfl, rfl, rfl, rfl, rfl⟩ rfl rfl rfl rfl rfl (by kernel_rfl) Try.func4 closed
    (of_decide_eq_true (by kernel_rfl)) (by unfold Func.isWrapper; first | (rw [if_pos (by decide +kernel)]; kernel_rfl) | (rw [if_neg (by decide +kernel)]; exact ⟨rfl, rfl⟩))
    (fun os started H enc _ => lifted os started H enc)

/-- ████ THE STATEMENT ████ -/
theorem proved : Rows.FnExactValidPulsesSaid := over
#print axioms proved
end Go.Proofs.Ytiogcaalapoehaa.fnExactValidPulses
