/-
  PROVED: FnExactSplitFrames: for every input the law returns true, and the input reads as it did. No condition.
  The frame is as the kit prints it (proof-skeleton.mjs); the walk is mine.
-/
import Derived.Test.YtoomkafhmennoacRows
import Derived.Test.YtoomkafhmennoacEqS
import Derived.WalkKit
import Derived.ProofKit
import Derived.OpenShut
import Derived.ShutString
import Derived.ChangeOld
import Derived.Below
namespace Go.Proofs.Ytoomkafhmennoac.fnExactSplitFrames
open Go.ChangeShapes Go.WideShapes Go.ChangeAt Go.RowKit
open Go.ChangeMaps (open_string shut_string)
set_option linter.unusedVariables false      -- a walk need not use every 'w<i>' (that an integer argument fits its kind)

theorem own : ownKnob Try.prog.godebug = none := by kernel_rfl

/-! ### STEP 1: THE WALK: the Go text returns true. 'Grown w w'': the world has at most new blocks (Derived/RowKit3.lean). Part the cases AHEAD of 'go_enter' where a test parts the walk; take each callee by a contract of your own. -/
set_option maxHeartbeats 1000000 in
theorem walk (a0 : ByteArray) (w0 : a0.size ≤ maxLen) (w : World) :
    Calls Try.prog 4 #[.string a0] w fun e w' => e = .returned (.bool true) ∧ Below w.heap.size w w' := by
  by_cases hl : 1048576 < a0.size
  · have hl' : (1048576 : Int) < (a0.size : Int) := by omega
    clear hl
    go_enter Try.func4, Try.ntmps4
    go_wp2
    go_ret
    exact ⟨rfl, Below.refl _ _⟩
  have hl' : ¬ (1048576 : Int) < (a0.size : Int) := by omega
  have hm : a0.size ≤ 1048576 := by omega
  clear hl
  go_enter Try.func4, Try.ntmps4
  go_wp2_with fail
  refine (split_spec a0 hm w).mono ?_
  rintro e w1 ⟨aw, cw, T, rfl, hS, hTw, b1⟩
  have hT8 := hS.len
  have hRw := hTw.rd
  clear hTw
  go_wp2_with fail
  refine (split_impl a0 hm w1).mono ?_
  rintro e w2 ⟨ag, cg, T', rfl, hS', hTg, b2⟩
  obtain rfl := hS.same hS'
  have hRw2 := hRw.keep b2 (Nat.le_refl _)
  go_wp2_with fail
  refine (eqS_15 _ _ T.length _ _ _ _ T w2 hTg.rd hRw2 (by omega)).mono ?_
  rintro e w3 ⟨rfl, q3⟩
  have hTg3 := hTg.keep (q3.below (B := w2.heap.size))
  have hRw3 := hRw2.keep (q3.below (B := w1.heap.size)) (Nat.le_refl _)
  have h13 : w1.heap.size ≤ w3.heap.size := by rw [q3.size]; exact b2.size
  have b3 : Below w.heap.size w w3 := (b1.trans (b2.mono b1.size)).trans q3.below
  clear hTg hRw2 hRw
  go_wp2_with fail
  refine (markS_any w1.heap.size cg ag T w3 hTg3 hT8 h13).mono ?_
  rintro e w4 ⟨rfl, hM4, b4⟩
  have hRw4 := hRw3.keep b4 (Nat.le_refl _)
  have b14 := b3.trans (b4.mono b1.size)
  have h14 : w1.heap.size ≤ w4.heap.size := Nat.le_trans h13 b4.size
  clear hTg3 hRw3 b3 b4 h13 q3 b2
  go_wp2_with fail
  refine (heldS_any w1.heap.size cg T.length ag w4 hM4 hT8).mono ?_
  rintro e w5 ⟨rfl, b5⟩
  have hM5 := hM4.keep b5
  have hRw5 := (hRw4.more h14).keep b5 (Nat.le_refl _)
  have b15 := b14.trans (b5.mono b14.size)
  clear hM4 hRw4 b14
  go_wp2_with fail
  refine (split_impl a0 hm w5).mono ?_
  rintro e w6 ⟨ah, ch, T2, rfl, hS2, hT6, b6⟩
  obtain rfl := hS.same hS2
  have hM6 := hM5.keep b6
  have hRw6 := (hRw5.more b5.size).keep b6 (Nat.le_refl _)
  have b16 := b15.trans (b6.mono b15.size)
  clear hM5 hRw5 b15
  go_wp2_with fail
  refine (eqS_15 _ _ T.length _ _ _ _ T w6 hT6.rd hRw6 (by omega)).mono ?_
  rintro e w7 ⟨rfl, q7⟩
  have hM7 := hM6.keep (q7.below (B := w6.heap.size))
  have b17 := b16.trans (q7.below (B := w.heap.size))
  clear hM6 hRw6 b16
  go_wp2_with fail
  refine (heldS_any w1.heap.size cg T.length ag w7 hM7 hT8).mono ?_
  rintro e w8 ⟨rfl, b8⟩
  have b18 := b17.trans (b8.mono b17.size)
  clear hM7 b17
  go_wp2
  go_ret
  exact ⟨rfl, b18⟩

/-! ### THE ROW's STEP: WRITTEN OUT: LEAVE IT -/
set_option maxRecDepth 100000 in
theorem lifted (os : Os) (started : os.Started) (H : Type) (enc : TypeId × Value → H) :
    ReturnsInHanded {} Try.checked os 4 .any (Rows.fnExactSplitFramesSpec.pre6 enc Try.prog Try.f4 Rows.fnExactSplitFramesRow.domain false) (Rows.fnExactSplitFramesSpec.post enc Try.prog Try.f4 false true false false) := by
  refine returnsInHanded_of_change (C := Try.checked) own started (by kernel_rfl) Try.func4
    (ChangeSpec.witness6 (enc := enc) (C := Try.checked) false ⟨#[], #[.string ByteArray.empty], []⟩ 8 (by kernel_rfl) (by kernel_rfl) (by kernel_rfl) (by kernel_rfl)) ?_
  intro W base args ds gs before hval0 hW hcnd _
  have hval : ∀ (j : Nat) t v, Try.f4.params[j]? = some t → args[j]? = some v → Value.okWide Try.prog W .any base t v := hval0
  have hW' := hW
  obtain ⟨p, q, hA0, hV, rfl, hfz, hnd⟩ := hW
  have hA : DataW.TrodAll enc Try.prog W 0 (fun _ => true) true Try.f4.params.toList args.toList ds p := hA0
  rw [Try.params4] at hA hval
  obtain ⟨v0, vs0, d0, ds0, p0, q0, hargs, rfl, rfl, h0, r0⟩ := trodAll_cons hA
  obtain ⟨rfl, rfl, rfl⟩ := trodAll_nil r0
  obtain rfl : args = #[v0] := by cases args; simp_all
  obtain ⟨rfl, rfl⟩ := trodVars_none hV
  obtain ⟨a0, rfl, rfl, rfl, w0⟩ := open_string Try.underlying9 (hval 0 9 v0 rfl rfl) h0
  clear hA0 hval0
  simp only [List.append_nil] at hW'
  refine (walk a0 w0 W).mono fun e W' ⟨he, bel⟩ => ?_
  subst he
  exact ⟨_, rfl, _, _, _, [], [], [], hW', trodAll_mk1 (shut_bool Try.underlying4 _), (trodAll_cons_mk (shut_string Try.underlying9 w0) trodAll_mk0), rfl, bel.frame _, fun h => by cases h⟩

theorem over : Rows.fnExactSplitFramesRow.holds Try.pinned (OpenSpec.ofChange Rows.fnExactSplitFramesSpec) :=
  OpenClaim.holds_of_wide 4 Try.f4 rfl rfl rfl rfl rfl rfl rfl ⟨rfl, rfl, rfl, rfl, rfl⟩ rfl rfl rfl rfl rfl (by kernel_rfl) Try.func4 (by kernel_rfl)
    (of_decide_eq_true (by kernel_rfl)) (by unfold Func.isWrapper; first | (rw [if_pos (by decide +kernel)]; kernel_rfl) | (rw [if_neg (by decide +kernel)]; exact ⟨rfl, rfl⟩))
    (fun os started H enc _ => lifted os started H enc)

/-- ████ THE STATEMENT ████ -/
theorem proved : Rows.FnExactSplitFramesSaid :=
  over
#print axioms proved
end Go.Proofs.Ytoomkafhmennoac.fnExactSplitFrames
