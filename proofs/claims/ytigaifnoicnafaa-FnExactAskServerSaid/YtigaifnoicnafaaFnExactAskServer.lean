/-
  PROVED: FnExactAskServer: for every input the law returns true, and the input reads as it did. No condition.
  The frame is as the kit prints it (proof-skeleton.mjs); the walk is mine.
-/
import Derived.Test.YtigaifnoicnafaaRows
import Derived.Test.YtigaifnoicnafaaCopyD
import Derived.Test.YtigaifnoicnafaaAsk
import Derived.WalkKit
import Derived.ProofKit
import Derived.OpenShut
import Derived.ShutString
import Derived.ChangeOld
import Derived.Below
namespace Go.Proofs.Ytigaifnoicnafaa.fnExactAskServer
open Go.ChangeShapes Go.WideShapes Go.ChangeAt Go.RowKit
open Go.ChangeMaps (open_string shut_string)
set_option linter.unusedVariables false      -- a walk need not use every 'w<i>' (that an integer argument fits its kind)

theorem own : ownKnob Try.prog.godebug = none := by kernel_rfl

/-! ### STEP 1: THE WALK: the Go text returns true. 'Grown w w'': the world has at most new blocks (Derived/RowKit3.lean). Part the cases AHEAD of 'go_enter' where a test parts the walk; take each callee by a contract of your own. -/
set_option maxRecDepth 100000 in
set_option maxHeartbeats 2000000 in
theorem walk (a0 : Int) (w0 : (Lit.int .i64 a0).wf = true) (w : World) :
    Calls Try.prog 9 #[.int .i64 a0] w fun e w' => e = .returned (.bool true) ∧ Below w.heap.size w w' := by
  have hh : ∃ y0 y1 y2 y3 y4 y5 y6 y7 : Int, (∀ w' : World, Calls Try.prog 13 #[.int .i64 a0] w' fun e w'' => e = .returned (.agg #[.int .i64 y0, .int .i64 y1, .int .i64 y2, .int .i64 y3, .int .i64 y4, .int .i64 y5, .int .i64 y6, .int .i64 y7]) ∧ Below w'.heap.size w' w'') ∧ (∀ w' : World, Calls Try.prog 14 #[.int .i64 a0] w' fun e w'' => e = .returned (.agg #[.int .i64 y0, .int .i64 y1, .int .i64 y2, .int .i64 y3, .int .i64 y4, .int .i64 y5, .int .i64 y6, .int .i64 y7]) ∧ Below w'.heap.size w' w'') := by
    rcases hv : T.vs a0 with _ | _
    · exact ⟨_, _, _, _, _, _, _, _, fun w' => AS_impl_no a0 hv w', fun w' => AS_spec_no a0 hv w'⟩
    · exact ⟨_, _, _, _, _, _, _, _, fun w' => AS_impl_yes a0 hv w', fun w' => AS_spec_yes a0 hv w'⟩
  obtain ⟨y0, y1, y2, y3, y4, y5, y6, y7, k1, k2⟩ := hh
  have K1 := Lib.hid k1
  have K2 := Lib.hid k2
  have b1 := Below.refl w.heap.size w
  clear k1 k2
  go_enter Try.func9, Try.ntmps9
  go_wp2_with fail
  refine (K2.out _).mono ?_
  rintro e w2 ⟨rfl, bb⟩
  have b2 := b1.trans (bb.mono b1.size)
  clear  b1 bb
  replace b2 := b2.alloc b2.size (.cells #[.int .i64 y0, .int .i64 y1, .int .i64 y2, .int .i64 y3, .int .i64 y4, .int .i64 y5, .int .i64 y6, .int .i64 y7] 25)
  have v2 := C8.new w2 y0 y1 y2 y3 y4 y5 y6 y7 25
  go_wp2_with fail
  refine (K1.out _).mono ?_
  rintro e w3 ⟨rfl, bb⟩
  have v3 := v2.bw bb
  have b3 := b2.trans (bb.mono b2.size)
  clear v2 b2 bb
  replace v3 := v3.al (.cells #[.int .i64 y0, .int .i64 y1, .int .i64 y2, .int .i64 y3, .int .i64 y4, .int .i64 y5, .int .i64 y6, .int .i64 y7] 25)
  replace b3 := b3.alloc b3.size (.cells #[.int .i64 y0, .int .i64 y1, .int .i64 y2, .int .i64 y3, .int .i64 y4, .int .i64 y5, .int .i64 y6, .int .i64 y7] 25)
  have g3 := C8.new w3 y0 y1 y2 y3 y4 y5 y6 y7 25
  have vc0 := v3.c0
  have vc1 := v3.c1
  have vc2 := v3.c2
  have vc3 := v3.c3
  have vc4 := v3.c4
  have vc5 := v3.c5
  have vc6 := v3.c6
  have vc7 := v3.c7
  have gc0 := g3.c0
  have gc1 := g3.c1
  have gc2 := g3.c2
  have gc3 := g3.c3
  have gc4 := g3.c4
  have gc5 := g3.c5
  have gc6 := g3.c6
  have gc7 := g3.c7
  go_wp2_with fail
  refine (eqPacket_same _ _ _ _ _ _ _ _ _).mono ?_
  rintro e w4 ⟨rfl, bb⟩
  clear vc0 vc1 vc2 vc3 vc4 vc5 vc6 vc7 gc0 gc1 gc2 gc3 gc4 gc5 gc6 gc7
  have v4 := v3.bw bb
  have g4 := g3.bw bb
  have b4 := b3.trans (bb.mono b3.size)
  clear v3 g3 b3 bb
  go_wp2
  go_ret
  exact ⟨ret_bool (by first | rfl | (simp; done) | simp_all), b4⟩

/-! ### THE ROW's STEP: WRITTEN OUT: LEAVE IT -/
set_option maxRecDepth 100000 in
theorem lifted (os : Os) (started : os.Started) (H : Type) (enc : TypeId × Value → H) :
    ReturnsInHanded {} Try.checked os 9 .any (Rows.fnExactAskServerSpec.pre6 enc Try.prog Try.f9 Rows.fnExactAskServerRow.domain false) (Rows.fnExactAskServerSpec.post enc Try.prog Try.f9 false true false false) := by
  refine returnsInHanded_of_change (C := Try.checked) own started (by kernel_rfl) Try.func9
    (ChangeSpec.witness6 (enc := enc) (C := Try.checked) false ⟨#[], #[.int .i64 0], []⟩ 8 (by kernel_rfl) (by kernel_rfl) (by kernel_rfl) (by kernel_rfl)) ?_
  intro W base args ds gs before hval0 hW hcnd _
  have hval : ∀ (j : Nat) t v, Try.f9.params[j]? = some t → args[j]? = some v → Value.okWide Try.prog W .any base t v := hval0
  have hW' := hW
  obtain ⟨p, q, hA0, hV, rfl, hfz, hnd⟩ := hW
  have hA : DataW.TrodAll enc Try.prog W 0 (fun _ => true) true Try.f9.params.toList args.toList ds p := hA0
  rw [Try.params9] at hA hval
  obtain ⟨v0, vs0, d0, ds0, p0, q0, hargs, rfl, rfl, h0, r0⟩ := trodAll_cons hA
  obtain ⟨rfl, rfl, rfl⟩ := trodAll_nil r0
  obtain rfl : args = #[v0] := by cases args; simp_all
  obtain ⟨rfl, rfl⟩ := trodVars_none hV
  obtain ⟨a0, rfl, rfl, rfl, w0⟩ := open_int Try.underlying3 (hval 0 3 v0 rfl rfl) h0
  clear hA0 hval0
  simp only [List.append_nil] at hW'
  refine (walk a0 w0 W).mono fun e W' ⟨he, bel⟩ => ?_
  subst he
  exact ⟨_, rfl, _, _, _, [], [], [], hW', trodAll_mk1 (shut_bool Try.underlying4 _), (trodAll_cons_mk (shut_int Try.underlying3 w0) trodAll_mk0), rfl, bel.frame _, fun h => by cases h⟩

theorem over : Rows.fnExactAskServerRow.holds Try.pinned (OpenSpec.ofChange Rows.fnExactAskServerSpec) :=
  OpenClaim.holds_of_wide 9 Try.f9 rfl rfl rfl rfl rfl rfl rfl ⟨rfl, rfl, rfl, rfl, rfl⟩ rfl rfl rfl rfl rfl (by kernel_rfl) Try.func9 (by kernel_rfl)
    (of_decide_eq_true (by kernel_rfl)) (by unfold Func.isWrapper; first | (rw [if_pos (by decide +kernel)]; kernel_rfl) | (rw [if_neg (by decide +kernel)]; exact ⟨rfl, rfl⟩))
    (fun os started H enc _ => lifted os started H enc)

/-- ████ THE STATEMENT ████ -/
theorem proved : Rows.FnExactAskServerSaid :=
  over
#print axioms proved
end Go.Proofs.Ytigaifnoicnafaa.fnExactAskServer
