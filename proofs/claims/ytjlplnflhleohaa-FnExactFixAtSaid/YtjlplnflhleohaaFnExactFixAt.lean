/-
  PROVED: FnExactFixAt: for every input the law returns true, and the input reads as it did. No condition.
  The frame is as the kit prints it (proof-skeleton.mjs); the walk is mine.
-/
import Derived.Test.YtjlplnflhleohaaRows
import Derived.Test.YtjlplnflhleohaaFix
import Derived.Test.YtjlplnflhleohaaCopyFx
import Derived.Test.YtjlplnflhleohaaJoin
import Derived.WalkKit
import Derived.ProofKit
import Derived.OpenShut
import Derived.ShutString
import Derived.ChangeOld
import Derived.Below
namespace Go.Proofs.Ytjlplnflhleohaa.fnExactFixAt
open Go.ChangeShapes Go.WideShapes Go.ChangeAt Go.RowKit
open Go.ChangeMaps (open_string shut_string)
set_option linter.unusedVariables false      -- a walk need not use every 'w<i>' (that an integer argument fits its kind)

theorem own : ownKnob Try.prog.godebug = none := by kernel_rfl

/-! ### STEP 1: THE WALK: the Go text returns true. 'Grown w w'': the world has at most new blocks (Derived/RowKit3.lean). Part the cases AHEAD of 'go_enter' where a test parts the walk; take each callee by a contract of your own. -/
theorem walk (a0 : Int) (a1 : Int) (w0 : (Lit.int .i64 a0).wf = true) (w1 : (Lit.int .i64 a1).wf = true) (w : World) :
    Calls Try.prog 12 #[.int .i64 a0, .int .i64 a1] w fun e w' => e = .returned (.bool true) ∧ Below w.heap.size w w' := by
  go_enter Try.func12, Try.ntmps12
  go_wp2_with fail
  refine (fx_spec _ _ _).mono ?_
  rintro e w1 ⟨rfl, b1⟩
  have k1 := C5.new w1 (X.fy a0 a1) (X.fm a0 a1) (X.fd a0 a1) (X.fs a0 a1) (X.fn a0 a1) 26
  have g1 := b1.alloc b1.size (.cells #[.int .i64 (X.fy a0 a1), .int .i64 (X.fm a0 a1), .int .i64 (X.fd a0 a1), .int .i64 (X.fs a0 a1), .int .i64 (X.fn a0 a1)] 26)
  go_wp2_with fail
  refine (fx_impl _ _ _).mono ?_
  rintro e w2 ⟨rfl, b2⟩
  have k2 := k1.b b2
  have g2 := g1.trans (b2.mono g1.size)
  clear b1 b2 k1 g1
  have k3 := k2.al (.cells #[.int .i64 (X.fy a0 a1), .int .i64 (X.fm a0 a1), .int .i64 (X.fd a0 a1), .int .i64 (X.fs a0 a1), .int .i64 (X.fn a0 a1)] 26)
  have g3 := g2.alloc g2.size (.cells #[.int .i64 (X.fy a0 a1), .int .i64 (X.fm a0 a1), .int .i64 (X.fd a0 a1), .int .i64 (X.fs a0 a1), .int .i64 (X.fn a0 a1)] 26)
  obtain ⟨c0, c1, c2, c3, c4, cl⟩ := k2
  go_wp2_with fail
  refine (eqFix_same _ _ _ _ _ _).mono ?_
  rintro e w4 ⟨rfl, hb⟩
  have g4 := g3.trans (hb.mono g3.size)
  clear hb
  go_wp2
  go_ret
  exact ⟨rfl, g4⟩

/-! ### THE ROW's STEP: WRITTEN OUT: LEAVE IT -/
set_option maxRecDepth 100000 in
theorem lifted (os : Os) (started : os.Started) (H : Type) (enc : TypeId × Value → H) :
    ReturnsInHanded {} Try.checked os 12 .any (Rows.fnExactFixAtSpec.pre6 enc Try.prog Try.f12 Rows.fnExactFixAtRow.domain false) (Rows.fnExactFixAtSpec.post enc Try.prog Try.f12 false true false false) := by
  refine returnsInHanded_of_change (C := Try.checked) own started (by kernel_rfl) Try.func12
    (ChangeSpec.witness6 (enc := enc) (C := Try.checked) false ⟨#[], #[.int .i64 0, .int .i64 0], []⟩ 8 (by kernel_rfl) (by kernel_rfl) (by kernel_rfl) (by kernel_rfl)) ?_
  intro W base args ds gs before hval0 hW hcnd _
  have hval : ∀ (j : Nat) t v, Try.f12.params[j]? = some t → args[j]? = some v → Value.okWide Try.prog W .any base t v := hval0
  have hW' := hW
  obtain ⟨p, q, hA0, hV, rfl, hfz, hnd⟩ := hW
  have hA : DataW.TrodAll enc Try.prog W 0 (fun _ => true) true Try.f12.params.toList args.toList ds p := hA0
  rw [Try.params12] at hA hval
  obtain ⟨v0, vs0, d0, ds0, p0, q0, hargs, rfl, rfl, h0, r0⟩ := trodAll_cons hA
  obtain ⟨v1, vs1, d1, ds1, p1, q1, rfl, rfl, rfl, h1, r1⟩ := trodAll_cons r0
  obtain ⟨rfl, rfl, rfl⟩ := trodAll_nil r1
  obtain rfl : args = #[v0, v1] := by cases args; simp_all
  obtain ⟨rfl, rfl⟩ := trodVars_none hV
  obtain ⟨a0, rfl, rfl, rfl, w0⟩ := open_int Try.underlying3 (hval 0 3 v0 rfl rfl) h0
  obtain ⟨a1, rfl, rfl, rfl, w1⟩ := open_int Try.underlying3 (hval 1 3 v1 rfl rfl) h1
  clear hA0 hval0
  simp only [List.append_nil] at hW'
  refine (walk a0 a1 w0 w1 W).mono fun e W' ⟨he, bel⟩ => ?_
  subst he
  exact ⟨_, rfl, _, _, _, [], [], [], hW', trodAll_mk1 (shut_bool Try.underlying4 _), (trodAll_cons_mk (shut_int Try.underlying3 w0) (trodAll_cons_mk (shut_int Try.underlying3 w1) trodAll_mk0)), rfl, bel.frame _, fun h => by cases h⟩

theorem closed : joinedFacts Try.pinned.checked.prog 12 Try.f12 Rows.fnExactFixAtSpec Rows.fnExactFixAtRow = true := by
  unfold joinedFacts
  rw [mayJ, liftsJ, makeJ]
  kernel_rfl

theorem over : Rows.fnExactFixAtRow.holds Try.pinned (OpenSpec.ofChange Rows.fnExactFixAtSpec) :=
  OpenClaim.holds_of_wide 12 Try.f12 rfl rfl rfl rfl rfl rfl rfl ⟨rfl, rfl, rfl, rfl, rfl⟩ rfl rfl rfl rfl rfl (by kernel_rfl) Try.func12 closed
    (of_decide_eq_true (by kernel_rfl)) (by unfold Func.isWrapper; first | (rw [if_pos (by decide +kernel)]; kernel_rfl) | (rw [if_neg (by decide +kernel)]; exact ⟨rfl, rfl⟩))
    (fun os started H enc _ => lifted os started H enc)

/-- ████ THE STATEMENT ████ -/
theorem proved : Rows.FnExactFixAtSaid :=
  over
#print axioms proved
end Go.Proofs.Ytjlplnflhleohaa.fnExactFixAt
