/-
  PROVED: FnExactHoldUntil: for every input the law returns true, and the input reads as it did. No condition.
  The frame is as the kit prints it (proof-skeleton.mjs); the walk is mine.
-/
import Derived.Test.YtinckfakmipmlabRows
import Derived.Test.YtinckfakmipmlabCopyH
import Derived.Test.YtinckfakmipmlabHoldB
import Derived.WalkKit
import Derived.ProofKit
import Derived.OpenShut
import Derived.ShutString
import Derived.ChangeOld
import Derived.Below
import Derived.Lib.SmallJoins
namespace Go.Proofs.Ytinckfakmipmlab.fnExactHoldUntil
open Go.ChangeShapes Go.WideShapes Go.ChangeAt Go.RowKit Go.Joins
set_option linter.unusedVariables false

theorem own : ownKnob Try.prog.godebug = none := by kernel_rfl
theorem laidOut : laidOutB Try.prog = true := by kernel_rfl
theorem cells : Try.prog.cellsOf 31 = 3 := by kernel_rfl

theorem walk (a0 b0 c0 : Int) (w : World) (wa0 : (Lit.int .i64 a0).wf = true) (wb0 : (Lit.int .i64 b0).wf = true) (wc0 : (Lit.int .i64 c0).wf = true) :
    Calls Try.prog 9 #[.agg #[.int .i64 a0, .int .i64 b0, .int .i64 c0]] w fun e w' => e = .returned (.bool true) ∧ Below w.heap.size w w' := by
  go_enter Try.func9, Try.ntmps9
  have st := Kq.new (Below.refl w.heap.size w) a0 b0 c0 31
  go_wp2_with fail
  refine (toState_any _ _ _ _).mono ?_
  rintro e w1 ⟨rfl, b1⟩
  have st1 := st.b b1
  clear st b1
  go_wp2_with fail
  refine (HU_spec _ _ _ _).mono ?_
  rintro e w2 ⟨rfl, b2⟩
  have st2 := st1.b b2
  have x0 := st2.here.c0
  have x1 := st2.here.c1
  have x2 := st2.here.c2
  clear st1 b2
  go_wp2_with fail
  refine (toState_any _ _ _ _).mono ?_
  rintro e w3 ⟨rfl, b3⟩
  have st3 := st2.b b3
  clear st2 b3 x0 x1 x2
  go_wp2_with fail
  refine (HU_impl _ _ _ _).mono ?_
  rintro e w4 ⟨rfl, b4⟩
  have st4 := st3.b b4
  clear st3 b4
  go_wp2
  go_ret
  exact ⟨rfl, st4.bel⟩

/-! ### THE ROW -/
set_option maxRecDepth 100000 in
theorem lifted (os : Os) (started : os.Started) (H : Type) (enc : TypeId × Value → H) :
    ReturnsInHanded {} Try.checked os 9 .any (Rows.fnExactHoldUntilSpec.pre6 enc Try.prog Try.f9 Rows.fnExactHoldUntilRow.domain false) (Rows.fnExactHoldUntilSpec.post enc Try.prog Try.f9 false true false false) := by
  refine returnsInHanded_of_change (C := Try.checked) own started (by kernel_rfl) Try.func9
    (ChangeSpec.witness6 (enc := enc) (C := Try.checked) false ⟨#[], #[.agg #[.int .i64 0, .int .i64 0, .int .i64 0]], []⟩ 8 (by kernel_rfl) (by kernel_rfl) (by kernel_rfl) (by kernel_rfl)) ?_
  intro W base args ds gs before hval0 hW hcnd _
  have hval : ∀ (j : Nat) t v, Try.f9.params[j]? = some t → args[j]? = some v → Value.okWide Try.prog W .any base t v := hval0
  have hW' := hW
  obtain ⟨p, q, hA0, hV, rfl, hfz, hnd⟩ := hW
  have hA : DataW.TrodAll enc Try.prog W 0 (fun _ => true) true Try.f9.params.toList args.toList ds p := hA0
  rw [Try.params9] at hA hval
  obtain ⟨v0, vs0, d0, ds0, p0, q0, hargs, rfl, rfl, h0, r0⟩ := trodAll_cons hA
  obtain ⟨rfl, rfl, rfl⟩ := trodAll_nil r0
  obtain rfl : args = #[v0] := by cases args; simp_all
  obtain ⟨rfl, rfl⟩ := trodVars_none hV
  obtain ⟨u0, u0_, u0__, y0, y0_, y0__, m0, rfl, rfl, rfl, hy0, hy0_, hy0__⟩ := open_agg3 Try.underlying31 (by kernel_rfl) cells (hval 0 31 v0 rfl rfl) h0
  obtain ⟨a0, ea0, rfl, wa0⟩ := DataW.trod_int Try.underlying3 hy0
  obtain ⟨b0, eb0, rfl, wb0⟩ := DataW.trod_int Try.underlying3 hy0_
  obtain ⟨c0, ec0, rfl, wc0⟩ := DataW.trod_int Try.underlying3 hy0__
  simp at ea0 eb0 ec0
  subst ea0 eb0 ec0
  have reads0 : ∀ (W' : World) (sp : Nat → Bool), DataW.Trod enc Try.prog W' 0 sp true 31 (.agg #[.int .i64 a0, .int .i64 b0, .int .i64 c0]) (.agg [.lit (.int .i64 a0), .lit (.int .i64 b0), .lit (.int .i64 c0)]) [] := fun W' sp =>
    shut_agg3 (y0 := (.lit (.int .i64 a0), [])) (y1 := (.lit (.int .i64 b0), [])) (y2 := (.lit (.int .i64 c0), [])) Try.underlying31 (by kernel_rfl) cells ⟨1, by simp [DataW.trod, Try.underlying3, wa0]⟩ ⟨1, by simp [DataW.trod, Try.underlying3, wb0]⟩ ⟨1, by simp [DataW.trod, Try.underlying3, wc0]⟩
  clear hA0 hval0
  refine (walk a0 b0 c0 W wa0 wb0 wc0).mono fun e W' ⟨he, bel⟩ => ?_
  subst he
  exact ⟨_, rfl, _, _, _, [], _, [], hW', trodAll_mk1 (shut_bool Try.underlying4 _), (trodAll_cons_mk (reads0 _ _) trodAll_mk0), rfl, bel.frame _, fun h => by cases h⟩

theorem over : Rows.fnExactHoldUntilRow.holds Try.pinned (OpenSpec.ofChange Rows.fnExactHoldUntilSpec) :=
  OpenClaim.holds_of_wide 9 Try.f9 rfl rfl rfl rfl rfl rfl rfl ⟨rfl, rfl, rfl, rfl, rfl⟩ rfl rfl rfl rfl rfl (by kernel_rfl) Try.func9 (by kernel_rfl)
    (of_decide_eq_true (by kernel_rfl)) (by unfold Func.isWrapper; first | (rw [if_pos (by decide +kernel)]; kernel_rfl) | (rw [if_neg (by decide +kernel)]; exact ⟨rfl, rfl⟩))
    (fun os started H enc _ => lifted os started H enc)

/-- THE STATEMENT -/
theorem proved : Rows.FnExactHoldUntilSaid := over
#print axioms proved
end Go.Proofs.Ytinckfakmipmlab.fnExactHoldUntil
