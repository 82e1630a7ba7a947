/-
  PROVED: FnExactSeenAgain: for every input the law returns true, and the input reads as it did. No condition.
  The frame is as the kit prints it (proof-skeleton.mjs); the walk is mine.
-/
import Derived.Test.YtinckfakmipmlabRows
import Derived.Test.YtinckfakmipmlabCopyH
import Derived.Test.YtinckfakmipmlabHoldB
import Derived.WalkKit
import Derived.ProofKit
import Derived.OpenShut
import Derived.ShutString
import Derived.ChangeOld
import Derived.Below
import Derived.Lib.SmallJoins
namespace Go.Proofs.Ytinckfakmipmlab.fnExactSeenAgain
open Go.ChangeShapes Go.WideShapes Go.ChangeAt Go.RowKit Go.Joins
set_option linter.unusedVariables false

theorem own : ownKnob Try.prog.godebug = none := by kernel_rfl
theorem laidOut : laidOutB Try.prog = true := by kernel_rfl
theorem cells : Try.prog.cellsOf 31 = 3 := by kernel_rfl

theorem walk (a0 b0 c0 : Int) (a1 : Int) (a2 : Int) (w : World) (wa0 : (Lit.int .i64 a0).wf = true) (wb0 : (Lit.int .i64 b0).wf = true) (wc0 : (Lit.int .i64 c0).wf = true) (w1 : (Lit.int .i64 a1).wf = true) (w2 : (Lit.int .i64 a2).wf = true) :
    Calls Try.prog 10 #[.agg #[.int .i64 a0, .int .i64 b0, .int .i64 c0], .int .i64 a1, .int .i64 a2] w fun e w' => e = .returned (.bool true) ∧ Below w.heap.size w w' := by
  go_enter Try.func10, Try.ntmps10
  have st := Kq.new (Below.refl w.heap.size w) a0 b0 c0 31
  go_wp2_with fail
  refine (toState_any _ _ _ _).mono ?_
  rintro e w1 ⟨rfl, b1⟩
  have st1 := st.b b1
  clear st b1
  go_wp2_with fail
  refine (SA_spec _ _ _ _ _ _).mono ?_
  rintro e w2 ⟨rfl, b2⟩
  have st2 := (st1.b b2).al (.cells #[.int .i64 (H.se a0 b0 c0 a1 a2), .int .i64 (H.sw a0 b0 c0 a1 a2), .int .i64 (H.ss a0 b0 c0 a1 a2)] 33)
  have yt := C3.new w2 (H.se a0 b0 c0 a1 a2) (H.sw a0 b0 c0 a1 a2) (H.ss a0 b0 c0 a1 a2) 33
  have x0 := st2.here.c0
  have x1 := st2.here.c1
  have x2 := st2.here.c2
  clear st1 b2
  go_wp2_with fail
  refine (toState_any _ _ _ _).mono ?_
  rintro e w3 ⟨rfl, b3⟩
  have st3 := st2.b b3
  have yt3 := yt.b b3
  clear yt
  clear st2 b3 x0 x1 x2
  go_wp2_with fail
  refine (SA_impl _ _ _ _ _ _).mono ?_
  rintro e w4 ⟨rfl, b4⟩
  have st5 := (st3.b b4).al (.cells #[.int .i64 (H.se a0 b0 c0 a1 a2), .int .i64 (H.sw a0 b0 c0 a1 a2), .int .i64 (H.ss a0 b0 c0 a1 a2)] 33)
  have yt4 := (yt3.b b4).al (.cells #[.int .i64 (H.se a0 b0 c0 a1 a2), .int .i64 (H.sw a0 b0 c0 a1 a2), .int .i64 (H.ss a0 b0 c0 a1 a2)] 33)
  have z0 := yt4.c0
  have z1 := yt4.c1
  have z2 := yt4.c2
  clear yt3
  clear st3 b4
  go_wp2_with fail
  refine (eqState_same _ _ _ _).mono ?_
  rintro e w5 ⟨rfl, b5⟩
  have bl5 := st5.bel.trans (b5.mono st5.bel.size)
  clear b5 st5
  go_wp2
  go_ret
  exact ⟨rfl, bl5⟩

/-! ### THE ROW -/
set_option maxRecDepth 100000 in
theorem lifted (os : Os) (started : os.Started) (H : Type) (enc : TypeId × Value → H) :
    ReturnsInHanded {} Try.checked os 10 .any (Rows.fnExactSeenAgainSpec.pre6 enc Try.prog Try.f10 Rows.fnExactSeenAgainRow.domain false) (Rows.fnExactSeenAgainSpec.post enc Try.prog Try.f10 false true false false) := by
  refine returnsInHanded_of_change (C := Try.checked) own started (by kernel_rfl) Try.func10
    (ChangeSpec.witness6 (enc := enc) (C := Try.checked) false ⟨#[], #[.agg #[.int .i64 0, .int .i64 0, .int .i64 0], .int .i64 0, .int .i64 0], []⟩ 8 (by kernel_rfl) (by kernel_rfl) (by kernel_rfl) (by kernel_rfl)) ?_
  intro W base args ds gs before hval0 hW hcnd _
  have hval : ∀ (j : Nat) t v, Try.f10.params[j]? = some t → args[j]? = some v → Value.okWide Try.prog W .any base t v := hval0
  have hW' := hW
  obtain ⟨p, q, hA0, hV, rfl, hfz, hnd⟩ := hW
  have hA : DataW.TrodAll enc Try.prog W 0 (fun _ => true) true Try.f10.params.toList args.toList ds p := hA0
  rw [Try.params10] at hA hval
  obtain ⟨v0, vs0, d0, ds0, p0, q0, hargs, rfl, rfl, h0, r0⟩ := trodAll_cons hA
  obtain ⟨v1, vs1, d1, ds1, p1, q1, rfl, rfl, rfl, h1, r1⟩ := trodAll_cons r0
  obtain ⟨v2, vs2, d2, ds2, p2, q2, rfl, rfl, rfl, h2, r2⟩ := trodAll_cons r1
  obtain ⟨rfl, rfl, rfl⟩ := trodAll_nil r2
  obtain rfl : args = #[v0, v1, v2] := by cases args; simp_all
  obtain ⟨rfl, rfl⟩ := trodVars_none hV
  obtain ⟨u0, u0_, u0__, y0, y0_, y0__, m0, rfl, rfl, rfl, hy0, hy0_, hy0__⟩ := open_agg3 Try.underlying31 (by kernel_rfl) cells (hval 0 31 v0 rfl rfl) h0
  obtain ⟨a0, ea0, rfl, wa0⟩ := DataW.trod_int Try.underlying3 hy0
  obtain ⟨b0, eb0, rfl, wb0⟩ := DataW.trod_int Try.underlying3 hy0_
  obtain ⟨c0, ec0, rfl, wc0⟩ := DataW.trod_int Try.underlying3 hy0__
  simp at ea0 eb0 ec0
  subst ea0 eb0 ec0
  obtain ⟨a1, rfl, rfl, rfl, w1⟩ := open_int Try.underlying3 (hval 1 3 v1 rfl rfl) h1
  obtain ⟨a2, rfl, rfl, rfl, w2⟩ := open_int Try.underlying3 (hval 2 3 v2 rfl rfl) h2
  have reads0 : ∀ (W' : World) (sp : Nat → Bool), DataW.Trod enc Try.prog W' 0 sp true 31 (.agg #[.int .i64 a0, .int .i64 b0, .int .i64 c0]) (.agg [.lit (.int .i64 a0), .lit (.int .i64 b0), .lit (.int .i64 c0)]) [] := fun W' sp =>
    shut_agg3 (y0 := (.lit (.int .i64 a0), [])) (y1 := (.lit (.int .i64 b0), [])) (y2 := (.lit (.int .i64 c0), [])) Try.underlying31 (by kernel_rfl) cells ⟨1, by simp [DataW.trod, Try.underlying3, wa0]⟩ ⟨1, by simp [DataW.trod, Try.underlying3, wb0]⟩ ⟨1, by simp [DataW.trod, Try.underlying3, wc0]⟩
  clear hA0 hval0
  refine (walk a0 b0 c0 a1 a2 W wa0 wb0 wc0 w1 w2).mono fun e W' ⟨he, bel⟩ => ?_
  subst he
  exact ⟨_, rfl, _, _, _, [], _, [], hW', trodAll_mk1 (shut_bool Try.underlying4 _), (trodAll_cons_mk (reads0 _ _) (trodAll_cons_mk (shut_int Try.underlying3 w1) (trodAll_cons_mk (shut_int Try.underlying3 w2) trodAll_mk0))), rfl, bel.frame _, fun h => by cases h⟩

theorem over : Rows.fnExactSeenAgainRow.holds Try.pinned (OpenSpec.ofChange Rows.fnExactSeenAgainSpec) :=
  OpenClaim.holds_of_wide 10 Try.f10 rfl rfl rfl rfl rfl rfl rfl ⟨rfl, rfl, rfl, rfl, rfl⟩ rfl rfl rfl rfl rfl (by kernel_rfl) Try.func10 (by kernel_rfl)
    (of_decide_eq_true (by kernel_rfl)) (by unfold Func.isWrapper; first | (rw [if_pos (by decide +kernel)]; kernel_rfl) | (rw [if_neg (by decide +kernel)]; exact ⟨rfl, rfl⟩))
    (fun os started H enc _ => lifted os started H enc)

/-- THE STATEMENT -/
theorem proved : Rows.FnExactSeenAgainSaid := over
#print axioms proved
end Go.Proofs.Ytinckfakmipmlab.fnExactSeenAgain
