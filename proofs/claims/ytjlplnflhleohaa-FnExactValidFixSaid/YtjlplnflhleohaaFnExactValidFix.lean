/-
  PROVED: FnExactValidFix: for every input the law returns true, and the input reads as it did. No condition.
  The frame is as the kit prints it (proof-skeleton.mjs); the walk is mine.
-/
import Derived.Test.YtjlplnflhleohaaRows
import Derived.Test.YtjlplnflhleohaaFix
import Derived.Test.YtjlplnflhleohaaCopyFx
import Derived.Test.YtjlplnflhleohaaJoinF
import Derived.Test.YtjlplnflhleohaaJoin
import Derived.WalkKit
import Derived.ProofKit
import Derived.OpenShut
import Derived.ShutString
import Derived.ChangeOld
import Derived.Below
import Derived.Lib.SmallJoins
namespace Go.Proofs.Ytjlplnflhleohaa.fnExactValidFix
open Go.ChangeShapes Go.WideShapes Go.ChangeAt Go.RowKit Go.Joins
set_option linter.unusedVariables false

theorem own : ownKnob Try.prog.godebug = none := by kernel_rfl
theorem laidOut : laidOutB Try.prog = true := by kernel_rfl
theorem cells : Try.prog.cellsOf 39 = 5 := by kernel_rfl

theorem walk (xa0 xb0 xc0 xd0 xe0 : Int) (w : World) (wa0 : (Lit.int .i64 xa0).wf = true) (wb0 : (Lit.int .i64 xb0).wf = true) (wc0 : (Lit.int .i64 xc0).wf = true) (wd0 : (Lit.int .i64 xd0).wf = true) (we0 : (Lit.int .i64 xe0).wf = true) :
    Calls Try.prog 10 #[.agg #[.int .i64 xa0, .int .i64 xb0, .int .i64 xc0, .int .i64 xd0, .int .i64 xe0]] w fun e w' => e = .returned (.bool true) ∧ Below w.heap.size w w' := by
  go_enter Try.func10, Try.ntmps10
  have K := C5.new w xa0 xb0 xc0 xd0 xe0 39
  have g0 : Below w.heap.size w (w.alloc (.cells #[.int .i64 xa0, .int .i64 xb0, .int .i64 xc0, .int .i64 xd0, .int .i64 xe0] 39)) := (Below.refl _ _).alloc (Nat.le_refl _) _
  go_wp2_with fail
  refine (toFix_any _ _ _ _ _ _).mono ?_
  rintro e w1 ⟨rfl, hb⟩
  have k1 := K.b hb
  have g1 := g0.trans (hb.mono g0.size)
  clear hb K g0
  go_wp2_with fail
  refine (vf_spec _ _ _ _ _ _).mono ?_
  rintro e w2 ⟨rfl, hb⟩
  have k2 := k1.b hb
  have g2 := g1.trans (hb.mono g1.size)
  clear hb k1 g1
  obtain ⟨c0, c1, c2, c3, c4, cl⟩ := k2
  go_wp2_with fail
  refine (toFix_any _ _ _ _ _ _).mono ?_
  rintro e w3 ⟨rfl, hb⟩
  have g3 := g2.trans (hb.mono g2.size)
  clear hb g2 c0 c1 c2 c3 c4 cl
  go_wp2_with fail
  refine (vf_impl _ _ _ _ _ _).mono ?_
  rintro e w4 ⟨rfl, hb⟩
  have g4 := g3.trans (hb.mono g3.size)
  clear hb
  go_wp2
  go_ret
  exact ⟨rfl, g4⟩

/-! ### THE ROW -/
set_option maxRecDepth 100000 in
theorem lifted (os : Os) (started : os.Started) (H : Type) (enc : TypeId × Value → H) :
    ReturnsInHanded {} Try.checked os 10 .any (Rows.fnExactValidFixSpec.pre6 enc Try.prog Try.f10 Rows.fnExactValidFixRow.domain false) (Rows.fnExactValidFixSpec.post enc Try.prog Try.f10 false true false false) := by
  refine returnsInHanded_of_change (C := Try.checked) own started (by kernel_rfl) Try.func10
    (ChangeSpec.witness6 (enc := enc) (C := Try.checked) false ⟨#[], #[.agg #[.int .i64 0, .int .i64 0, .int .i64 0, .int .i64 0, .int .i64 0]], []⟩ 8 (by kernel_rfl) (by kernel_rfl) (by kernel_rfl) (by kernel_rfl)) ?_
  intro W base args ds gs before hval0 hW hcnd _
  have hval : ∀ (j : Nat) t v, Try.f10.params[j]? = some t → args[j]? = some v → Value.okWide Try.prog W .any base t v := hval0
  have hW' := hW
  obtain ⟨p, q, hA0, hV, rfl, hfz, hnd⟩ := hW
  have hA : DataW.TrodAll enc Try.prog W 0 (fun _ => true) true Try.f10.params.toList args.toList ds p := hA0
  rw [Try.params10] at hA hval
  obtain ⟨v0, vs0, d0, ds0, p0, q0, hargs, rfl, rfl, h0, r0⟩ := trodAll_cons hA
  obtain ⟨rfl, rfl, rfl⟩ := trodAll_nil r0
  obtain rfl : args = #[v0] := by cases args; simp_all
  obtain ⟨rfl, rfl⟩ := trodVars_none hV
  obtain ⟨u0a, u0b, u0c, u0d, u0e, y0a, y0b, y0c, y0d, y0e, m0, rfl, rfl, rfl, hy0a, hy0b, hy0c, ⟨m0d, hy0d⟩, ⟨m0e, hy0e⟩⟩ := open_fix Try.underlying39 (by kernel_rfl) cells Try.underlying37 (by kernel_rfl) (hval 0 39 v0 rfl rfl) h0
  obtain ⟨xa0, ea0, rfl, wa0⟩ := DataW.trod_int Try.underlying3 hy0a
  obtain ⟨xb0, eb0, rfl, wb0⟩ := DataW.trod_int Try.underlying3 hy0b
  obtain ⟨xc0, ec0, rfl, wc0⟩ := DataW.trod_int Try.underlying3 hy0c
  obtain ⟨xd0, ed0, rfl, wd0⟩ := DataW.trod_int Try.underlying3 hy0d
  obtain ⟨xe0, ee0, rfl, we0⟩ := DataW.trod_int Try.underlying3 hy0e
  simp at ea0 eb0 ec0 ed0 ee0
  subst ea0
  subst eb0
  subst ec0
  subst ed0
  subst ee0
  have reads0 : ∀ (W' : World) (sp : Nat → Bool), DataW.Trod enc Try.prog W' 0 sp true 39 (.agg #[.int .i64 xa0, .int .i64 xb0, .int .i64 xc0, .int .i64 xd0, .int .i64 xe0]) (.agg [.agg [.lit (.int .i64 xa0), .lit (.int .i64 xb0), .lit (.int .i64 xc0)], .lit (.int .i64 xd0), .lit (.int .i64 xe0)]) [] := fun W' sp =>
    shut_fix (y0 := (.lit (.int .i64 xa0), [])) (y1 := (.lit (.int .i64 xb0), [])) (y2 := (.lit (.int .i64 xc0), [])) (y3 := (.lit (.int .i64 xd0), [])) (y4 := (.lit (.int .i64 xe0), [])) Try.underlying39 (by kernel_rfl) cells Try.underlying37 (by kernel_rfl) ⟨1, by simp [DataW.trod, Try.underlying3, wa0]⟩ ⟨1, by simp [DataW.trod, Try.underlying3, wb0]⟩ ⟨1, by simp [DataW.trod, Try.underlying3, wc0]⟩ ⟨1, by simp [DataW.trod, Try.underlying3, wd0]⟩ ⟨1, by simp [DataW.trod, Try.underlying3, we0]⟩
  clear hA0 hval0
  refine (walk xa0 xb0 xc0 xd0 xe0 W wa0 wb0 wc0 wd0 we0).mono fun e W' ⟨he, bel⟩ => ?_
  subst he
  exact ⟨_, rfl, _, _, _, [], _, [], hW', trodAll_mk1 (shut_bool Try.underlying4 _), (trodAll_cons_mk (reads0 _ _) trodAll_mk0), rfl, bel.frame _, fun h => by cases h⟩

theorem closed : joinedFacts Try.pinned.checked.prog 10 Try.f10 Rows.fnExactValidFixSpec Rows.fnExactValidFixRow = true := by
  unfold joinedFacts
  rw [mayJ, liftsJ, makeJ]
  kernel_rfl

theorem over : Rows.fnExactValidFixRow.holds Try.pinned (OpenSpec.ofChange Rows.fnExactValidFixSpec) :=
  OpenClaim.holds_of_wide 10 Try.f10 rfl rfl rfl rfl rfl rfl rfl ⟨rfl, rfl, rfl, rfl, rfl⟩ rfl rfl rfl rfl rfl (by kernel_rfl) Try.func10 closed
    (of_decide_eq_true (by kernel_rfl)) (by unfold Func.isWrapper; first | (rw [if_pos (by decide +kernel)]; kernel_rfl) | (rw [if_neg (by decide +kernel)]; exact ⟨rfl, rfl⟩))
    (fun os started H enc _ => lifted os started H enc)

/-- THE STATEMENT -/
theorem proved : Rows.FnExactValidFixSaid := over
#print axioms proved
end Go.Proofs.Ytjlplnflhleohaa.fnExactValidFix
