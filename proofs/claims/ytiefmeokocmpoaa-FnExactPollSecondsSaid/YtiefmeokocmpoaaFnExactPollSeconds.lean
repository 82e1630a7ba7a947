/-
  PROVED: FnExactPollSeconds: for every input the law returns true, and the input reads as it did. No condition.
  The frame is as the kit prints it (proof-skeleton.mjs); the walk is mine.
-/
import Derived.Test.YtiefmeokocmpoaaRows
import Derived.Test.YtiefmeokocmpoaaCopyPl
import Derived.WalkKit
import Derived.ProofKit
import Derived.OpenShut
import Derived.ShutString
import Derived.ChangeOld
import Derived.Below
import Derived.Lib.SmallJoins
namespace Go.Proofs.Ytiefmeokocmpoaa.fnExactPollSeconds
open Go.ChangeShapes Go.WideShapes Go.ChangeAt Go.RowKit Go.Joins
set_option linter.unusedVariables false

theorem own : ownKnob Try.prog.godebug = none := by kernel_rfl
theorem laidOut : laidOutB Try.prog = true := by kernel_rfl
theorem cells : Try.prog.cellsOf 29 = 2 := by kernel_rfl

set_option maxRecDepth 100000 in
set_option maxHeartbeats 4000000 in
theorem walk (a0 b0 : Int) (w : World) (wa0 : (Lit.int .i64 a0).wf = true) (wb0 : (Lit.int .i64 b0).wf = true) :
    Calls Try.prog 6 #[.agg #[.int .i64 a0, .int .i64 b0]] w fun e w' => e = .returned (.bool true) ∧ Below w.heap.size w w' := by
  have b1 := (Below.refl w.heap.size w).alloc (Nat.le_refl _) (.cells #[.int .i64 a0, .int .i64 b0] 29)
  have p1 := P2.new w a0 b0 29
  have KT := Lib.hid (fun w' => toPoll_any a0 b0 w')
  have K1k := fun w' => ps_impl a0 b0 w'
  have K1 := Lib.hid K1k
  clear K1k
  have K2k := fun w' => ps_spec a0 b0 w'
  have K2 := Lib.hid K2k
  clear K2k
  go_enter Try.func6, Try.ntmps6
  have pc0 := p1.c0
  have pc1 := p1.c1
  go_wp2_with fail
  refine (KT.out _).mono ?_
  rintro e w2 ⟨rfl, bb⟩
  clear pc0 pc1
  have p2 := p1.b bb
  have b2 := b1.trans (bb.mono b1.size)
  clear p1 b1 bb
  go_wp2_with fail
  refine (K2.out _).mono ?_
  rintro e w3 ⟨rfl, bb⟩
  have p3 := p2.b bb
  have b3 := b2.trans (bb.mono b2.size)
  clear p2 b2 bb
  have pc0 := p3.c0
  have pc1 := p3.c1
  go_wp2_with fail
  refine (KT.out _).mono ?_
  rintro e w4 ⟨rfl, bb⟩
  clear pc0 pc1
  have p4 := p3.b bb
  have b4 := b3.trans (bb.mono b3.size)
  clear p3 b3 bb
  go_wp2_with fail
  refine (K1.out _).mono ?_
  rintro e w5 ⟨rfl, bb⟩
  have p5 := p4.b bb
  have b5 := b4.trans (bb.mono b4.size)
  clear p4 b4 bb
  go_wp2
  go_ret
  exact ⟨ret_bool (by first | rfl | (simp; done) | simp_all), b5⟩

/-! ### THE ROW -/
set_option maxRecDepth 100000 in
theorem lifted (os : Os) (started : os.Started) (H : Type) (enc : TypeId × Value → H) :
    ReturnsInHanded {} Try.checked os 6 .any (Rows.fnExactPollSecondsSpec.pre6 enc Try.prog Try.f6 Rows.fnExactPollSecondsRow.domain false) (Rows.fnExactPollSecondsSpec.post enc Try.prog Try.f6 false true false false) := by
  refine returnsInHanded_of_change (C := Try.checked) own started (by kernel_rfl) Try.func6
    (ChangeSpec.witness6 (enc := enc) (C := Try.checked) false ⟨#[], #[.agg #[.int .i64 0, .int .i64 0]], []⟩ 8 (by kernel_rfl) (by kernel_rfl) (by kernel_rfl) (by kernel_rfl)) ?_
  intro W base args ds gs before hval0 hW hcnd _
  have hval : ∀ (j : Nat) t v, Try.f6.params[j]? = some t → args[j]? = some v → Value.okWide Try.prog W .any base t v := hval0
  have hW' := hW
  obtain ⟨p, q, hA0, hV, rfl, hfz, hnd⟩ := hW
  have hA : DataW.TrodAll enc Try.prog W 0 (fun _ => true) true Try.f6.params.toList args.toList ds p := hA0
  rw [Try.params6] at hA hval
  obtain ⟨v0, vs0, d0, ds0, p0, q0, hargs, rfl, rfl, h0, r0⟩ := trodAll_cons hA
  obtain ⟨rfl, rfl, rfl⟩ := trodAll_nil r0
  obtain rfl : args = #[v0] := by cases args; simp_all
  obtain ⟨rfl, rfl⟩ := trodVars_none hV
  obtain ⟨u0, u0_, y0, y0_, m0, rfl, rfl, rfl, hy0, hy0_⟩ := open_agg2 Try.underlying29 (by kernel_rfl) cells (hval 0 29 v0 rfl rfl) h0
  obtain ⟨a0, ea0, rfl, wa0⟩ := DataW.trod_int Try.underlying3 hy0
  obtain ⟨b0, eb0, rfl, wb0⟩ := DataW.trod_int Try.underlying3 hy0_
  simp at ea0 eb0
  subst ea0 eb0
  have reads0 : ∀ (W' : World) (sp : Nat → Bool), DataW.Trod enc Try.prog W' 0 sp true 29 (.agg #[.int .i64 a0, .int .i64 b0]) (.agg [.lit (.int .i64 a0), .lit (.int .i64 b0)]) [] := fun W' sp =>
    shut_agg2 (y0 := (.lit (.int .i64 a0), [])) (y1 := (.lit (.int .i64 b0), [])) Try.underlying29 (by kernel_rfl) cells ⟨1, by simp [DataW.trod, Try.underlying3, wa0]⟩ ⟨1, by simp [DataW.trod, Try.underlying3, wb0]⟩
  clear hA0 hval0
  refine (walk a0 b0 W wa0 wb0).mono fun e W' ⟨he, bel⟩ => ?_
  subst he
  exact ⟨_, rfl, _, _, _, [], _, [], hW', trodAll_mk1 (shut_bool Try.underlying4 _), (trodAll_cons_mk (reads0 _ _) trodAll_mk0), rfl, bel.frame _, fun h => by cases h⟩

theorem over : Rows.fnExactPollSecondsRow.holds Try.pinned (OpenSpec.ofChange Rows.fnExactPollSecondsSpec) :=
  OpenClaim.holds_of_wide 6 Try.f6 rfl rfl rfl rfl rfl rfl rfl ⟨rfl, rfl, rfl, rfl, rfl⟩ rfl rfl rfl rfl rfl (by kernel_rfl) Try.func6 (by kernel_rfl)
    (of_decide_eq_true (by kernel_rfl)) (by unfold Func.isWrapper; first | (rw [if_pos (by decide +kernel)]; kernel_rfl) | (rw [if_neg (by decide +kernel)]; exact ⟨rfl, rfl⟩))
    (fun os started H enc _ => lifted os started H enc)

/-- THE STATEMENT -/
theorem proved : Rows.FnExactPollSecondsSaid := over
#print axioms proved
end Go.Proofs.Ytiefmeokocmpoaa.fnExactPollSeconds
