/-
  PROVED: FnExactValidPacket: for every input the law returns true, and the input reads as it did. No condition.
  The frame is as the kit prints it (proof-skeleton.mjs); the walk is mine.
-/
import Derived.Test.YtidfkbhdifkolaaRows
import Derived.Test.YtidfkbhdifkolaaCopyD
import Derived.Test.YtidfkbhdifkolaaJoin8
import Derived.WalkKit
import Derived.ProofKit
import Derived.OpenShut
import Derived.ShutString
import Derived.ChangeOld
import Derived.Below
import Derived.Lib.SmallJoins
namespace Go.Proofs.Ytidfkbhdifkolaa.fnExactValidPacket
open Go.ChangeShapes Go.WideShapes Go.ChangeAt Go.RowKit Go.Joins
set_option linter.unusedVariables false

theorem own : ownKnob Try.prog.godebug = none := by kernel_rfl
theorem laidOut : laidOutB Try.prog = true := by kernel_rfl
theorem cells : Try.prog.cellsOf 33 = 8 := by kernel_rfl

set_option maxRecDepth 100000 in
set_option maxHeartbeats 1000000 in
theorem walk (xa0 xb0 xc0 xd0 xe0 xf0 xg0 xh0 : Int) (w : World) (wa0 : (Lit.int .i64 xa0).wf = true) (wb0 : (Lit.int .i64 xb0).wf = true) (wc0 : (Lit.int .i64 xc0).wf = true) (wd0 : (Lit.int .i64 xd0).wf = true) (we0 : (Lit.int .i64 xe0).wf = true) (wf0 : (Lit.int .i64 xf0).wf = true) (wg0 : (Lit.int .i64 xg0).wf = true) (wh0 : (Lit.int .i64 xh0).wf = true) :
    Calls Try.prog 7 #[.agg #[.int .i64 xa0, .int .i64 xb0, .int .i64 xc0, .int .i64 xd0, .int .i64 xe0, .int .i64 xf0, .int .i64 xg0, .int .i64 xh0]] w fun e w' => e = .returned (.bool true) ∧ Below w.heap.size w w' := by
  have bA := (Below.refl w.heap.size w).alloc (Nat.le_refl _) (.cells #[.int .i64 xa0, .int .i64 xb0, .int .i64 xc0, .int .i64 xd0, .int .i64 xe0, .int .i64 xf0, .int .i64 xg0, .int .i64 xh0] 33)
  have xA := C8.new w xa0 xb0 xc0 xd0 xe0 xf0 xg0 xh0 33
  go_enter Try.func7, Try.ntmps7
  go_wp2_with fail
  refine (toPacket_any _ _ _ _ _ _ _ _ _).mono ?_
  rintro e w1 ⟨rfl, b1⟩
  have bA1 := bA.trans (b1.mono bA.size)
  have xA1 := xA.bw b1
  clear bA xA b1
  go_wp2_with fail
  refine (VP_spec _ _ _ _ _ _ _ _ _).mono ?_
  rintro e w2 ⟨rfl, b2⟩
  have bA2 := bA1.trans (b2.mono bA1.size)
  have xA2 := xA1.bw b2
  have x0 := xA2.c0
  have x1 := xA2.c1
  have x2 := xA2.c2
  have x3 := xA2.c3
  have x4 := xA2.c4
  have x5 := xA2.c5
  have x6 := xA2.c6
  have x7 := xA2.c7
  clear bA1 xA1 b2
  go_wp2_with fail
  refine (toPacket_any _ _ _ _ _ _ _ _ _).mono ?_
  rintro e w3 ⟨rfl, b3⟩
  have bA3 := bA2.trans (b3.mono bA2.size)
  clear bA2 xA2 b3 x0 x1 x2 x3 x4 x5 x6 x7
  go_wp2_with fail
  refine (vp_impl _ _ _ _ _ _ _ _ _).mono ?_
  rintro e w4 ⟨rfl, b4⟩
  have bA4 := bA3.trans (b4.mono bA3.size)
  clear bA3 b4
  go_wp2
  go_ret
  exact ⟨rfl, bA4⟩

/-! ### THE ROW -/
set_option maxRecDepth 100000 in
theorem lifted (os : Os) (started : os.Started) (H : Type) (enc : TypeId × Value → H) :
    ReturnsInHanded {} Try.checked os 7 .any (Rows.fnExactValidPacketSpec.pre6 enc Try.prog Try.f7 Rows.fnExactValidPacketRow.domain false) (Rows.fnExactValidPacketSpec.post enc Try.prog Try.f7 false true false false) := by
  refine returnsInHanded_of_change (C := Try.checked) own started (by kernel_rfl) Try.func7
    (ChangeSpec.witness6 (enc := enc) (C := Try.checked) false ⟨#[], #[.agg #[.int .i64 0, .int .i64 0, .int .i64 0, .int .i64 0, .int .i64 0, .int .i64 0, .int .i64 0, .int .i64 0]], []⟩ 8 (by kernel_rfl) (by kernel_rfl) (by kernel_rfl) (by kernel_rfl)) ?_
  intro W base args ds gs before hval0 hW hcnd _
  have hval : ∀ (j : Nat) t v, Try.f7.params[j]? = some t → args[j]? = some v → Value.okWide Try.prog W .any base t v := hval0
  have hW' := hW
  obtain ⟨p, q, hA0, hV, rfl, hfz, hnd⟩ := hW
  have hA : DataW.TrodAll enc Try.prog W 0 (fun _ => true) true Try.f7.params.toList args.toList ds p := hA0
  rw [Try.params7] at hA hval
  obtain ⟨v0, vs0, d0, ds0, p0, q0, hargs, rfl, rfl, h0, r0⟩ := trodAll_cons hA
  obtain ⟨rfl, rfl, rfl⟩ := trodAll_nil r0
  obtain rfl : args = #[v0] := by cases args; simp_all
  obtain ⟨rfl, rfl⟩ := trodVars_none hV
  obtain ⟨u0a, u0b, u0c, u0d, u0e, u0f, u0g, u0h, y0a, y0b, y0c, y0d, y0e, y0f, y0g, y0h, m0, rfl, rfl, rfl, hy0a, hy0b, hy0c, hy0d, hy0e, hy0f, hy0g, hy0h⟩ := open_agg8 Try.underlying33 (by kernel_rfl) cells (hval 0 33 v0 rfl rfl) h0
  obtain ⟨xa0, ea0, rfl, wa0⟩ := DataW.trod_int Try.underlying3 hy0a
  obtain ⟨xb0, eb0, rfl, wb0⟩ := DataW.trod_int Try.underlying3 hy0b
  obtain ⟨xc0, ec0, rfl, wc0⟩ := DataW.trod_int Try.underlying3 hy0c
  obtain ⟨xd0, ed0, rfl, wd0⟩ := DataW.trod_int Try.underlying3 hy0d
  obtain ⟨xe0, ee0, rfl, we0⟩ := DataW.trod_int Try.underlying3 hy0e
  obtain ⟨xf0, ef0, rfl, wf0⟩ := DataW.trod_int Try.underlying3 hy0f
  obtain ⟨xg0, eg0, rfl, wg0⟩ := DataW.trod_int Try.underlying3 hy0g
  obtain ⟨xh0, eh0, rfl, wh0⟩ := DataW.trod_int Try.underlying3 hy0h
  simp at ea0 eb0 ec0 ed0 ee0 ef0 eg0 eh0
  subst ea0
  subst eb0
  subst ec0
  subst ed0
  subst ee0
  subst ef0
  subst eg0
  subst eh0
  have reads0 : ∀ (W' : World) (sp : Nat → Bool), DataW.Trod enc Try.prog W' 0 sp true 33 (.agg #[.int .i64 xa0, .int .i64 xb0, .int .i64 xc0, .int .i64 xd0, .int .i64 xe0, .int .i64 xf0, .int .i64 xg0, .int .i64 xh0]) (.agg [.lit (.int .i64 xa0), .lit (.int .i64 xb0), .lit (.int .i64 xc0), .lit (.int .i64 xd0), .lit (.int .i64 xe0), .lit (.int .i64 xf0), .lit (.int .i64 xg0), .lit (.int .i64 xh0)]) [] := fun W' sp =>
    shut_agg8 (y0 := (.lit (.int .i64 xa0), [])) (y1 := (.lit (.int .i64 xb0), [])) (y2 := (.lit (.int .i64 xc0), [])) (y3 := (.lit (.int .i64 xd0), [])) (y4 := (.lit (.int .i64 xe0), [])) (y5 := (.lit (.int .i64 xf0), [])) (y6 := (.lit (.int .i64 xg0), [])) (y7 := (.lit (.int .i64 xh0), [])) Try.underlying33 (by kernel_rfl) cells ⟨1, by simp [DataW.trod, Try.underlying3, wa0]⟩ ⟨1, by simp [DataW.trod, Try.underlying3, wb0]⟩ ⟨1, by simp [DataW.trod, Try.underlying3, wc0]⟩ ⟨1, by simp [DataW.trod, Try.underlying3, wd0]⟩ ⟨1, by simp [DataW.trod, Try.underlying3, we0]⟩ ⟨1, by simp [DataW.trod, Try.underlying3, wf0]⟩ ⟨1, by simp [DataW.trod, Try.underlying3, wg0]⟩ ⟨1, by simp [DataW.trod, Try.underlying3, wh0]⟩
  clear hA0 hval0
  refine (walk xa0 xb0 xc0 xd0 xe0 xf0 xg0 xh0 W wa0 wb0 wc0 wd0 we0 wf0 wg0 wh0).mono fun e W' ⟨he, bel⟩ => ?_
  subst he
  exact ⟨_, rfl, _, _, _, [], _, [], hW', trodAll_mk1 (shut_bool Try.underlying4 _), (trodAll_cons_mk (reads0 _ _) trodAll_mk0), rfl, bel.frame _, fun h => by cases h⟩

theorem over : Rows.fnExactValidPacketRow.holds Try.pinned (OpenSpec.ofChange Rows.fnExactValidPacketSpec) :=
  OpenClaim.holds_of_wide 7 Try.f7 rfl rfl rfl rfl rfl rfl rfl ⟨rfl, rfl, rfl, rfl, rfl⟩ rfl rfl rfl rfl rfl (by kernel_rfl) Try.func7 (by kernel_rfl)
    (of_decide_eq_true (by kernel_rfl)) (by unfold Func.isWrapper; first | (rw [if_pos (by decide +kernel)]; kernel_rfl) | (rw [if_neg (by decide +kernel)]; exact ⟨rfl, rfl⟩))
    (fun os started H enc _ => lifted os started H enc)

/-- THE STATEMENT -/
theorem proved : Rows.FnExactValidPacketSaid := over
#print axioms proved
end Go.Proofs.Ytidfkbhdifkolaa.fnExactValidPacket
