/-
  PROVED: FnExactAnswerClient: for every input the law returns true, and the input reads as it did. No condition.
  The frame is as the kit prints it (proof-skeleton.mjs); the walk is mine.
-/
import Derived.Test.YtigaifnoicnafaaRows
import Derived.Test.YtigaifnoicnafaaCopyD
import Derived.Test.YtigaifnoicnafaaAnswer
import Derived.Test.YtigaifnoicnafaaJoin8
import Derived.WalkKit
import Derived.ProofKit
import Derived.OpenShut
import Derived.ShutString
import Derived.ChangeOld
import Derived.Below
import Derived.Lib.SmallJoins
namespace Go.Proofs.Ytigaifnoicnafaa.fnExactAnswerClient
open Go.ChangeShapes Go.WideShapes Go.ChangeAt Go.RowKit Go.Joins
set_option linter.unusedVariables false

theorem own : ownKnob Try.prog.godebug = none := by kernel_rfl
theorem laidOut : laidOutB Try.prog = true := by kernel_rfl
theorem cells : Try.prog.cellsOf 44 = 8 := by kernel_rfl

set_option maxRecDepth 100000 in
set_option maxHeartbeats 4000000 in
theorem walk (xa0 xb0 xc0 xd0 xe0 xf0 xg0 xh0 : Int) (a1 : Int) (a2 : Int) (a3 : Int) (a4 : Int) (w : World) (wa0 : (Lit.int .i64 xa0).wf = true) (wb0 : (Lit.int .i64 xb0).wf = true) (wc0 : (Lit.int .i64 xc0).wf = true) (wd0 : (Lit.int .i64 xd0).wf = true) (we0 : (Lit.int .i64 xe0).wf = true) (wf0 : (Lit.int .i64 xf0).wf = true) (wg0 : (Lit.int .i64 xg0).wf = true) (wh0 : (Lit.int .i64 xh0).wf = true) (w1 : (Lit.int .i64 a1).wf = true) (w2 : (Lit.int .i64 a2).wf = true) (w3 : (Lit.int .i64 a3).wf = true) (w4 : (Lit.int .i64 a4).wf = true) :
    Calls Try.prog 10 #[.agg #[.int .i64 xa0, .int .i64 xb0, .int .i64 xc0, .int .i64 xd0, .int .i64 xe0, .int .i64 xf0, .int .i64 xg0, .int .i64 xh0], .int .i64 a1, .int .i64 a2, .int .i64 a3, .int .i64 a4] w fun e w' => e = .returned (.bool true) ∧ Below w.heap.size w w' := by
  have b1 := (Below.refl w.heap.size w).alloc (Nat.le_refl _) (.cells #[.int .i64 xa0, .int .i64 xb0, .int .i64 xc0, .int .i64 xd0, .int .i64 xe0, .int .i64 xf0, .int .i64 xg0, .int .i64 xh0] 44)
  have p1 := C8.new w xa0 xb0 xc0 xd0 xe0 xf0 xg0 xh0 44
  have KT := Lib.hid (fun w' => toPacket_any xa0 xb0 xc0 xd0 xe0 xf0 xg0 xh0 w')
  have hh : ∃ (y0 y1 y2 y3 y4 y5 y6 y7 : Int) (ok : Bool), (∀ w' : World, Calls Try.prog 17 #[.agg #[.int .i64 xa0, .int .i64 xb0, .int .i64 xc0, .int .i64 xd0, .int .i64 xe0, .int .i64 xf0, .int .i64 xg0, .int .i64 xh0], .int .i64 a1, .int .i64 a2, .int .i64 a3, .int .i64 a4] w' fun e w'' => e = .returned (.tuple #[.agg #[.int .i64 y0, .int .i64 y1, .int .i64 y2, .int .i64 y3, .int .i64 y4, .int .i64 y5, .int .i64 y6, .int .i64 y7], .bool ok]) ∧ Below w'.heap.size w' w'') ∧ (∀ w' : World, Calls Try.prog 18 #[.agg #[.int .i64 xa0, .int .i64 xb0, .int .i64 xc0, .int .i64 xd0, .int .i64 xe0, .int .i64 xf0, .int .i64 xg0, .int .i64 xh0], .int .i64 a1, .int .i64 a2, .int .i64 a3, .int .i64 a4] w' fun e w'' => e = .returned (.tuple #[.agg #[.int .i64 y0, .int .i64 y1, .int .i64 y2, .int .i64 y3, .int .i64 y4, .int .i64 y5, .int .i64 y6, .int .i64 y7], .bool ok]) ∧ Below w'.heap.size w' w'') := by
    by_cases q : D.Ak xa0 xb0 xc0 xd0 xe0 xf0 xg0 xh0 a1 a2 a3 a4
    · exact ⟨_, _, _, _, _, _, _, _, true, fun w' => AN_impl_yes _ _ _ _ _ _ _ _ _ _ _ _ q w', fun w' => AN_spec_yes _ _ _ _ _ _ _ _ _ _ _ _ q w'⟩
    · exact ⟨_, _, _, _, _, _, _, _, false, fun w' => AN_impl_no _ _ _ _ _ _ _ _ _ _ _ _ q w', fun w' => AN_spec_no _ _ _ _ _ _ _ _ _ _ _ _ q w'⟩
  obtain ⟨y0, y1, y2, y3, y4, y5, y6, y7, ok, k1, k2⟩ := hh
  have K1 := Lib.hid k1
  have K2 := Lib.hid k2
  clear k1 k2
  go_enter Try.func10, Try.ntmps10
  have pc0 := p1.c0
  have pc1 := p1.c1
  have pc2 := p1.c2
  have pc3 := p1.c3
  have pc4 := p1.c4
  have pc5 := p1.c5
  have pc6 := p1.c6
  have pc7 := p1.c7
  go_wp2_with fail
  refine (KT.out _).mono ?_
  rintro e w2 ⟨rfl, bb⟩
  clear pc0 pc1 pc2 pc3 pc4 pc5 pc6 pc7
  have p2 := p1.bw bb
  have b2 := b1.trans (bb.mono b1.size)
  clear p1 b1 bb
  go_wp2_with fail
  refine (K2.out _).mono ?_
  rintro e w3 ⟨rfl, bb⟩
  have p3 := p2.bw bb
  have b3 := b2.trans (bb.mono b2.size)
  clear p2 b2 bb
  replace p3 := p3.al (.cells #[.int .i64 y0, .int .i64 y1, .int .i64 y2, .int .i64 y3, .int .i64 y4, .int .i64 y5, .int .i64 y6, .int .i64 y7] 25)
  replace b3 := b3.alloc b3.size (.cells #[.int .i64 y0, .int .i64 y1, .int .i64 y2, .int .i64 y3, .int .i64 y4, .int .i64 y5, .int .i64 y6, .int .i64 y7] 25)
  have v3 := C8.new w3 y0 y1 y2 y3 y4 y5 y6 y7 25
  have pc0 := p3.c0
  have pc1 := p3.c1
  have pc2 := p3.c2
  have pc3 := p3.c3
  have pc4 := p3.c4
  have pc5 := p3.c5
  have pc6 := p3.c6
  have pc7 := p3.c7
  go_wp2_with fail
  refine (KT.out _).mono ?_
  rintro e w4 ⟨rfl, bb⟩
  clear pc0 pc1 pc2 pc3 pc4 pc5 pc6 pc7
  have p4 := p3.bw bb
  have v4 := v3.bw bb
  have b4 := b3.trans (bb.mono b3.size)
  clear p3 v3 b3 bb
  go_wp2_with fail
  refine (K1.out _).mono ?_
  rintro e w5 ⟨rfl, bb⟩
  have p5 := p4.bw bb
  have v5 := v4.bw bb
  have b5 := b4.trans (bb.mono b4.size)
  clear p4 v4 b4 bb
  replace p5 := p5.al (.cells #[.int .i64 y0, .int .i64 y1, .int .i64 y2, .int .i64 y3, .int .i64 y4, .int .i64 y5, .int .i64 y6, .int .i64 y7] 25)
  replace v5 := v5.al (.cells #[.int .i64 y0, .int .i64 y1, .int .i64 y2, .int .i64 y3, .int .i64 y4, .int .i64 y5, .int .i64 y6, .int .i64 y7] 25)
  replace b5 := b5.alloc b5.size (.cells #[.int .i64 y0, .int .i64 y1, .int .i64 y2, .int .i64 y3, .int .i64 y4, .int .i64 y5, .int .i64 y6, .int .i64 y7] 25)
  have g5 := C8.new w5 y0 y1 y2 y3 y4 y5 y6 y7 25
  clear p5
  have vc0 := v5.c0
  have vc1 := v5.c1
  have vc2 := v5.c2
  have vc3 := v5.c3
  have vc4 := v5.c4
  have vc5 := v5.c5
  have vc6 := v5.c6
  have vc7 := v5.c7
  have gc0 := g5.c0
  have gc1 := g5.c1
  have gc2 := g5.c2
  have gc3 := g5.c3
  have gc4 := g5.c4
  have gc5 := g5.c5
  have gc6 := g5.c6
  have gc7 := g5.c7
  go_wp2_with fail
  refine (eqPacket_same _ _ _ _ _ _ _ _ _).mono ?_
  rintro e w6 ⟨rfl, bb⟩
  clear vc0 vc1 vc2 vc3 vc4 vc5 vc6 vc7 gc0 gc1 gc2 gc3 gc4 gc5 gc6 gc7
  have v6 := v5.bw bb
  have g6 := g5.bw bb
  have b6 := b5.trans (bb.mono b5.size)
  clear v5 g5 b5 bb
  go_wp2
  go_ret
  exact ⟨ret_bool (by first | rfl | (simp; done) | simp_all), b6⟩

/-! ### THE ROW -/
set_option maxRecDepth 100000 in
theorem lifted (os : Os) (started : os.Started) (H : Type) (enc : TypeId × Value → H) :
    ReturnsInHanded {} Try.checked os 10 .any (Rows.fnExactAnswerClientSpec.pre6 enc Try.prog Try.f10 Rows.fnExactAnswerClientRow.domain false) (Rows.fnExactAnswerClientSpec.post enc Try.prog Try.f10 false true false false) := by
  refine returnsInHanded_of_change (C := Try.checked) own started (by kernel_rfl) Try.func10
    (ChangeSpec.witness6 (enc := enc) (C := Try.checked) false ⟨#[], #[.agg #[.int .i64 0, .int .i64 0, .int .i64 0, .int .i64 0, .int .i64 0, .int .i64 0, .int .i64 0, .int .i64 0], .int .i64 0, .int .i64 0, .int .i64 0, .int .i64 0], []⟩ 8 (by kernel_rfl) (by kernel_rfl) (by kernel_rfl) (by kernel_rfl)) ?_
  intro W base args ds gs before hval0 hW hcnd _
  have hval : ∀ (j : Nat) t v, Try.f10.params[j]? = some t → args[j]? = some v → Value.okWide Try.prog W .any base t v := hval0
  have hW' := hW
  obtain ⟨p, q, hA0, hV, rfl, hfz, hnd⟩ := hW
  have hA : DataW.TrodAll enc Try.prog W 0 (fun _ => true) true Try.f10.params.toList args.toList ds p := hA0
  rw [Try.params10] at hA hval
  obtain ⟨v0, vs0, d0, ds0, p0, q0, hargs, rfl, rfl, h0, r0⟩ := trodAll_cons hA
  obtain ⟨v1, vs1, d1, ds1, p1, q1, rfl, rfl, rfl, h1, r1⟩ := trodAll_cons r0
  obtain ⟨v2, vs2, d2, ds2, p2, q2, rfl, rfl, rfl, h2, r2⟩ := trodAll_cons r1
  obtain ⟨v3, vs3, d3, ds3, p3, q3, rfl, rfl, rfl, h3, r3⟩ := trodAll_cons r2
  obtain ⟨v4, vs4, d4, ds4, p4, q4, rfl, rfl, rfl, h4, r4⟩ := trodAll_cons r3
  obtain ⟨rfl, rfl, rfl⟩ := trodAll_nil r4
  obtain rfl : args = #[v0, v1, v2, v3, v4] := by cases args; simp_all
  obtain ⟨rfl, rfl⟩ := trodVars_none hV
  obtain ⟨u0a, u0b, u0c, u0d, u0e, u0f, u0g, u0h, y0a, y0b, y0c, y0d, y0e, y0f, y0g, y0h, m0, rfl, rfl, rfl, hy0a, hy0b, hy0c, hy0d, hy0e, hy0f, hy0g, hy0h⟩ := open_agg8 Try.underlying44 (by kernel_rfl) cells (hval 0 44 v0 rfl rfl) h0
  obtain ⟨xa0, ea0, rfl, wa0⟩ := DataW.trod_int Try.underlying3 hy0a
  obtain ⟨xb0, eb0, rfl, wb0⟩ := DataW.trod_int Try.underlying3 hy0b
  obtain ⟨xc0, ec0, rfl, wc0⟩ := DataW.trod_int Try.underlying3 hy0c
  obtain ⟨xd0, ed0, rfl, wd0⟩ := DataW.trod_int Try.underlying3 hy0d
  obtain ⟨xe0, ee0, rfl, we0⟩ := DataW.trod_int Try.underlying3 hy0e
  obtain ⟨xf0, ef0, rfl, wf0⟩ := DataW.trod_int Try.underlying3 hy0f
  obtain ⟨xg0, eg0, rfl, wg0⟩ := DataW.trod_int Try.underlying3 hy0g
  obtain ⟨xh0, eh0, rfl, wh0⟩ := DataW.trod_int Try.underlying3 hy0h
  simp at ea0 eb0 ec0 ed0 ee0 ef0 eg0 eh0
  subst ea0
  subst eb0
  subst ec0
  subst ed0
  subst ee0
  subst ef0
  subst eg0
  subst eh0
  obtain ⟨a1, rfl, rfl, rfl, w1⟩ := open_int Try.underlying3 (hval 1 3 v1 rfl rfl) h1
  obtain ⟨a2, rfl, rfl, rfl, w2⟩ := open_int Try.underlying3 (hval 2 3 v2 rfl rfl) h2
  obtain ⟨a3, rfl, rfl, rfl, w3⟩ := open_int Try.underlying3 (hval 3 3 v3 rfl rfl) h3
  obtain ⟨a4, rfl, rfl, rfl, w4⟩ := open_int Try.underlying3 (hval 4 3 v4 rfl rfl) h4
  have reads0 : ∀ (W' : World) (sp : Nat → Bool), DataW.Trod enc Try.prog W' 0 sp true 44 (.agg #[.int .i64 xa0, .int .i64 xb0, .int .i64 xc0, .int .i64 xd0, .int .i64 xe0, .int .i64 xf0, .int .i64 xg0, .int .i64 xh0]) (.agg [.lit (.int .i64 xa0), .lit (.int .i64 xb0), .lit (.int .i64 xc0), .lit (.int .i64 xd0), .lit (.int .i64 xe0), .lit (.int .i64 xf0), .lit (.int .i64 xg0), .lit (.int .i64 xh0)]) [] := fun W' sp =>
    shut_agg8 (y0 := (.lit (.int .i64 xa0), [])) (y1 := (.lit (.int .i64 xb0), [])) (y2 := (.lit (.int .i64 xc0), [])) (y3 := (.lit (.int .i64 xd0), [])) (y4 := (.lit (.int .i64 xe0), [])) (y5 := (.lit (.int .i64 xf0), [])) (y6 := (.lit (.int .i64 xg0), [])) (y7 := (.lit (.int .i64 xh0), [])) Try.underlying44 (by kernel_rfl) cells ⟨1, by simp [DataW.trod, Try.underlying3, wa0]⟩ ⟨1, by simp [DataW.trod, Try.underlying3, wb0]⟩ ⟨1, by simp [DataW.trod, Try.underlying3, wc0]⟩ ⟨1, by simp [DataW.trod, Try.underlying3, wd0]⟩ ⟨1, by simp [DataW.trod, Try.underlying3, we0]⟩ ⟨1, by simp [DataW.trod, Try.underlying3, wf0]⟩ ⟨1, by simp [DataW.trod, Try.underlying3, wg0]⟩ ⟨1, by simp [DataW.trod, Try.underlying3, wh0]⟩
  clear hA0 hval0
  refine (walk xa0 xb0 xc0 xd0 xe0 xf0 xg0 xh0 a1 a2 a3 a4 W wa0 wb0 wc0 wd0 we0 wf0 wg0 wh0 w1 w2 w3 w4).mono fun e W' ⟨he, bel⟩ => ?_
  subst he
  exact ⟨_, rfl, _, _, _, [], _, [], hW', trodAll_mk1 (shut_bool Try.underlying4 _), (trodAll_cons_mk (reads0 _ _) (trodAll_cons_mk (shut_int Try.underlying3 w1) (trodAll_cons_mk (shut_int Try.underlying3 w2) (trodAll_cons_mk (shut_int Try.underlying3 w3) (trodAll_cons_mk (shut_int Try.underlying3 w4) trodAll_mk0))))), rfl, bel.frame _, fun h => by cases h⟩

theorem over : Rows.fnExactAnswerClientRow.holds Try.pinned (OpenSpec.ofChange Rows.fnExactAnswerClientSpec) :=
  OpenClaim.holds_of_wide 10 Try.f10 rfl rfl rfl rfl rfl rfl rfl ⟨rfl, rfl, rfl, rfl, rfl⟩ rfl rfl rfl rfl rfl (by kernel_rfl) Try.func10 (by kernel_rfl)
    (of_decide_eq_true (by kernel_rfl)) (by unfold Func.isWrapper; first | (rw [if_pos (by decide +kernel)]; kernel_rfl) | (rw [if_neg (by decide +kernel)]; exact ⟨rfl, rfl⟩))
    (fun os started H enc _ => lifted os started H enc)

/-- THE STATEMENT -/
theorem proved : Rows.FnExactAnswerClientSaid := over
#print axioms proved
end Go.Proofs.Ytigaifnoicnafaa.fnExactAnswerClient
