/-
  PROVED: FnExactFormatFix: for every input the law returns true, and the input reads as it did. The condition that the row lists: the library's tables hold what the library lays in them; the given tie says that they do.
  The frame is as the kit prints it (proof-skeleton.mjs); the walk is mine.
-/
import Derived.Test.YtopaglepkpblaaaDoorRows
import Derived.Test.YtopaglepkpblaaaDoorText
import Derived.Test.YtopaglepkpblaaaDoorCopyFx
import Derived.Test.YtopaglepkpblaaaDoorJoinF
import Derived.Test.YtopaglepkpblaaaDoorDoorT
import Derived.Test.YtopaglepkpblaaaDoorTie
import Derived.Test.YtopaglepkpblaaaDoorCards
import Derived.LaidMore
import Derived.OpenVars
import Derived.ChangeVars
import Derived.SevenTiedAt
import Derived.WalkKit
import Derived.ProofKit
import Derived.OpenShut
import Derived.ShutString
import Derived.ChangeOld
import Derived.Below
import Derived.Lib.SmallJoins
namespace Go.Proofs.YtopaglepkpblaaaDoor.fnExactFormatFix
open Go.ChangeShapes Go.WideShapes Go.ChangeAt Go.RowKit Go.Joins
set_option linter.unusedVariables false

theorem own : ownKnob Tryd.prog.godebug = none := by kernel_rfl
theorem laidOut : laidOutB Tryd.prog = true := by kernel_rfl
theorem cells : Tryd.prog.cellsOf 41 = 5 := by kernel_rfl

set_option maxRecDepth 100000 in
theorem walk (xa0 xb0 xc0 xd0 xe0 : Int) (w : World) (wa0 : (Lit.int .i64 xa0).wf = true) (wb0 : (Lit.int .i64 xb0).wf = true) (wc0 : (Lit.int .i64 xc0).wf = true) (wd0 : (Lit.int .i64 xd0).wf = true) (we0 : (Lit.int .i64 xe0).wf = true) (hT : Tb w) :
    Calls Tryd.prog 6 #[.agg #[.int .i64 xa0, .int .i64 xb0, .int .i64 xc0, .int .i64 xd0, .int .i64 xe0]] w fun e w' => e = .returned (.bool true) ∧ Below w.heap.size w w' := by
  go_enter Tryd.func6, Tryd.ntmps6
  have K := C5.new w xa0 xb0 xc0 xd0 xe0 41
  have g0 : Below w.heap.size w (w.alloc (.cells #[.int .i64 xa0, .int .i64 xb0, .int .i64 xc0, .int .i64 xd0, .int .i64 xe0] 41)) := (Below.refl _ _).alloc (Nat.le_refl _) _
  have HT := Lib.hid hT
  clear hT
  go_wp2_with fail
  refine (toFix_any _ _ _ _ _ _).mono ?_
  rintro e w1 ⟨rfl, hb⟩
  have k1 := K.b hb
  have g1 := g0.trans (hb.mono g0.size)
  clear hb K g0
  go_wp2_with fail
  refine (ff_spec _ _ _ _ _ _).mono ?_
  rintro e w2 ⟨rfl, hb⟩
  have k2 := k1.b hb
  have g2 := g1.trans (hb.mono g1.size)
  clear hb k1 g1
  obtain ⟨c0, c1, c2, c3, c4, cl⟩ := k2
  go_wp2_with fail
  refine (toFix_any _ _ _ _ _ _).mono ?_
  rintro e w3 ⟨rfl, hb⟩
  have g3 := g2.trans (hb.mono g2.size)
  clear hb g2 c0 c1 c2 c3 c4 cl
  go_wp2_with fail
  refine (ff_impl _ _ _ _ _ _ (HT.out.b g3)).mono ?_
  rintro e w4 ⟨rfl, hb⟩
  have g4 := g3.trans (hb.mono g3.size)
  clear hb
  go_wp2
  go_ret
  exact ⟨rfl, g4⟩

/-! ### THE ROW -/
set_option maxRecDepth 100000 in
theorem lifted (os : Os) (started : os.Started) (H : Type) (enc : TypeId × Value → H) :
    ReturnsInHanded {} Tryd.checked os 6 .any (fun w args => (Rows.fnExactFormatFixSpec.pre enc Tryd.prog Tryd.f6 [] false w args ∧ laidMetH Tryd.prog laidL w) ∧ sizedMet enc Tryd.prog Tryd.f6 (OpenSpec.ofChange Rows.fnExactFormatFixSpec) false w args) (Rows.fnExactFormatFixSpec.post enc Tryd.prog Tryd.f6 false true false false) := by
  refine returnsInHanded_of_change_and (C := Tryd.checked) (X := fun w _ => laidMetH Tryd.prog laidL w) (fun _ _ _ hh h => h.of_heap hh) own started (by kernel_rfl) Tryd.func6
    (ChangeSpec.witness_shaped (enc := enc) (C := Tryd.checked) (os := os) (X := fun w _ => laidMetH Tryd.prog laidL w) false (World.doorLaid Tryd.prog 400 os) #[.agg #[.int .i64 0, .int .i64 0, .int .i64 0, .int .i64 0, .int .i64 0]] 8 rfl (World.shaped_of_RefB (by kernel_rfl) (by kernel_rfl)) (by kernel_rfl) (by kernel_rfl) (by kernel_rfl) (door_met os _)) ?_
  intro W base args ds gs before hval0 hW _ _ hL _
  have hval : ∀ (j : Nat) t v, Tryd.f6.params[j]? = some t → args[j]? = some v → Value.okWide Tryd.prog W .any base t v := hval0
  have hW' := hW
  obtain ⟨p, q, hA0, hV, rfl, hfz, hnd⟩ := hW
  have hA : DataW.TrodAll enc Tryd.prog W 0 (fun _ => true) true Tryd.f6.params.toList args.toList ds p := hA0
  rw [Tryd.params6] at hA hval
  obtain ⟨v0, vs0, d0, ds0, p0, q0, hargs, rfl, rfl, h0, r0⟩ := trodAll_cons hA
  obtain ⟨rfl, rfl, rfl⟩ := trodAll_nil r0
  obtain rfl : args = #[v0] := by cases args; simp_all
  obtain ⟨rfl, rfl⟩ := trodVars_none hV
  obtain ⟨u0a, u0b, u0c, u0d, u0e, y0a, y0b, y0c, y0d, y0e, m0, rfl, rfl, rfl, hy0a, hy0b, hy0c, ⟨m0d, hy0d⟩, ⟨m0e, hy0e⟩⟩ := open_fix Tryd.underlying41 (by kernel_rfl) cells Tryd.underlying39 (by kernel_rfl) (hval 0 41 v0 rfl rfl) h0
  obtain ⟨xa0, ea0, rfl, wa0⟩ := DataW.trod_int Tryd.underlying3 hy0a
  obtain ⟨xb0, eb0, rfl, wb0⟩ := DataW.trod_int Tryd.underlying3 hy0b
  obtain ⟨xc0, ec0, rfl, wc0⟩ := DataW.trod_int Tryd.underlying3 hy0c
  obtain ⟨xd0, ed0, rfl, wd0⟩ := DataW.trod_int Tryd.underlying3 hy0d
  obtain ⟨xe0, ee0, rfl, we0⟩ := DataW.trod_int Tryd.underlying3 hy0e
  simp at ea0 eb0 ec0 ed0 ee0
  subst ea0
  subst eb0
  subst ec0
  subst ed0
  subst ee0
  have reads0 : ∀ (W' : World) (sp : Nat → Bool), DataW.Trod enc Tryd.prog W' 0 sp true 41 (.agg #[.int .i64 xa0, .int .i64 xb0, .int .i64 xc0, .int .i64 xd0, .int .i64 xe0]) (.agg [.agg [.lit (.int .i64 xa0), .lit (.int .i64 xb0), .lit (.int .i64 xc0)], .lit (.int .i64 xd0), .lit (.int .i64 xe0)]) [] := fun W' sp =>
    shut_fix (y0 := (.lit (.int .i64 xa0), [])) (y1 := (.lit (.int .i64 xb0), [])) (y2 := (.lit (.int .i64 xc0), [])) (y3 := (.lit (.int .i64 xd0), [])) (y4 := (.lit (.int .i64 xe0), [])) Tryd.underlying41 (by kernel_rfl) cells Tryd.underlying39 (by kernel_rfl) ⟨1, by simp [DataW.trod, Tryd.underlying3, wa0]⟩ ⟨1, by simp [DataW.trod, Tryd.underlying3, wb0]⟩ ⟨1, by simp [DataW.trod, Tryd.underlying3, wc0]⟩ ⟨1, by simp [DataW.trod, Tryd.underlying3, wd0]⟩ ⟨1, by simp [DataW.trod, Tryd.underlying3, we0]⟩
  clear hA0 hval0
  refine (walk xa0 xb0 xc0 xd0 xe0 W wa0 wb0 wc0 wd0 we0 (of_laid hL)).mono fun e W' ⟨he, bel⟩ => ?_
  subst he
  exact ⟨_, rfl, _, _, _, [], _, [], hW', trodAll_mk1 (shut_bool Tryd.underlying4 _), (trodAll_cons_mk (reads0 _ _) trodAll_mk0), rfl, bel.frame _, fun h => by cases h⟩

theorem over : Rows.fnExactFormatFixRow.holds Tryd.pinned (OpenSpec.ofChange Rows.fnExactFormatFixSpec) :=
  OpenClaim.holds_of_wide 6 Tryd.f6 rfl rfl rfl rfl rfl rfl rfl ⟨rfl, rfl, rfl, rfl, rfl⟩ rfl rfl rfl rfl rfl (by kernel_rfl) Tryd.func6 (by kernel_rfl)
    (of_decide_eq_true (by kernel_rfl)) (by unfold Func.isWrapper; first | (rw [if_pos (by decide +kernel)]; kernel_rfl) | (rw [if_neg (by decide +kernel)]; exact ⟨rfl, rfl⟩))
    (fun os started H enc _ => lifted os started H enc)

/-- THE STATEMENT -/
theorem proved : Rows.FnExactFormatFixCardSaid :=
  Claim7.holds_tied_plain_at .later [] [.data, .data, .data] true (true, "7534c950e1b8b3a09554c010951edfac61193f197bf831e8d8661f5276180141") false over (fun _ h => by cases h) (by kernel_rfl) (fun _ h => by cases h) fnExactFormatFix_row_tie rfl ⟨rfl, rfl⟩ (by kernel_rfl) rfl
    (fun f fn hf hfn => by
      obtain rfl : f = 6 := Option.some.inj ((show Tryd.prog.funcNamed "loop.example/satelliteclock/laws.FnExactFormatFix" = some 6 by kernel_rfl).symm.trans hf) |>.symm
      obtain rfl : fn = Tryd.f6 := (Option.some.inj (Tryd.func6.symm.trans hfn)).symm
      exact ⟨by kernel_rfl, fun j t ht => by
        rw [Tryd.params6] at ht
        have hm : t ∈ [41] := by simpa using Array.mem_of_getElem? ht
        have hall : ([41].all fun u => !Tryd.prog.wantsStandIn u) = true := by kernel_rfl
        exact (show Tryd.prog.wantsStandIn t = false by simpa using List.all_eq_true.1 hall t hm)⟩)
    (by kernel_rfl)
#print axioms proved
end Go.Proofs.YtopaglepkpblaaaDoor.fnExactFormatFix
