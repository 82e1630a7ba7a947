/-
  PROVED: FnExactValidBuckets: for every input the law returns true, and the input reads as it did. No condition.
  The frame is as the kit prints it (proof-skeleton.mjs); the walk is mine.
-/
import Derived.Test.YtoaaedbfjbgakaaRows
import Derived.Test.YtoaaedbfjbgakaaCopyBk
import Derived.Test.YtoaaedbfjbgakaaBuck
import Derived.Test.YtoaaedbfjbgakaaJoin
import Derived.WalkKit
import Derived.ProofKit
import Derived.OpenShut
import Derived.ShutString
import Derived.ChangeOld
import Derived.Below
namespace Go.Proofs.Ytoaaedbfjbgakaa.fnExactValidBuckets
open Go.ChangeShapes Go.WideShapes Go.ChangeAt Go.RowKit
set_option linter.unusedVariables false

theorem own : ownKnob Try.prog.godebug = none := by kernel_rfl
theorem laidOut : laidOutB Try.prog = true := by kernel_rfl

set_option maxRecDepth 100000 in
set_option maxHeartbeats 4000000 in
theorem walk (a0 : Option Addr) (len0 cap0 : Nat) (w : World) (w0 : BkRow w a0 len0 cap0) :
    Calls Try.prog 3 #[.slice a0 len0 cap0] w fun e w' => e = .returned (.bool true) ∧ Below w.heap.size w w' := by
  by_cases hl : 1048576 < len0
  · have hb := bkrow_bd w0
    clear w0
    go_enter Try.func3, Try.ntmps3
    go_wp2_with (go_at_call 16; refine (szBucketS_no _ _ _ _ hl hb).mono ?_; rintro e w' ⟨rfl, rfl⟩)
    go_ret
    exact ⟨rfl, Below.refl _ _⟩
  have hle : len0 ≤ 1048576 := by omega
  obtain ⟨l, hL⟩ := bk_of w0 hle
  clear w0 hl
  go_enter Try.func3, Try.ntmps3
  go_wp2_with fail
  refine (szBucketS_ok _ _ _ _ hle).mono ?_
  rintro e w1 ⟨⟨z, rfl, hz⟩, rfl⟩
  have hz' : ¬ z < 0 := by omega
  go_wp2_with fail
  refine (toBucketS_any len0 cap0 a0 l w hL).mono ?_
  rintro e w2 ⟨rfl, hL2, b2⟩
  have hA2 := (hL.below b2).more b2.size
  go_wp2_with fail
  refine (VB_spec _ _ _ _ _ _ hL2).mono ?_
  rintro e w3 ⟨rfl, q3⟩
  have b3 : Below w2.heap.size w2 w3 := q3.below
  have b3' := b3
  have hA3 := (hA2.below b3').more b3'.size
  have b03 := b2.trans (b3'.mono b2.size)
  clear hA2 hL2 b3 b3' b2
  go_wp2_with fail
  refine (toBucketS_any len0 cap0 a0 l _ hA3).mono ?_
  rintro e w4 ⟨rfl, hL4, b4⟩
  have hA4 := (hA3.below b4).more b4.size
  have b04 := b03.trans (b4.mono b03.size)
  clear hA3 b03
  go_wp2_with fail
  refine (vb_impl _ _ _ _ _ hL4).mono ?_
  rintro e w5 ⟨rfl, b5⟩
  have b5' := b5
  have hL5 := (hL4.below b5').more b5'.size
  have hA5 := (hA4.below b5').more b5'.size
  have b05 := b04.trans (b5'.mono b04.size)
  clear hA4 hL4 b5 b5' b04 b4
  go_wp2_with fail
  refine (toBucketS_any len0 cap0 a0 l _ hA5).mono ?_
  rintro e w7 ⟨rfl, hL7, b7⟩
  have hX7 := (hL5.below b7).more b7.size
  have b07 := b05.trans (b7.mono b05.size)
  clear hA5 hL5 b05 b7
  go_wp2_with fail
  refine (eqBucketS_same _ _ _ _ _ l _ hX7 hL7).mono ?_
  rintro e w8 ⟨rfl, b8⟩
  have b08 := b07.trans (b8.mono b07.size)
  clear hX7 hL7 b07 b8
  go_wp2
  go_ret
  exact ⟨rfl, b08⟩

/-! ### THE ROW -/
set_option maxRecDepth 100000 in
theorem lifted (os : Os) (started : os.Started) (H : Type) (enc : TypeId × Value → H) :
    ReturnsInHanded {} Try.checked os 3 .any (Rows.fnExactValidBucketsSpec.pre6 enc Try.prog Try.f3 Rows.fnExactValidBucketsRow.domain false) (Rows.fnExactValidBucketsSpec.post enc Try.prog Try.f3 false true false false) := by
  refine returnsInHanded_of_change (C := Try.checked) own started (by kernel_rfl) Try.func3
    (ChangeSpec.witness6 (enc := enc) (C := Try.checked) false ⟨#[], #[.slice none 0 0], []⟩ 8 (by kernel_rfl) (by kernel_rfl) (by kernel_rfl) (by kernel_rfl)) ?_
  intro W base args ds gs before hval0 hW hcnd _
  have hval : ∀ (j : Nat) t v, Try.f3.params[j]? = some t → args[j]? = some v → Value.okWide Try.prog W .any base t v := hval0
  have hW' := hW
  obtain ⟨p, q, hA0, hV, rfl, hfz, hnd⟩ := hW
  have hA : DataW.TrodAll enc Try.prog W 0 (fun _ => true) true Try.f3.params.toList args.toList ds p := hA0
  rw [Try.params3] at hA hval
  obtain ⟨v0, vs0, d0, ds0, p0, q0, hargs, rfl, rfl, h0, r0⟩ := trodAll_cons hA
  obtain ⟨rfl, rfl, rfl⟩ := trodAll_nil r0
  obtain rfl : args = #[v0] := by cases args; simp_all
  obtain ⟨rfl, rfl⟩ := trodVars_none hV
  obtain ⟨a0, len0, cap0, rfl⟩ := okWide_slice Try.underlying22 (hval 0 22 v0 rfl rfl)
  have k0 := h0
  have lt0 : ∀ x ∈ p0, x.block < W.heap.size := by obtain ⟨m, hm⟩ := k0; exact DataW.trod_lt m _ _ _ hm
  have w0 : BkRow W a0 len0 cap0 := by obtain ⟨fuel, hf⟩ := h0; exact bkrow hf
  clear hA0 hval0
  refine (walk a0 len0 cap0 W w0).mono fun e W' ⟨he, bel⟩ => ?_
  subst he
  exact ⟨_, rfl, _, _, _, [], _, [], hW', trodAll_mk1 (shut_bool Try.underlying4 _), (trodAll_cons_mk (Below.trod laidOut (by kernel_rfl) (of_decide_eq_true (by kernel_rfl)) k0 bel lt0) trodAll_mk0), rfl, bel.frame _, fun h => by cases h⟩

theorem closed : joinedFacts Try.pinned.checked.prog 3 Try.f3 Rows.fnExactValidBucketsSpec Rows.fnExactValidBucketsRow = true := by
  unfold joinedFacts
  rw [mayJ, liftsJ, makeJ]
  kernel_rfl

theorem over : Rows.fnExactValidBucketsRow.holds Try.pinned (OpenSpec.ofChange Rows.fnExactValidBucketsSpec) :=
  OpenClaim.holds_of_wide 3 Try.f3 rfl rfl rfl rfl rfl rfl rfl ⟨rfl, rfl, rfl, rfl, rfl⟩ rfl rfl rfl rfl rfl (by kernel_rfl) Try.func3 closed
    (of_decide_eq_true (by kernel_rfl)) (by unfold Func.isWrapper; first | (rw [if_pos (by decide +kernel)]; kernel_rfl) | (rw [if_neg (by decide +kernel)]; exact ⟨rfl, rfl⟩))
    (fun os started H enc _ => lifted os started H enc)

/-- THE STATEMENT -/
theorem proved : Rows.FnExactValidBucketsSaid := over
#print axioms proved
end Go.Proofs.Ytoaaedbfjbgakaa.fnExactValidBuckets
