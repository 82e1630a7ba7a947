/-
  PROVED: FnExactRunClock: for every input the law returns true, and the input reads as it did. No condition.
  The frame is as the kit prints it (proof-skeleton.mjs); the walk is mine.
-/
import Derived.Test.YtmkeddcaeaaoaacRows
import Derived.Test.YtmkeddcaeaaoaacCopyK
import Derived.Test.YtmkeddcaeaaoaacCopyQ
import Derived.Test.YtmkeddcaeaaoaacRunS
import Derived.WalkKit
import Derived.ProofKit
import Derived.OpenShut
import Derived.ShutString
import Derived.ChangeOld
import Derived.Below
import Derived.Lib.SmallJoins
namespace Go.Proofs.Ytmkeddcaeaaoaac.fnExactRunClock
open Go.ChangeShapes Go.WideShapes Go.ChangeAt Go.RowKit Go.Joins
set_option linter.unusedVariables false

theorem own : ownKnob Try.prog.godebug = none := by kernel_rfl
theorem laidOut : laidOutB Try.prog = true := by kernel_rfl
theorem cells : Try.prog.cellsOf 30 = 3 := by kernel_rfl

theorem both_runs (x y z : Int) (l : List Q.Sm) : ∃ X1 X2 X3 : Int, ∃ k : Bool,
    (∀ (B n c : Nat) (a : Option Addr) (w : World), Sms B w a n l → B ≤ w.heap.size → Calls Try.prog 22 #[.agg #[.int .i64 x, .int .i64 y, .int .i64 z], .slice a n c] w fun e w' => e = .returned (.tuple #[.agg #[.int .i64 X1, .int .i64 X2, .int .i64 X3], .bool k]) ∧ Below w.heap.size w w') ∧
    (∀ (B n c : Nat) (a : Option Addr) (w : World), Sms B w a n l → B ≤ w.heap.size → Calls Try.prog 21 #[.agg #[.int .i64 x, .int .i64 y, .int .i64 z], .slice a n c] w fun e w' => e = .returned (.tuple #[.agg #[.int .i64 X1, .int .i64 X2, .int .i64 X3], .bool k]) ∧ Below w.heap.size w w') :=
  ⟨(K.re (x, y, z) l).1, (K.re (x, y, z) l).2.1, (K.re (x, y, z) l).2.2, K.rok (x, y, z) l, fun B n c a w h hB => RC_spec B n c a l (x, y, z) w h hB, fun B n c a w h hB => RC_impl B n c a l (x, y, z) w h hB⟩
set_option maxRecDepth 100000 in
set_option maxHeartbeats 4000000 in
theorem walk (a0 b0 c0 : Int) (a1 : Option Addr) (len1 cap1 : Nat) (w : World) (wa0 : (Lit.int .i64 a0).wf = true) (wb0 : (Lit.int .i64 b0).wf = true) (wc0 : (Lit.int .i64 c0).wf = true) (w1 : SmRow w a1 len1 cap1) :
    Calls Try.prog 8 #[.agg #[.int .i64 a0, .int .i64 b0, .int .i64 c0], .slice a1 len1 cap1] w fun e w' => e = .returned (.bool true) ∧ Below w.heap.size w w' := by
  by_cases hl : 1048576 < len1
  · have hb := smrow_bd w1
    clear w1
    go_enter Try.func8, Try.ntmps8
    go_wp2_with (go_at_call 25; refine (szSampleS_no _ _ _ _ hl hb).mono ?_; rintro e w' ⟨rfl, rfl⟩)
    go_ret
    exact ⟨rfl, (Below.refl _ _).alloc (Nat.le_refl _) _⟩
  have hle : len1 ≤ 1048576 := by omega
  obtain ⟨l, hL⟩ := sm_of w1 hle
  clear w1 hl
  have st := Kq.new (Below.refl w.heap.size w) a0 b0 c0 30
  have hA := (hL.below ((Below.refl w.heap.size w).alloc (Nat.le_refl _) (.cells #[.int .i64 a0, .int .i64 b0, .int .i64 c0] 30))).more (show w.heap.size ≤ (w.alloc (.cells #[.int .i64 a0, .int .i64 b0, .int .i64 c0] 30)).heap.size by simp)
  clear hL
  obtain ⟨X1, X2, X3, k, KS, KI⟩ := both_runs a0 b0 c0 l
  have HS := Lib.hid KS
  have HI := Lib.hid KI
  clear KS KI
  go_enter Try.func8, Try.ntmps8
  go_wp2_with fail
  refine (szSampleS_ok _ _ _ _ hle).mono ?_
  rintro e w0 ⟨⟨z, rfl, hz⟩, rfl⟩
  have hz' : ¬ z < 0 := by omega
  go_wp2_with fail
  refine (toClock_any _ _ _ _).mono ?_
  rintro e w1 ⟨rfl, b1⟩
  have st1 := st.b b1
  have hA1 := (hA.below b1).more b1.size
  clear st hA b1
  go_wp2_with fail
  refine (toSampleS_any len1 cap1 a1 l _ hA1).mono ?_
  rintro e w2 ⟨rfl, hL2, b2⟩
  have st2 := st1.b b2
  have hA2 := (hA1.below b2).more b2.size
  clear st1 hA1 b2
  go_wp2_with fail
  refine (HS.out _ _ _ _ _ hL2 (Nat.le_refl _)).mono ?_
  rintro e w3 ⟨rfl, b3⟩
  have st3 := (st2.b b3).al (.cells #[.int .i64 X1, .int .i64 X2, .int .i64 X3] 24)
  have hA3 := (hA2.below b3).more b3.size
  have hA3' := (hA3.below ((Below.refl w3.heap.size w3).alloc (Nat.le_refl _) (.cells #[.int .i64 X1, .int .i64 X2, .int .i64 X3] 24))).more (show w3.heap.size ≤ (w3.alloc (.cells #[.int .i64 X1, .int .i64 X2, .int .i64 X3] 24)).heap.size by simp)
  have y3 := C3.new w3 X1 X2 X3 24
  clear st2 hA2 hA3 hL2 b3
  go_wp2_with fail
  refine (toSampleS_any len1 cap1 a1 l _ hA3').mono ?_
  rintro e w4 ⟨rfl, hL4, b4⟩
  simp only [World.size_alloc] at hL4
  have st4 := st3.b b4
  have hA4 := (hA3'.below b4).more b4.size
  have y4 := y3.b b4
  have r0 := st4.here.c0
  have r1 := st4.here.c1
  have r2 := st4.here.c2
  clear st3 hA3' y3 b4
  go_wp2_with fail
  refine (toClock_any _ _ _ _).mono ?_
  rintro e w5 ⟨rfl, b5⟩
  have st5 := st4.b b5
  have hA5 := (hA4.below b5).more b5.size
  have hL5 := (hL4.below b5).more b5.size
  have y5 := y4.b b5
  clear st4 hA4 hL4 y4 b5 r0 r1 r2
  go_wp2_with fail
  refine (HI.out _ _ _ _ _ hL5 (Nat.le_refl _)).mono ?_
  rintro e w6 ⟨rfl, b6⟩
  have bb := b6.alloc b6.size (.cells #[.int .i64 X1, .int .i64 X2, .int .i64 X3] 24)
  have st6 := st5.b bb
  have hA6 := (hA5.below bb).more bb.size
  have hL6 := (hL5.below bb).more bb.size
  have y6 := y5.b bb
  have u6 := C3.new w6 X1 X2 X3 24
  have r0 := y6.c0
  have r1 := y6.c1
  have r2 := y6.c2
  have s0 := u6.c0
  have s1 := u6.c1
  have s2 := u6.c2
  clear st5 hA5 hL5 y5 b6 bb u6 y6
  go_wp2_with fail
  refine (eqClock_same _ _ _ _).mono ?_
  rintro e w7 ⟨rfl, b7⟩
  have st7 := st6.b b7
  have hA7 := (hA6.below b7).more b7.size
  have hL7 := (hL6.below b7).more b7.size
  clear st6 hA6 hL6 b7 r0 r1 r2 s0 s1 s2
  go_wp2_with fail
  refine (toSampleS_any len1 cap1 a1 l _ hA7).mono ?_
  rintro e w8 ⟨rfl, hL8, b8⟩
  have st8 := st7.b b8
  have hX8 := (hL7.below b8).more b8.size
  clear st7 hA7 hL7 b8
  go_wp2_with fail
  refine (eqSampleS_same _ _ _ _ _ l _ hX8 hL8).mono ?_
  rintro e w9 ⟨rfl, b9⟩
  have st9 := st8.b (b9.mono (Nat.le_refl _))
  clear st8 hX8 hL8 b9
  go_wp2
  go_ret
  exact ⟨rfl, st9.bel⟩

/-! ### THE ROW -/
set_option maxRecDepth 100000 in
theorem lifted (os : Os) (started : os.Started) (H : Type) (enc : TypeId × Value → H) :
    ReturnsInHanded {} Try.checked os 8 .any (Rows.fnExactRunClockSpec.pre6 enc Try.prog Try.f8 Rows.fnExactRunClockRow.domain false) (Rows.fnExactRunClockSpec.post enc Try.prog Try.f8 false true false false) := by
  refine returnsInHanded_of_change (C := Try.checked) own started (by kernel_rfl) Try.func8
    (ChangeSpec.witness6 (enc := enc) (C := Try.checked) false ⟨#[], #[.agg #[.int .i64 0, .int .i64 0, .int .i64 0], .slice none 0 0], []⟩ 8 (by kernel_rfl) (by kernel_rfl) (by kernel_rfl) (by kernel_rfl)) ?_
  intro W base args ds gs before hval0 hW hcnd _
  have hval : ∀ (j : Nat) t v, Try.f8.params[j]? = some t → args[j]? = some v → Value.okWide Try.prog W .any base t v := hval0
  have hW' := hW
  obtain ⟨p, q, hA0, hV, rfl, hfz, hnd⟩ := hW
  have hA : DataW.TrodAll enc Try.prog W 0 (fun _ => true) true Try.f8.params.toList args.toList ds p := hA0
  rw [Try.params8] at hA hval
  obtain ⟨v0, vs0, d0, ds0, p0, q0, hargs, rfl, rfl, h0, r0⟩ := trodAll_cons hA
  obtain ⟨v1, vs1, d1, ds1, p1, q1, rfl, rfl, rfl, h1, r1⟩ := trodAll_cons r0
  obtain ⟨rfl, rfl, rfl⟩ := trodAll_nil r1
  obtain rfl : args = #[v0, v1] := by cases args; simp_all
  obtain ⟨rfl, rfl⟩ := trodVars_none hV
  obtain ⟨u0, u0_, u0__, y0, y0_, y0__, m0, rfl, rfl, rfl, hy0, hy0_, hy0__⟩ := open_agg3 Try.underlying30 (by kernel_rfl) cells (hval 0 30 v0 rfl rfl) h0
  obtain ⟨a0, ea0, rfl, wa0⟩ := DataW.trod_int Try.underlying3 hy0
  obtain ⟨b0, eb0, rfl, wb0⟩ := DataW.trod_int Try.underlying3 hy0_
  obtain ⟨c0, ec0, rfl, wc0⟩ := DataW.trod_int Try.underlying3 hy0__
  simp at ea0 eb0 ec0
  subst ea0 eb0 ec0
  obtain ⟨a1, len1, cap1, rfl⟩ := okWide_slice Try.underlying42 (hval 1 42 v1 rfl rfl)
  have k1 := h1
  have lt1 : ∀ x ∈ p1, x.block < W.heap.size := by obtain ⟨m, hm⟩ := k1; exact DataW.trod_lt m _ _ _ hm
  have w1 : SmRow W a1 len1 cap1 := by obtain ⟨fuel, hf⟩ := h1; exact smrow hf
  have reads0 : ∀ (W' : World) (sp : Nat → Bool), DataW.Trod enc Try.prog W' 0 sp true 30 (.agg #[.int .i64 a0, .int .i64 b0, .int .i64 c0]) (.agg [.lit (.int .i64 a0), .lit (.int .i64 b0), .lit (.int .i64 c0)]) [] := fun W' sp =>
    shut_agg3 (y0 := (.lit (.int .i64 a0), [])) (y1 := (.lit (.int .i64 b0), [])) (y2 := (.lit (.int .i64 c0), [])) Try.underlying30 (by kernel_rfl) cells ⟨1, by simp [DataW.trod, Try.underlying3, wa0]⟩ ⟨1, by simp [DataW.trod, Try.underlying3, wb0]⟩ ⟨1, by simp [DataW.trod, Try.underlying3, wc0]⟩
  clear hA0 hval0
  refine (walk a0 b0 c0 a1 len1 cap1 W wa0 wb0 wc0 w1).mono fun e W' ⟨he, bel⟩ => ?_
  subst he
  exact ⟨_, rfl, _, _, _, [], _, [], hW', trodAll_mk1 (shut_bool Try.underlying4 _), (trodAll_cons_mk (reads0 _ _) (trodAll_cons_mk (Below.trod laidOut (by kernel_rfl) (of_decide_eq_true (by kernel_rfl)) k1 bel lt1) trodAll_mk0)), rfl, bel.frame _, fun h => by cases h⟩

theorem over : Rows.fnExactRunClockRow.holds Try.pinned (OpenSpec.ofChange Rows.fnExactRunClockSpec) :=
  OpenClaim.holds_of_wide 8 Try.f8 rfl rfl rfl rfl rfl rfl rfl ⟨rfl, rfl, rfl, rfl, rfl⟩ rfl rfl rfl rfl rfl (by kernel_rfl) Try.func8 (by kernel_rfl)
    (of_decide_eq_true (by kernel_rfl)) (by unfold Func.isWrapper; first | (rw [if_pos (by decide +kernel)]; kernel_rfl) | (rw [if_neg (by decide +kernel)]; exact ⟨rfl, rfl⟩))
    (fun os started H enc _ => lifted os started H enc)

/-- THE STATEMENT -/
theorem proved : Rows.FnExactRunClockSaid := over
#print axioms proved
end Go.Proofs.Ytmkeddcaeaaoaac.fnExactRunClock
